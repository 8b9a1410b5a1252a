/-
  WALKS of layer 13: runs and rows in memory; how many have begun, and At.
-/
import Derived.Test.YtbknmapkdjmcjaaGreatDoorGc
namespace Go.Proofs.YtbknmapkdjmcjaaGreatDoor.By
open Go.RowKit
open Mem Gm Rf

/-- A row: its function, its frame, whether calls may be pending, its line. -/
abbrev Ro := Int × Int × Bool × Int
/-- A run: where it is from, and its row. -/
abbrev Rn := Int × Ro
def encRo (r : Ro) : List Value := [.int .i64 r.1, .int .i64 r.2.1, .bool r.2.2.1, .int .i64 r.2.2.2]
def encRn (x : Rn) : List Value := [.int .i64 x.1, .int .i64 x.2.1, .int .i64 x.2.2.1, .bool x.2.2.2.1, .int .i64 x.2.2.2.2]
def ro0 : Ro := (0, 0, false, 0)
def rn0 : Rn := (0, ro0)
def rnAt (l : List Rn) (i : Nat) : Rn := l.getD i rn0
def roAt (l : List Ro) (i : Nat) : Ro := l.getD i ro0
theorem rnAt_some {l : List Rn} {i : Nat} (h : i < l.length) : l[i]? = some (rnAt l i) := by unfold rnAt; rw [List.getD_eq_getElem?_getD, List.getElem?_eq_getElem h]; rfl
theorem roAt_some {l : List Ro} {i : Nat} (h : i < l.length) : l[i]? = some (roAt l i) := by unfold roAt; rw [List.getD_eq_getElem?_getD, List.getElem?_eq_getElem h]; rfl

section
variable {α : Type} {k : Nat} {enc : α → List Value} {w w' : World} {B B' n c : Nat} {v : Value} {A : Option Addr} {l : List α}

/-- A slice, nil or not, of elements of k cells each: it reads as l, and lies below B. -/
def Wd (k : Nat) (enc : α → List Value) (w : World) (B : Nat) (A : Option Addr) (n c : Nat) (l : List α) : Prop :=
  l.length = n ∧ n ≤ c ∧ c ≤ maxLen ∧ (A = none → c = 0) ∧ ∀ i x, l[i]? = some x → ∃ ad, A = some ad ∧ ad.block < B ∧ ∀ j u, (enc x)[j]? = some u → w.cell? ((ad.add (i * k)).add j) = some u

theorem Wd.keep (h : Wd k enc w B A n c l) (hk : ∀ p : Addr, p.block < B → w'.cell? p = w.cell? p) : Wd k enc w' B A n c l :=
  ⟨h.1, h.2.1, h.2.2.1, h.2.2.2.1, fun i x hi => by
    obtain ⟨ad, e, hb, hc⟩ := h.2.2.2.2 i x hi
    exact ⟨ad, e, hb, fun j u hu => (hk _ (by rw [add_block, add_block]; exact hb)).trans (hc j u hu)⟩⟩
theorem Wd.below (h : Wd k enc w B A n c l) (hb : Below B w w') : Wd k enc w' B A n c l := h.keep fun _ hp => hb.cell hp
theorem Wd.more (h : Wd k enc w B A n c l) (hB : B ≤ B') : Wd k enc w B' A n c l :=
  ⟨h.1, h.2.1, h.2.2.1, h.2.2.2.1, fun i x hi => by
    obtain ⟨ad, e, hb, hc⟩ := h.2.2.2.2 i x hi
    exact ⟨ad, e, by omega, hc⟩⟩
theorem Wd.nil : Wd k enc w B none 0 0 ([] : List α) := ⟨rfl, Nat.le_refl _, Nat.zero_le _, fun _ => rfl, fun i x hi => by simp at hi⟩
theorem Wd.drop {ad : Addr} (h : Wd k enc w B (some ad) n c l) (m : Nat) (hm : m ≤ n) : Wd k enc w B (some (ad.add (m * k))) (n - m) (c - m) (l.drop m) :=
  ⟨by rw [List.length_drop, h.1], by have := h.2.1; omega, by have := h.2.2.1; omega, fun e => by simp at e, fun i x hi => by
    rw [List.getElem?_drop] at hi
    obtain ⟨ad', e, hb, hc⟩ := h.2.2.2.2 _ x hi
    injection e with e
    subst e
    refine ⟨_, rfl, by rw [add_block]; exact hb, fun j u hu => ?_⟩
    rw [add_twice ad (m * k) (i * k), ← Nat.add_mul]; exact hc j u hu⟩
end

theorem add_field (x : Addr) (j : Nat) (hj : 0 < j) : x.add j = ⟨x.block, x.off + j, none⟩ := by
  unfold Addr.add
  rw [if_neg (by omega)]

def RnL (w : World) (A : Option Addr) (n c : Nat) (l : List Rn) : Prop := Wd 5 encRn w w.heap.size A n c l
def RoL (w : World) (A : Option Addr) (n c : Nat) (l : List Ro) : Prop := Wd 4 encRo w w.heap.size A n c l

/-- A run's cells, at the addresses that the walk reckons. -/
theorem RnL.at_ {w : World} {A : Option Addr} {n c : Nat} {l : List Rn} (h : RnL w A n c l) {i : Nat} (hi : i < n) :
    ∃ ad, A = some ad ∧ ad.block < w.heap.size ∧ w.cell? (ad.add (i * 5)) = some (.int .i64 (rnAt l i).1) ∧ w.cell? ⟨(ad.add (i * 5)).block, (ad.add (i * 5)).off + 1, none⟩ = some (.int .i64 (rnAt l i).2.1) ∧ w.cell? ⟨(ad.add (i * 5)).block, (ad.add (i * 5)).off + 2, none⟩ = some (.int .i64 (rnAt l i).2.2.1) ∧ w.cell? ⟨(ad.add (i * 5)).block, (ad.add (i * 5)).off + 3, none⟩ = some (.bool (rnAt l i).2.2.2.1) ∧ w.cell? ⟨(ad.add (i * 5)).block, (ad.add (i * 5)).off + 4, none⟩ = some (.int .i64 (rnAt l i).2.2.2.2) := by
  obtain ⟨ad, e, hb, hc⟩ := h.2.2.2.2 i _ (rnAt_some (by rw [h.1]; exact hi))
  have h0 := hc 0 _ rfl
  have h1 := hc 1 _ rfl
  have h2 := hc 2 _ rfl
  have h3 := hc 3 _ rfl
  have h4 := hc 4 _ rfl
  rw [add_field _ 1 (by omega)] at h1
  rw [add_field _ 2 (by omega)] at h2
  rw [add_field _ 3 (by omega)] at h3
  rw [add_field _ 4 (by omega)] at h4
  exact ⟨ad, e, hb, h0, h1, h2, h3, h4⟩

theorem RoL.at_ {w : World} {A : Option Addr} {n c : Nat} {l : List Ro} (h : RoL w A n c l) {i : Nat} (hi : i < n) :
    ∃ ad, A = some ad ∧ ad.block < w.heap.size ∧ w.cell? (ad.add (i * 4)) = some (.int .i64 (roAt l i).1) ∧ w.cell? ⟨(ad.add (i * 4)).block, (ad.add (i * 4)).off + 1, none⟩ = some (.int .i64 (roAt l i).2.1) ∧ w.cell? ⟨(ad.add (i * 4)).block, (ad.add (i * 4)).off + 2, none⟩ = some (.bool (roAt l i).2.2.1) ∧ w.cell? ⟨(ad.add (i * 4)).block, (ad.add (i * 4)).off + 3, none⟩ = some (.int .i64 (roAt l i).2.2.2) := by
  obtain ⟨ad, e, hb, hc⟩ := h.2.2.2.2 i _ (roAt_some (by rw [h.1]; exact hi))
  have h0 := hc 0 _ rfl
  have h1 := hc 1 _ rfl
  have h2 := hc 2 _ rfl
  have h3 := hc 3 _ rfl
  rw [add_field _ 1 (by omega)] at h1
  rw [add_field _ 2 (by omega)] at h2
  rw [add_field _ 3 (by omega)] at h3
  exact ⟨ad, e, hb, h0, h1, h2, h3⟩

theorem RnL.on {w w' : World} {A : Option Addr} {n c : Nat} {l : List Rn} (h : RnL w A n c l) (hb : Below w.heap.size w w') : RnL w' A n c l := (Wd.below h hb).more hb.size
theorem RoL.on {w w' : World} {A : Option Addr} {n c : Nat} {l : List Ro} (h : RoL w A n c l) (hb : Below w.heap.size w w') : RoL w' A n c l := (Wd.below h hb).more hb.size
theorem RnL.few {w : World} {A : Option Addr} {n c : Nat} {l : List Rn} (h : RnL w A n c l) : n ≤ 9223372036854775807 := by
  have h1 := h.2.1
  have h2 := h.2.2.1
  unfold maxLen at h2; omega
theorem RoL.few {w : World} {A : Option Addr} {n c : Nat} {l : List Ro} (h : RoL w A n c l) : n ≤ 9223372036854775807 := by
  have h1 := h.2.1
  have h2 := h.2.2.1
  unfold maxLen at h2; omega
theorem to_ {w w' w'' : World} (h : Below w.heap.size w w') (k : Below w'.heap.size w' w'') : Below w.heap.size w w'' := h.trans (k.mono h.size)
theorem alloc_ (w : World) (o : Obj) : Below w.heap.size w (w.alloc o) := (Below.refl _ w).alloc (Nat.le_refl _) o

/-- How many runs have begun at a place. -/
def bg (l : List Rn) (p : Int) : Nat := (l.takeWhile fun x => decide (x.1 ≤ p)).length

theorem bg_le (l : List Rn) (p : Int) : bg l p ≤ l.length := (List.takeWhile_prefix _).length_le
theorem bg_lt {l : List Rn} {p : Int} {i : Nat} (h : i < bg l p) : (rnAt l i).1 ≤ p := by
  induction l generalizing i with
  | nil => simp [bg] at h
  | cons x l ih =>
    by_cases hx : x.1 ≤ p
    · have e : bg (x :: l) p = bg l p + 1 := by unfold bg; rw [List.takeWhile_cons, if_pos (by simpa using hx)]; rfl
      cases i with
      | zero => exact hx
      | succ i => exact ih (by omega)
    · have e : bg (x :: l) p = 0 := by unfold bg; rw [List.takeWhile_cons, if_neg (by simpa using hx)]; rfl
      omega
theorem bg_at {l : List Rn} {p : Int} (h : bg l p < l.length) : p < (rnAt l (bg l p)).1 := by
  induction l with
  | nil => simp at h
  | cons x l ih =>
    by_cases hx : x.1 ≤ p
    · have e : bg (x :: l) p = bg l p + 1 := by unfold bg; rw [List.takeWhile_cons, if_pos (by simpa using hx)]; rfl
      rw [e] at h ⊢
      exact ih (by simpa using h)
    · have e : bg (x :: l) p = 0 := by unfold bg; rw [List.takeWhile_cons, if_neg (by simpa using hx)]; rfl
      rw [e]
      show p < x.1
      omega
theorem bg_is {l : List Rn} {p : Int} {i : Nat} (h1 : ∀ j, j < i → (rnAt l j).1 ≤ p) (hi : i ≤ l.length) (h2 : i < l.length → p < (rnAt l i).1) : bg l p = i := by
  rcases Nat.lt_trichotomy (bg l p) i with h | h | h
  · have := h1 _ h
    have := bg_at (l := l) (p := p) (by omega)
    omega
  · exact h
  · have := bg_lt h
    have := h2 (by have := bg_le l p; omega)
    omega

end Go.Proofs.YtbknmapkdjmcjaaGreatDoor.By
