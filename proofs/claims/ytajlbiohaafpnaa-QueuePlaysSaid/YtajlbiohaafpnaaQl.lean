/-
  WALKS of layer 6: the document's own lists: At.
-/
import Derived.Test.YtajlbiohaafpnaaQe
namespace Go.Proofs.Ytajlbiohaafpnaa.Qu
open Go.RowKit Go.Maps
open Mem Hp

/-- A slice of the document's own items, that reads as l, and lies in a block of F. -/
inductive Lst (w : World) (F : Nat → Prop) : Value → List It → Prop
  | empty (A : Option Addr) (c : Nat) (hc : c ≤ maxLen) : Lst w F (.slice A 0 c) []
  | at_ (g off c : Nat) (l : List It) (hF : F g) (h0 : 0 < l.length) (hc : l.length ≤ c) (hm : c ≤ maxLen) (h : ∀ i x, l[i]? = some x → w.cell? ⟨g, off + i * 2, none⟩ = some (.int .i64 x.1) ∧ w.cell? ⟨g, off + i * 2 + 1, none⟩ = some (.int .i64 x.2)) :
      Lst w F (.slice (some ⟨g, off, none⟩) l.length c) l

theorem Lst.form {w : World} {F : Nat → Prop} {v : Value} {l : List It} (h : Lst w F v l) : ∃ A c, v = .slice A l.length c ∧ c ≤ maxLen ∧ l.length ≤ c := by
  cases h with
  | empty A c hc => exact ⟨A, c, rfl, hc, Nat.zero_le _⟩
  | at_ g off c _ hF h0 hc hm h => exact ⟨_, c, rfl, hm, hc⟩

theorem Lst.there {w : World} {F : Nat → Prop} {v : Value} {l : List It} (h : Lst w F v l) (h0 : 0 < l.length) : ∃ g off c, v = .slice (some ⟨g, off, none⟩) l.length c ∧ F g ∧ l.length ≤ c ∧ c ≤ maxLen ∧
    ∀ i x, l[i]? = some x → w.cell? ⟨g, off + i * 2, none⟩ = some (.int .i64 x.1) ∧ w.cell? ⟨g, off + i * 2 + 1, none⟩ = some (.int .i64 x.2) := by
  cases h with
  | empty A c hc => simp at h0
  | at_ g off c _ hF h0 hc hm h => exact ⟨g, off, c, rfl, hF, hc, hm, h⟩

theorem Lst.keep {w w' : World} {F F' : Nat → Prop} {v : Value} {l : List It} (h : Lst w F v l) (hk : ∀ g, F g → g < w.heap.size → F' g ∧ w'.heap[g]? = w.heap[g]?) : Lst w' F' v l := by
  cases h with
  | empty A c hc => exact .empty A c hc
  | at_ g off c _ hF h0 hc hm h =>
    have hg : g < w.heap.size := World.block_lt_of_cell? w _ (h 0 _ (List.getElem?_eq_getElem h0)).1
    obtain ⟨hf, hb⟩ := hk g hF hg
    exact .at_ g off c l hf h0 hc hm fun i x hx => ⟨(World.cell?_of_block (a := ⟨g, _, none⟩) hb).trans (h i x hx).1, (World.cell?_of_block (a := ⟨g, _, none⟩) hb).trans (h i x hx).2⟩

theorem Lst.below {w w' : World} {F : Nat → Prop} {v : Value} {l : List It} (h : Lst w F v l) (hb : Below w.heap.size w w') : Lst w' F v l := h.keep fun g hF hg => ⟨hF, hb.block g hg⟩
theorem Lst.more {w : World} {F F' : Nat → Prop} {v : Value} {l : List It} (h : Lst w F v l) (hk : ∀ g, F g → F' g) : Lst w F' v l := h.keep fun g hF _ => ⟨hk g hF, rfl⟩

/-- The first item off. -/
theorem Lst.rest {w : World} {F : Nat → Prop} {g off n c : Nat} {x : It} {l : List It} (h : Lst w F (.slice (some ⟨g, off, none⟩) n c) (x :: l)) (A : Option Addr) (hA : 0 < l.length → A = some ⟨g, off + 2, none⟩) : Lst w F (.slice A l.length (c - 1)) l := by
  obtain ⟨g', off', c', e, hF, hc, hm, hi⟩ := h.there (by simp)
  simp only [Value.slice.injEq, Option.some.injEq, Addr.mk.injEq, and_true] at e
  obtain ⟨⟨rfl, rfl⟩, _, rfl⟩ := e
  cases l with
  | nil => exact .empty A _ (by omega)
  | cons y l =>
    rw [hA (by simp)]
    refine .at_ g (off + 2) (c - 1) _ hF (by simp) (by simp at hc ⊢; omega) (by omega) fun i z hz => ?_
    have := hi (i + 1) z (by simpa using hz)
    rw [show off + (i + 1) * 2 = off + 2 + i * 2 by omega] at this
    exact this

set_option maxHeartbeats 1000000 in
theorem at_yes (w : World) (F : Nat → Prop) (v : Value) (l : List It) (h : Lst w F v l) (hl : l.length ≤ 1000) (k : Nat) (hk : k < l.length) (a : Int) (ha : l[k].1 = a) (hno : ∀ j (hj : j < l.length), j < k → l[j].1 ≠ a) :
    Calls Try.prog 9 #[v, .int .i64 a] w fun e w' => e = .returned (.int .i64 k) ∧ w = w' := by
  obtain ⟨g, off, c, rfl, _, hc, hm, hi⟩ := h.there (by omega)
  have HI := Lib.hid hi
  have HA := Lib.hid ha
  have HN := Lib.hid hno
  obtain ⟨n, hn⟩ : ∃ n, l.length = n := ⟨_, rfl⟩
  have HL := Lib.hid hn
  unfold maxLen at hm
  rw [hn] at hl hk hc ⊢
  clear h hi ha hno hn
  go_enter Try.func9, Try.ntmps9
  go_wp2_with fail
  go_loop [5] (fun u => ∃ i : Nat, i ≤ k ∧ u = .int .i64 i) (fun u => k - (intOf u).toNat)
  case atStart => exact ⟨0, by omega, rfl⟩
  case round =>
    obtain ⟨i, hik, rfl⟩ := hrel
    have hin : i < l.length := by rw [HL.out]; omega
    have c0 := (HI.out i _ (List.getElem?_eq_getElem hin)).1
    have hlt : i < n := by omega
    by_cases e : i = k
    · subst e
      rw [show l[i].1 = a from HA.out] at c0
      clear hin
      go_wp2
      go_ret
      exact ⟨rfl, rfl⟩
    · have hne := HN.out i hin (by omega)
      generalize l[i].1 = b at c0 hne
      have hb : (b == a) = false := by simpa using hne
      clear hne hin
      go_wp2
      go_round
      case rel => exact ⟨i + 1, by omega, by go_num⟩
      case measure => simp [intOf]; omega

set_option maxHeartbeats 1000000 in
theorem at_no (w : World) (F : Nat → Prop) (v : Value) (l : List It) (h : Lst w F v l) (hl : l.length ≤ 1000) (a : Int) (hno : ∀ j (hj : j < l.length), l[j].1 ≠ a) :
    Calls Try.prog 9 #[v, .int .i64 a] w fun e w' => e = .returned (.int .i64 (-1)) ∧ w = w' := by
  obtain ⟨A, c, rfl, hm, hc⟩ := h.form
  have HH := Lib.hid h
  have HN := Lib.hid hno
  obtain ⟨n, hn⟩ : ∃ n, l.length = n := ⟨_, rfl⟩
  have HL := Lib.hid hn
  rw [hn] at hl ⊢
  clear h hno hn hm hc
  go_enter Try.func9, Try.ntmps9
  go_wp2_with fail
  go_loop [5] (fun u => ∃ i : Nat, i ≤ n ∧ u = .int .i64 i) (fun u => n - (intOf u).toNat)
  case atStart => exact ⟨0, by omega, rfl⟩
  case round =>
    obtain ⟨i, hin, rfl⟩ := hrel
    by_cases hlt : i < n
    · have hil : i < l.length := by rw [HL.out]; exact hlt
      obtain ⟨g, off, c', e, _, hc, hm, hi⟩ := HH.out.there (by omega)
      simp only [Value.slice.injEq] at e
      obtain ⟨rfl, _, rfl⟩ := e
      have c0 := (hi i _ (List.getElem?_eq_getElem hil)).1
      have hne := HN.out i hil
      generalize l[i].1 = b at c0 hne
      have hb : (b == a) = false := by simpa using hne
      clear hne hil hi hc hm
      go_wp2
      go_round
      case rel => exact ⟨i + 1, by omega, by go_num⟩
      case measure => simp [intOf]; omega
    · obtain rfl : i = n := by omega
      go_wp2
      go_ret
      exact ⟨rfl, rfl⟩
end Go.Proofs.Ytajlbiohaafpnaa.Qu
