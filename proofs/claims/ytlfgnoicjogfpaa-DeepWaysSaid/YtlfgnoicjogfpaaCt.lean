/-
  ORDERS, in plain mathematics: of those that wait the least one to whom nobody leads that waits, as long as there are some. MATHEMATICS of layer 11: what an order is: each that waits once, and every edge leads on; where there is one, nobody is on a circle.
-/
import Derived.Test.YtlfgnoicjogfpaaCh
import Derived.Test.YtlfgnoicjogfpaaCb
namespace Go.Proofs.Ytlfgnoicjogfpaa.By
open Go.RowKit
open Mem Gm Rf Hp Qu

def minus (T : Nat → Bool) (p : Nat) : Nat → Bool := fun i => T i && !(i == p)
theorem minus_ne {T : Nat → Bool} {p a : Nat} (h : a ≠ p) : minus T p a = T a := by
  have : (a == p) = false := by simpa using h
  unfold minus; rw [this]; simp
/-- The least one of those that wait to whom nobody leads that waits. -/
def pick (n : Nat) (R : Nat → Nat → Bool) (T : Nat → Bool) : Option Nat := (List.range n).find? fun p => T p && (List.range n).all fun a => !(T a && R a p)
/-- The order of those that wait; none: there is none. -/
def ordL (n : Nat) (R : Nat → Nat → Bool) : Nat → (Nat → Bool) → Option (List Nat)
  | 0, T => if (List.range n).all (fun p => !T p) then some [] else none
  | f + 1, T => if (List.range n).all (fun p => !T p) then some [] else match pick n R T with
    | none => none
    | some p => (ordL n R f (minus T p)).map (p :: ·)

/-- How many wait. -/
def many (n : Nat) (T : Nat → Bool) : Nat := ((List.range n).filter T).length

theorem cnt_zero {n : Nat} {R : Nat → Nat → Bool} {T : Nat → Bool} {p : Nat} : cntT n R T p = 0 ↔ ((List.range n).all fun a => !(T a && R a p)) = true := by
  unfold cntT
  rw [List.length_eq_zero_iff, List.filter_eq_nil_iff, List.all_eq_true]
  constructor
  · intro h a ha
    have h1 := h a ha
    cases hx : (T a && R a p) with
    | false => rfl
    | true => exact absurd hx h1
  · intro h a ha hx
    have h1 := h a ha
    rw [hx] at h1; cases h1

/-- The least of all, by number and place, is the one that is picked, if nobody leads to it; else there is none. -/
theorem pick_least {n : Nat} {R : Nat → Nat → Bool} {T : Nat → Bool} {p : Nat} (hp : p < n) (hT : T p = true) (hle : ∀ y, SQ n R T y → le ((p : Int), (cntT n R T p : Int)) y) :
    pick n R T = if cntT n R T p = 0 then some p else none := by
  have key : ∀ a, a < n → T a = true → cntT n R T p < cntT n R T a ∨ (cntT n R T p = cntT n R T a ∧ p ≤ a) := by
    intro a ha hTa
    have h := hle _ ⟨a, ha, hTa, rfl⟩
    unfold le at h
    have h2 : ¬ (fore ((a : Int), (cntT n R T a : Int)) ((p : Int), (cntT n R T p : Int)) = true) := by rw [h]; decide
    rw [fore_iff] at h2
    simp only at h2
    omega
  split
  · rename_i h0
    unfold pick
    rw [List.find?_range_eq_some]
    refine ⟨by rw [hT, cnt_zero.1 h0]; rfl, by simpa using hp, fun j hj => ?_⟩
    rcases hTj : T j with _ | _
    · simp
    · have h1 := key j (by omega) hTj
      have h2 : ¬ cntT n R T j = 0 := by omega
      have h3 : ((List.range n).all fun a => !(T a && R a j)) = false := by
        cases h4 : ((List.range n).all fun a => !(T a && R a j)) with
        | false => rfl
        | true => exact absurd (cnt_zero.2 h4) h2
      rw [h3]; simp
  · rename_i h0
    unfold pick
    rw [List.find?_range_eq_none]
    intro j hj
    rcases hTj : T j with _ | _
    · simp
    · have h1 := key j hj hTj
      have h2 : ¬ cntT n R T j = 0 := by omega
      have h3 : ((List.range n).all fun a => !(T a && R a j)) = false := by
        cases h4 : ((List.range n).all fun a => !(T a && R a j)) with
        | false => rfl
        | true => exact absurd (cnt_zero.2 h4) h2
      rw [h3]; simp

theorem filter_minus (p : Nat) : ∀ (l : List Nat) (f g : Nat → Bool), l.Nodup → (∀ a, a ≠ p → f a = g a) → f p = false → (l.filter g).length = (l.filter f).length + (if p ∈ l ∧ g p = true then 1 else 0)
  | [], f, g, _, _, _ => by simp
  | a :: l, f, g, hn, he, hf => by
    obtain ⟨hn1, hn2⟩ := List.nodup_cons.1 hn
    have ih := filter_minus p l f g hn2 he hf
    by_cases ha : a = p
    · subst ha
      rw [if_neg (fun h => hn1 h.1), Nat.add_zero] at ih
      cases hg : g a <;> simp [hf, hg, ih]
    · have h1 : (p ∈ a :: l ∧ g p = true) ↔ (p ∈ l ∧ g p = true) := by
        constructor
        · rintro ⟨h, h2⟩
          rcases List.mem_cons.1 h with h | h
          · exact absurd h.symm ha
          · exact ⟨h, h2⟩
        · rintro ⟨h, h2⟩
          exact ⟨List.mem_cons_of_mem _ h, h2⟩
      cases hg : g a with
      | false =>
        have hfa : f a = false := by rw [he a ha]; exact hg
        simp only [List.filter_cons, hfa, hg, h1]
        simpa using ih
      | true =>
        have hfa : f a = true := by rw [he a ha]; exact hg
        simp only [List.filter_cons, hfa, hg, h1, if_true, List.length_cons, ih]
        omega

/-- With one that waits less, its ends have one less that leads to them. -/
theorem cnt_minus {n : Nat} {R : Nat → Nat → Bool} {T : Nat → Bool} {p e : Nat} (hp : p < n) (hT : T p = true) : cntT n R T e = cntT n R (minus T p) e + (if R p e = true then 1 else 0) := by
  unfold cntT
  rw [filter_minus p (List.range n) (fun a => minus T p a && R a e) (fun a => T a && R a e) List.nodup_range (fun a ha => by simp only [minus_ne ha]) (by simp [minus])]
  have : (p ∈ List.range n ∧ (T p && R p e) = true) ↔ R p e = true := by simp [hp, hT]
  simp only [this]
theorem many_minus {n : Nat} {T : Nat → Bool} {p : Nat} (hp : p < n) (hT : T p = true) : many n T = many n (minus T p) + 1 := by
  unfold many
  rw [filter_minus p (List.range n) (minus T p) T List.nodup_range (fun a ha => minus_ne ha) (by simp [minus]), if_pos ⟨List.mem_range.2 hp, hT⟩]
theorem many_zero {n : Nat} {T : Nat → Bool} : many n T = 0 ↔ ((List.range n).all fun p => !T p) = true := by
  unfold many
  rw [List.length_eq_zero_iff, List.filter_eq_nil_iff, List.all_eq_true]
  constructor
  · intro h a ha
    have h1 := h a ha
    cases hx : T a with
    | false => rfl
    | true => exact absurd hx h1
  · intro h a ha hx
    have h1 := h a ha
    rw [hx] at h1; cases h1
end Go.Proofs.Ytlfgnoicjogfpaa.By

namespace Go.Proofs.Ytlfgnoicjogfpaa.By
open Go.RowKit
open Mem Gm Rf Hp Qu

theorem pick_some {n : Nat} {R : Nat → Nat → Bool} {T : Nat → Bool} {p : Nat} (h : pick n R T = some p) : p < n ∧ T p = true ∧ ∀ a, a < n → T a = true → R a p = false := by
  unfold pick at h
  have h1 := List.mem_of_find?_eq_some h
  have h2 := List.find?_some h
  rw [Bool.and_eq_true, List.all_eq_true] at h2
  refine ⟨List.mem_range.1 h1, h2.1, fun a ha hT => ?_⟩
  have h3 := h2.2 a (List.mem_range.2 ha)
  rw [hT] at h3
  simpa using h3

/-- What an order of those that wait is. -/
structure Ordered (n : Nat) (R : Nat → Nat → Bool) (T : Nat → Bool) (l : List Nat) : Prop where
  nodup : l.Nodup
  mem : ∀ x, x ∈ l ↔ x < n ∧ T x = true
  on : l.Pairwise fun a b => R b a = false
  self : ∀ x ∈ l, R x x = false

theorem ordered_nil {n : Nat} {R : Nat → Nat → Bool} {T : Nat → Bool} (h : ((List.range n).all fun p => !T p) = true) : Ordered n R T [] where
  nodup := List.nodup_nil
  mem x := by
    rw [List.all_eq_true] at h
    constructor
    · intro hx; cases hx
    · rintro ⟨h1, h2⟩
      have := h x (List.mem_range.2 h1)
      rw [h2] at this; cases this
  on := List.Pairwise.nil
  self x hx := by cases hx

theorem ordL_some {n : Nat} {R : Nat → Nat → Bool} : ∀ (f : Nat) (T : Nat → Bool) (l : List Nat), ordL n R f T = some l → Ordered n R T l
  | 0, T, l, h => by
    rw [ordL] at h
    split at h
    · rename_i h1
      injection h with h; subst h
      exact ordered_nil h1
    · cases h
  | f + 1, T, l, h => by
    rw [ordL] at h
    split at h
    · rename_i h1
      injection h with h; subst h
      exact ordered_nil h1
    · cases hp : pick n R T with
      | none => rw [hp] at h; cases h
      | some p =>
        rw [hp] at h
        obtain ⟨l', h1, rfl⟩ := Option.map_eq_some_iff.1 h
        obtain ⟨hpn, hT, hfree⟩ := pick_some hp
        have ih := ordL_some f (minus T p) l' h1
        have hmem : ∀ x, x ∈ l' → x < n ∧ T x = true ∧ x ≠ p := fun x hx => by
          have h2 := (ih.mem x).1 hx
          unfold minus at h2
          rw [Bool.and_eq_true] at h2
          exact ⟨h2.1, h2.2.1, fun e => by have := h2.2.2; rw [e] at this; simp at this⟩
        refine ⟨List.nodup_cons.2 ⟨fun hx => (hmem p hx).2.2 rfl, ih.nodup⟩, fun x => ?_, List.pairwise_cons.2 ⟨fun b hb => hfree b (hmem b hb).1 (hmem b hb).2.1, ih.on⟩, fun x hx => ?_⟩
        · rw [List.mem_cons]
          constructor
          · rintro (rfl | hx)
            · exact ⟨hpn, hT⟩
            · exact ⟨(hmem x hx).1, (hmem x hx).2.1⟩
          · rintro ⟨h2, h3⟩
            by_cases e : x = p
            · exact .inl e
            · exact .inr ((ih.mem x).2 ⟨h2, by rw [minus_ne e]; exact h3⟩)
        · rcases List.mem_cons.1 hx with rfl | hx
          · exact hfree x hpn hT
          · exact ih.self x hx

/-- An edge leads on. -/
theorem Ordered.less {n : Nat} {R : Nat → Nat → Bool} {T : Nat → Bool} {l : List Nat} (h : Ordered n R T l) {x y : Nat} (hx : x ∈ l) (hy : y ∈ l) (hR : R x y = true) : l.idxOf x < l.idxOf y := by
  have h1 := List.idxOf_lt_length_of_mem hx
  have h2 := List.idxOf_lt_length_of_mem hy
  have e1 : l[l.idxOf x] = x := List.getElem_idxOf h1
  have e2 : l[l.idxOf y] = y := List.getElem_idxOf h2
  rcases Nat.lt_trichotomy (l.idxOf x) (l.idxOf y) with h3 | h3 | h3
  · exact h3
  · have : x = y := by rw [← e1, ← e2]; simp only [h3]
    subst this
    rw [h.self x hx] at hR; cases hR
  · have := (List.pairwise_iff_getElem.1 h.on) _ _ h2 h1 h3
    rw [e1, e2, hR] at this; cases this

/-- Where there is an order, nobody is on a circle. -/
theorem Ordered.no_circ {n : Nat} {R : Nat → Nat → Bool} {T : Nat → Bool} {l : List Nat} (h : Ordered n R T l) {Ed : Nat → Nat → Prop} (hE : ∀ x y, Ed x y → x ∈ l ∧ y ∈ l ∧ R x y = true) (x : Nat) : ¬ Cy.Circ Ed x := by
  have key : ∀ {a b : Nat}, Cy.Way Ed a b → l.idxOf a ≤ l.idxOf b := fun {a b} hw => by
    induction hw with
    | here a => exact Nat.le_refl _
    | on h1 _ ih =>
      obtain ⟨h2, h3, h4⟩ := hE _ _ h1
      exact Nat.le_trans (Nat.le_of_lt (h.less h2 h3 h4)) ih
  rintro ⟨y, h1, h2⟩
  obtain ⟨h3, h4, h5⟩ := hE _ _ h1
  have := h.less h3 h4 h5
  have := key h2
  omega
end Go.Proofs.Ytlfgnoicjogfpaa.By
