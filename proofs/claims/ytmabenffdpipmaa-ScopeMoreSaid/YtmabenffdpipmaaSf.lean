/-
  MATHEMATICS of layer 23: to what symbols are bound, who is the second of a name, what is wrong; with a file of locals more, and with files turned round.
-/
import Derived.Test.YtmabenffdpipmaaSa
namespace Go.Proofs.Ytmabenffdpipmaa.By
open Go.RowKit
open Mem Rf

/-- To what the symbol at a place is bound, and what is wrong. -/
def boundAt (L : List (List Sy)) (p : Pl) : Pl × Int :=
  if (atS L p.1 p.2).2.2.2.2 ≠ -1 then (p, 0) else match findV L (atS L p.1 p.2).1 with
    | none => ((0, 0), 13)
    | some q => if (atS L q.1 q.2).2.2.1 ≠ (atS L p.1 p.2).2.2.1 ∨ (atS L q.1 q.2).2.2.2.1 ≠ (atS L p.1 p.2).2.2.2.1 then ((0, 0), 14) else (q, 0)
def boundV (L : List (List Sy)) (f s : Int) : Pl × Int :=
  if 0 ≤ f ∧ f < (L.length : Int) ∧ 0 ≤ s ∧ s < ((rowS L f.toNat).length : Int) then boundAt L (f.toNat, s.toNat) else ((0, 0), 2)
def twiceV (L : List (List Sy)) : Option Pl := ((globs L).find? fun x => decide (findV L x.2.1 ≠ some x.1)).map (·.1)
/-- The first symbol that is bound to none. -/
def looseV (L : List (List Sy)) : Option Pl := ((allS L).find? fun x => decide ((boundAt L x.1).2 ≠ 0)).map (·.1)
def checkV (L : List (List Sy)) : Int × Int × Int :=
  if L.length = 0 ∨ 6 < L.length then (19, -1, -1) else match twiceV L with
    | some p => (12, p.1, p.2)
    | none => match looseV L with
      | some p => ((boundAt L p).2, p.1, p.2)
      | none => (0, 0, 0)

theorem mem_globs {L : List (List Sy)} {p : Pl} : (∃ s, (p, s) ∈ globs L) ↔ p.1 < L.length ∧ p.2 < (rowS L p.1).length ∧ isG (atS L p.1 p.2) = true := by
  constructor
  · rintro ⟨s, h⟩
    obtain ⟨h1, h2⟩ := List.mem_filter.1 h
    obtain ⟨a, b, c⟩ := mem_allS h1
    dsimp only at a b c h2
    subst c
    exact ⟨a, b, h2⟩
  · rintro ⟨a, b, c⟩
    exact ⟨atS L p.1 p.2, List.mem_filter.2 ⟨allS_mem a b, c⟩⟩
theorem globs_sy {L : List (List Sy)} {x : Gs} (h : x ∈ globs L) : x.2 = atS L x.1.1 x.1.2 ∧ x.1.1 < L.length ∧ x.1.2 < (rowS L x.1.1).length ∧ isG x.2 = true := by
  obtain ⟨h1, h2⟩ := List.mem_filter.1 h
  obtain ⟨a, b, c⟩ := mem_allS h1
  exact ⟨c, a, b, h2⟩
theorem findV_is {L : List (List Sy)} {x : Gs} (h : x ∈ globs L) : ∃ p, findV L x.2.1 = some p := by
  unfold findV firstOf
  cases hf : (globs L).find? fun y => decide (y.2.1 = x.2.1) with
  | some y => exact ⟨y.1, rfl⟩
  | none =>
    have := List.find?_eq_none.1 hf x h
    simp at this
theorem findV_none {L : List (List Sy)} {nm : ByteArray} (h : findV L nm = none) {x : Gs} (hx : x ∈ globs L) : x.2.1 ≠ nm := by
  rintro rfl
  obtain ⟨p, hp⟩ := findV_is hx
  rw [h] at hp; cases hp
theorem twice_none {L : List (List Sy)} (h : twiceV L = none) {x : Gs} (hx : x ∈ globs L) : findV L x.2.1 = some x.1 := by
  unfold twiceV at h
  have := List.find?_eq_none.1 (Option.map_eq_none_iff.1 h) x hx
  simpa using this
theorem loose_none {L : List (List Sy)} (h : looseV L = none) {x : Gs} (hx : x ∈ allS L) : (boundAt L x.1).2 = 0 := by
  unfold looseV at h
  have := List.find?_eq_none.1 (Option.map_eq_none_iff.1 h) x hx
  simpa using this
theorem check_ok {L : List (List Sy)} (h : (checkV L).1 = 0) : L.length ≠ 0 ∧ L.length ≤ 6 ∧ twiceV L = none ∧ looseV L = none := by
  unfold checkV at h
  split at h
  · cases h
  · rename_i h0
    split at h
    · cases h
    · rename_i h1
      split at h
      · rename_i p h2
        unfold looseV at h2
        obtain ⟨y, hy, rfl⟩ := Option.map_eq_some_iff.1 h2
        have := List.find?_some hy
        simp at this
        exact absurd h this
      · rename_i h2
        exact ⟨by omega, by omega, h1, h2⟩
theorem check_of {L : List (List Sy)} (h0 : L.length ≠ 0) (h6 : L.length ≤ 6) (h1 : twiceV L = none) (h2 : looseV L = none) : checkV L = (0, 0, 0) := by
  unfold checkV
  rw [if_neg (by omega), h1, h2]

/-- Where a symbol is bound to: it is defined, of its name, sort and kind. -/
theorem bound_ok {L : List (List Sy)} {p : Pl} (hp : p.1 < L.length) (hs : p.2 < (rowS L p.1).length) (h : (boundAt L p).2 = 0) :
    (boundAt L p).1.1 < L.length ∧ (boundAt L p).1.2 < (rowS L (boundAt L p).1.1).length ∧ (atS L (boundAt L p).1.1 (boundAt L p).1.2).2.2.2.2 ≠ -1 ∧
    (atS L (boundAt L p).1.1 (boundAt L p).1.2).1 = (atS L p.1 p.2).1 ∧ (atS L (boundAt L p).1.1 (boundAt L p).1.2).2.2.1 = (atS L p.1 p.2).2.2.1 ∧ (atS L (boundAt L p).1.1 (boundAt L p).1.2).2.2.2.1 = (atS L p.1 p.2).2.2.2.1 := by
  revert h
  unfold boundAt
  by_cases hd : (atS L p.1 p.2).2.2.2.2 ≠ -1
  · rw [if_pos hd]
    intro _
    exact ⟨hp, hs, hd, rfl, rfl, rfl⟩
  · rw [if_neg hd]
    cases hf : findV L (atS L p.1 p.2).1 with
    | none => intro h; cases h
    | some q =>
      obtain ⟨a, b, c, d⟩ := findV_some hf
      dsimp only
      by_cases hc : (atS L q.1 q.2).2.2.1 ≠ (atS L p.1 p.2).2.2.1 ∨ (atS L q.1 q.2).2.2.2.1 ≠ (atS L p.1 p.2).2.2.2.1
      · rw [if_pos hc]; intro h; cases h
      · rw [if_neg hc]
        intro _
        have hg : (atS L q.1 q.2).2.2.2.2 ≠ -1 := by
          unfold isG at d
          simp at d
          exact d.2
        exact ⟨a, b, hg, c, by simpa using fun h => hc (.inl h), by simpa using fun h => hc (.inr h)⟩

/-! ### a file of locals more -/
section
variable {L : List (List Sy)} {M : List Sy}
theorem rowS_more {i : Nat} (h : i < L.length) : rowS (L ++ [M]) i = rowS L i := by
  unfold rowS; rw [List.getD_eq_getElem?_getD, List.getD_eq_getElem?_getD, List.getElem?_append_left h]
theorem rowS_last : rowS (L ++ [M]) L.length = M := by
  unfold rowS; rw [List.getD_eq_getElem?_getD, List.getElem?_append_right (Nat.le_refl _)]; simp
theorem atS_more {i k : Nat} (h : i < L.length) : atS (L ++ [M]) i k = atS L i k := by unfold atS; rw [rowS_more h]
theorem allS_more : allS (L ++ [M]) = allS L ++ rowL (L ++ [M]) L.length := by
  unfold allS
  rw [show (L ++ [M]).length = L.length + 1 by simp, List.range_succ, List.flatMap_append]
  congr 1
  · unfold List.flatMap
    congr 1
    refine List.map_congr_left fun i hi => ?_
    have hi' := List.mem_range.1 hi
    unfold rowL
    rw [rowS_more hi']
    exact List.map_congr_left fun k _ => by rw [atS_more hi']
  · simp
theorem row_more {x : Gs} (h : x ∈ rowL (L ++ [M]) L.length) : x.1.1 = L.length ∧ x.2 ∈ M ∧ x.2 = atS (L ++ [M]) x.1.1 x.1.2 := by
  unfold rowL at h
  rw [rowS_last] at h
  obtain ⟨k, hk, rfl⟩ := List.mem_map.1 h
  have hk' := List.mem_range.1 hk
  refine ⟨rfl, ?_, rfl⟩
  show atS (L ++ [M]) L.length k ∈ M
  unfold atS syAt
  rw [rowS_last, List.getD_eq_getElem?_getD, List.getElem?_eq_getElem hk']
  exact List.getElem_mem hk'
theorem globs_more (hM : ∀ s ∈ M, isG s = false) : globs (L ++ [M]) = globs L := by
  unfold globs
  rw [allS_more, List.filter_append]
  have : (rowL (L ++ [M]) L.length).filter (fun x => isG x.2) = [] := by
    rw [List.filter_eq_nil_iff]
    intro x hx
    rw [hM _ (row_more hx).2.1]; simp
  rw [this, List.append_nil]
theorem findV_more (hM : ∀ s ∈ M, isG s = false) (nm : ByteArray) : findV (L ++ [M]) nm = findV L nm := by unfold findV; rw [globs_more hM]
theorem boundAt_more (hM : ∀ s ∈ M, isG s = false) {p : Pl} (hp : p.1 < L.length) : boundAt (L ++ [M]) p = boundAt L p := by
  unfold boundAt
  rw [atS_more hp, findV_more hM]
  cases hf : findV L (atS L p.1 p.2).1 with
  | none => rfl
  | some q => dsimp only; rw [atS_more (findV_some hf).1]
theorem boundV_more (hM : ∀ s ∈ M, isG s = false) {i k : Nat} (hi : i < L.length) (hk : k < (rowS L i).length) : boundV (L ++ [M]) i k = boundV L i k := by
  unfold boundV
  rw [if_pos ⟨by omega, by simp; omega, by omega, by rw [Int.toNat_natCast, rowS_more hi]; omega⟩, if_pos ⟨by omega, by omega, by omega, by rw [Int.toNat_natCast]; omega⟩, Int.toNat_natCast, Int.toNat_natCast]
  exact boundAt_more hM hi
theorem check_more (hM : ∀ s ∈ M, isG s = false) (hD : ∀ s ∈ M, s.2.2.2.2 ≠ -1) (h0 : L.length ≠ 0) (h6 : L.length < 6) : checkV (L ++ [M]) = checkV L := by
  have ht : twiceV (L ++ [M]) = twiceV L := by
    unfold twiceV
    rw [globs_more hM]
    congr 1
    exact congrArg (fun f => List.find? f (globs L)) (funext fun x => by rw [findV_more hM])
  have hl : looseV (L ++ [M]) = looseV L := by
    unfold looseV
    rw [allS_more, List.find?_append]
    have h1 : (rowL (L ++ [M]) L.length).find? (fun x => decide ((boundAt (L ++ [M]) x.1).2 ≠ 0)) = none := by
      rw [List.find?_eq_none]
      intro x hx
      obtain ⟨_, h2, h3⟩ := row_more hx
      have : (atS (L ++ [M]) x.1.1 x.1.2).2.2.2.2 ≠ -1 := by rw [← h3]; exact hD _ h2
      unfold boundAt
      rw [if_pos this]; simp
    rw [h1, Option.or_none]
    have hfe : ∀ l : List Gs, (∀ x ∈ l, x.1.1 < L.length) → l.find? (fun x => decide ((boundAt (L ++ [M]) x.1).2 ≠ 0)) = l.find? (fun x => decide ((boundAt L x.1).2 ≠ 0)) := by
      intro l
      induction l with
      | nil => intro _; rfl
      | cons x l ih =>
        intro h
        rw [List.find?_cons, List.find?_cons, ih (fun y hy => h y (List.mem_cons_of_mem _ hy)), boundAt_more hM (h x (List.mem_cons_self ..))]
    rw [hfe _ fun x hx => (mem_allS hx).1]
  unfold checkV
  rw [ht, hl, if_neg (by simp; omega), if_neg (by omega)]
  cases twiceV L with
  | some p => rfl
  | none =>
    cases hlo : looseV L with
    | none => rfl
    | some p =>
      have hp : p.1 < L.length := by
        unfold looseV at hlo
        obtain ⟨y, hy, rfl⟩ := Option.map_eq_some_iff.1 hlo
        exact (mem_allS (List.mem_of_find?_eq_some hy)).1
      dsimp only
      rw [boundAt_more hM hp]
end

/-! ### files turned round -/
section
variable {L : List (List Sy)}
def flip (L : List (List Sy)) (p : Pl) : Pl := (L.length - 1 - p.1, p.2)
theorem rowS_rev {i : Nat} (h : i < L.length) : rowS L.reverse (L.length - 1 - i) = rowS L i := by
  unfold rowS
  rw [List.getD_eq_getElem?_getD, List.getD_eq_getElem?_getD, List.getElem?_reverse (by omega)]
  congr 2
  omega
theorem atS_rev {p : Pl} (h : p.1 < L.length) : atS L.reverse (flip L p).1 (flip L p).2 = atS L p.1 p.2 := by unfold atS flip; rw [rowS_rev h]
theorem flip_flip {p : Pl} (h : p.1 < L.length) : flip L (flip L p) = p := by
  obtain ⟨i, k⟩ := p
  unfold flip
  dsimp only at h ⊢
  rw [Prod.mk.injEq]
  exact ⟨by omega, rfl⟩
theorem globs_rev {p : Pl} (h : ∃ s, (p, s) ∈ globs L) : ∃ s, (flip L p, s) ∈ globs L.reverse := by
  obtain ⟨a, b, c⟩ := mem_globs.1 h
  refine mem_globs.2 ⟨by unfold flip; simp; omega, ?_, ?_⟩
  · unfold flip; dsimp only; rw [rowS_rev a]; exact b
  · rw [atS_rev a]; exact c
theorem globs_back {p : Pl} (h : ∃ s, (p, s) ∈ globs L.reverse) : ∃ s, (flip L p, s) ∈ globs L := by
  have := globs_rev h
  rw [List.reverse_reverse] at this
  unfold flip at this ⊢
  rwa [List.length_reverse] at this
theorem findV_rev (h1 : twiceV L = none) (nm : ByteArray) : findV L.reverse nm = (findV L nm).map (flip L) := by
  cases hf : findV L nm with
  | none =>
    cases hr : findV L.reverse nm with
    | none => rfl
    | some q =>
      exfalso
      obtain ⟨a, b, c, d⟩ := findV_some hr
      obtain ⟨s, hs⟩ := globs_back (mem_globs.2 ⟨a, b, d⟩)
      have hn := findV_none hf hs
      have e := (globs_sy hs).1
      have ha : q.1 < L.length := by simpa using a
      have hl : (flip L q).1 < L.length := by unfold flip; dsimp only; omega
      have := atS_rev hl
      rw [flip_flip ha] at this
      exact hn (by rw [e]; dsimp only; rw [← this]; exact c)
  | some p =>
    obtain ⟨a, b, c, d⟩ := findV_some hf
    obtain ⟨s, hs⟩ := globs_rev (mem_globs.2 ⟨a, b, d⟩)
    have es := (globs_sy hs).1
    dsimp only at es
    rw [atS_rev a] at es
    subst es
    obtain ⟨q, hq⟩ := findV_is hs
    dsimp only at hq
    rw [c] at hq
    rw [hq, Option.map_some]
    obtain ⟨a2, b2, c2, d2⟩ := findV_some hq
    obtain ⟨s2, hs2⟩ := globs_back (mem_globs.2 ⟨a2, b2, d2⟩)
    have ha : q.1 < L.length := by simpa using a2
    have hl : (flip L q).1 < L.length := by unfold flip; dsimp only; omega
    have e2 := (globs_sy hs2).1
    dsimp only at e2
    have e3 := atS_rev hl
    rw [flip_flip ha] at e3
    have h4 := twice_none h1 hs2
    dsimp only at h4
    rw [e2, ← e3, c2, hf] at h4
    injection h4 with h4
    rw [h4, flip_flip ha]
theorem boundAt_rev (h1 : twiceV L = none) {p : Pl} (hp : p.1 < L.length) (hb : (boundAt L p).2 = 0) : boundAt L.reverse (flip L p) = (flip L (boundAt L p).1, 0) := by
  revert hb
  unfold boundAt
  rw [atS_rev hp]
  by_cases hd : (atS L p.1 p.2).2.2.2.2 ≠ -1
  · rw [if_pos hd, if_pos hd]; intro _; rfl
  · rw [if_neg hd, if_neg hd, findV_rev h1]
    cases hf : findV L (atS L p.1 p.2).1 with
    | none => intro h; cases h
    | some q =>
      rw [Option.map_some]
      dsimp only
      rw [atS_rev (findV_some hf).1]
      by_cases hc : (atS L q.1 q.2).2.2.1 ≠ (atS L p.1 p.2).2.2.1 ∨ (atS L q.1 q.2).2.2.2.1 ≠ (atS L p.1 p.2).2.2.2.1
      · rw [if_pos hc]; intro h; cases h
      · rw [if_neg hc, if_neg hc]; intro _; rfl
theorem check_rev (h : (checkV L).1 = 0) : checkV L.reverse = (0, 0, 0) := by
  obtain ⟨h0, h6, h1, h2⟩ := check_ok h
  refine check_of (by simpa using h0) (by simpa using h6) ?_ ?_
  · unfold twiceV
    rw [Option.map_eq_none_iff, List.find?_eq_none]
    intro x hx
    obtain ⟨e, a, b, c⟩ := globs_sy hx
    have ha : x.1.1 < L.length := by simpa using a
    obtain ⟨s, hs⟩ := globs_back (p := x.1) ⟨x.2, hx⟩
    have hl : (flip L x.1).1 < L.length := by unfold flip; dsimp only; omega
    have e2 := (globs_sy hs).1
    dsimp only at e2
    have e3 := atS_rev hl
    rw [flip_flip ha] at e3
    have h4 := twice_none h1 hs
    dsimp only at h4
    rw [e2, ← e3, ← e] at h4
    rw [findV_rev h1, h4, Option.map_some, flip_flip ha]
    simp
  · unfold looseV
    rw [Option.map_eq_none_iff, List.find?_eq_none]
    intro x hx
    obtain ⟨a, b, c⟩ := mem_allS hx
    have ha : x.1.1 < L.length := by simpa using a
    have hl : (flip L x.1).1 < L.length := by unfold flip; dsimp only; omega
    have hb : (flip L x.1).2 < (rowS L (flip L x.1).1).length := by
      have := rowS_rev hl
      have e : L.length - 1 - (flip L x.1).1 = x.1.1 := by unfold flip; dsimp only; omega
      rw [e] at this
      rw [← this]; exact b
    have h5 := boundAt_rev h1 hl (loose_none h2 (allS_mem hl hb))
    rw [flip_flip ha] at h5
    rw [h5]; simp
end
end Go.Proofs.Ytmabenffdpipmaa.By
