/-
 MATHEMATICS of layer 25: what the program gathers is what the document says.
-/
import Derived.Test.YtnenmgefgdpkdaaGreatZa
import Derived.Test.YtnenmgefgdpkdaaGreatQz
import Derived.Test.YtnenmgefgdpkdaaGreatQp
namespace Go.Proofs.YtnenmgefgdpkdaaGreat.Bo
open Go.RowKit Go.Maps
open Mem Rf
set_option linter.unusedSimpArgs false
set_option linter.unusedVariables false
theorem mem_rise {m : Nat} {l : List Int} {x : Int} : x ∈ rise m l ↔ (0 ≤ x ∧ x < m) ∧ x ∈ l := by
 unfold rise
 rw [List.mem_map]
 constructor
 ·rintro ⟨i, hi, rfl⟩
  rw [List.mem_filter, List.mem_range] at hi
  exact ⟨⟨by omega, by omega⟩, by simpa using hi.2⟩
 ·rintro ⟨⟨h1, h2⟩, h3⟩
  refine ⟨x.toNat, ?_, by omega⟩
  rw [List.mem_filter, List.mem_range]
  have e : ((x.toNat : Nat) : Int) = x := by omega
  rw [e]
  exact ⟨by omega, by simpa using h3⟩
theorem rise_rises (m : Nat) (l : List Int) : (rise m l).Pairwise (· < ·) := by
 unfold rise
 rw [List.pairwise_map]
 exact ((List.pairwise_lt_range).filter _).imp (fun h => by omega)
theorem tidy_rise {l l2 : List Int} {m : Nat} (h : ∀ x, x ∈ l ↔ (0 ≤ x ∧ x < m) ∧ x ∈ l2) : By.tidyRow l = rise m l2 := by
 refine By.rising_eq (By.tidyRow_rises _) (rise_rises _ _) (fun x => ?_)
 rw [By.mem_tidyRow, mem_rise, h]
theorem oneB_iff {p : Int} {n : Nat} : oneB p (n : Int) = true ↔ 0 ≤ p ∧ p < n := by
 unfold oneB; rw [Bool.and_eq_true, decide_eq_true_eq, decide_eq_true_eq]
theorem mem_tgL {cs : List By.In5} {rs : List Int} {nR : Nat} {so : List Int} {tl : By.In5 → Int → Int × Bool} {k : Nat} {x : Int} :
  x ∈ tgL cs rs nR so tl k ↔ ∃ j, j < k ∧ so.contains (By.inAt cs j).1 = true ∧ (tl (By.inAt cs j) (rfA rs nR j)).2 = true ∧ x = (tl (By.inAt cs j) (rfA rs nR j)).1 := by
 unfold tgL
 rw [List.mem_flatMap]
 constructor
 ·rintro ⟨j, hj, hx⟩
  unfold tgO at hx
  refine ⟨j, List.mem_range.1 hj, ?_⟩
  by_cases h1 : so.contains (By.inAt cs j).1 = true
  ·rw [if_pos h1] at hx
   by_cases h2 : (tl (By.inAt cs j) (rfA rs nR j)).2 = true
   ·rw [if_pos h2] at hx; exact ⟨h1, h2, List.mem_singleton.1 hx⟩
   ·rw [if_neg h2] at hx; cases hx
  ·rw [if_neg h1] at hx; cases hx
 ·rintro ⟨j, hj, h1, h2, rfl⟩
  refine ⟨j, List.mem_range.2 hj, ?_⟩
  unfold tgO
  rw [if_pos h1, if_pos h2]; exact List.mem_singleton.2 rfl
theorem mem_gatL {cs : List By.In5} {rs : List Int} {ok : By.In5 → Bool} {k : Nat} {x : Int} : x ∈ gatL cs rs ok k ↔ ∃ j, j < k ∧ ok (By.inAt cs j) = true ∧ x = rs.getD j 0 := by
 unfold gatL
 rw [List.mem_map]
 constructor
 ·rintro ⟨j, hj, rfl⟩
  rw [List.mem_filter, List.mem_range] at hj
  exact ⟨j, hj.1, hj.2, rfl⟩
 ·rintro ⟨j, h1, h2, rfl⟩
  exact ⟨j, by rw [List.mem_filter, List.mem_range]; exact ⟨h1, h2⟩, rfl⟩
/-- What is gathered of numbers that are some of so many, and what the document gathers. -/
theorem gat_rise (P : Pgm) (so ns : List Int) (m a : Nat) (hs : ∀ op, so.contains op = ns.contains (By.ndV op)) : By.tidyRow (gatP P so (tlR (m : Int)) a) = rise m (gatV (gfAt P.fs a) (P.cs a) ns) := by
 refine tidy_rise (fun x => ?_)
 unfold gatP gatV
 rw [mem_tgL, mem_gatL]
 unfold tlR okN
 dsimp only
 constructor
 ·rintro ⟨j, hj, h1, h2, rfl⟩
  rw [oneB_iff] at h2
  refine ⟨h2, j, ?_, by rw [← hs]; exact h1, ?_⟩
  ·unfold rfA at h2
   split at h2
   ·omega
   ·omega
  ·unfold rfA at h2 ⊢
   split at h2
   ·rw [if_pos (by assumption)]
   ·omega
 ·rintro ⟨h0, j, hj, h1, rfl⟩
  have e : rfA (gfAt P.fs a).refs (gfAt P.fs a).R.2.1 j = (gfAt P.fs a).refs.getD j 0 := by unfold rfA; rw [if_pos (by omega)]
  refine ⟨j, by omega, by rw [hs]; exact h1, ?_, e.symm⟩
  rw [e, oneB_iff]; exact h0
theorem need_one {op : Int} {n : Int} {so : List Int} (h : so.contains op = true ↔ n = By.ndV op) : so.contains op = [n].contains (By.ndV op) := by
 rw [Bool.eq_iff_iff, h]; simp [eq_comm]
theorem so_direct (op : Int) : [19, 21].contains op = [1, 5].contains (By.ndV op) := by
 rw [Bool.eq_iff_iff]
 simp only [List.contains_cons, List.contains_nil, Bool.or_false, Bool.or_eq_true, beq_iff_eq]
 unfold By.ndV
 (repeat' split) <;> omega
theorem so_datas (op : Int) : [15, 16, 18].contains op = [3, 4].contains (By.ndV op) := by
 rw [Bool.eq_iff_iff]
 simp only [List.contains_cons, List.contains_nil, Bool.or_false, Bool.or_eq_true, beq_iff_eq]
 unfold By.ndV
 (repeat' split) <;> omega
theorem so_pick (op : Int) : [18].contains op = [4].contains (By.ndV op) := by
 rw [Bool.eq_iff_iff]
 simp only [List.contains_cons, List.contains_nil, Bool.or_false, Bool.or_eq_true, beq_iff_eq]
 unfold By.ndV
 (repeat' split) <;> omega
theorem so_func (op : Int) : [17].contains op = [2].contains (By.ndV op) := by
 rw [Bool.eq_iff_iff]
 simp only [List.contains_cons, List.contains_nil, Bool.or_false, Bool.or_eq_true, beq_iff_eq]
 unfold By.ndV
 (repeat' split) <;> omega
theorem dir_doc (P : Pgm) (a : Nat) : By.tidyRow (gatP P [19, 21] (tlR (P.fn : Int)) a) = directL P a := gat_rise P _ _ _ a so_direct
theorem dat_doc (P : Pgm) (a : Nat) : By.tidyRow (gatP P [15, 16, 18] (tlR (P.dn : Int)) a) = datasL P a := gat_rise P _ _ _ a so_datas
theorem pk_doc (P : Pgm) (a : Nat) : By.tidyRow (gatP P [18] (tlR (P.dn : Int)) a) = tabsL P a := gat_rise P _ _ _ a so_pick
theorem nam_doc (P : Pgm) (a : Nat) : By.tidyRow (gatP P [17] (tlR (P.fn : Int)) a) = rise P.fn (gatV (gfAt P.fs a) (P.cs a) [2]) := gat_rise P _ _ _ a so_func
theorem via_doc (P : Pgm) (a : Nat) : By.tidyRow (gatP P [20] tlV a) = viasL P a := by
 refine tidy_rise (m := 8) (fun x => ?_)
 unfold gatP viaG
 rw [mem_tgL, List.mem_map]
 unfold tlV
 dsimp only
 have h8 : ((8 : Nat) : Int) = 8 := rfl
 constructor
 ·rintro ⟨j, hj, h1, h2, rfl⟩
  rw [← h8, oneB_iff] at h2
  refine ⟨h2, j, ?_, rfl⟩
  rw [List.mem_filter, List.mem_range]
  exact ⟨hj, by simpa using h1⟩
 ·rintro ⟨h0, j, hj, rfl⟩
  rw [List.mem_filter, List.mem_range] at hj
  refine ⟨j, hj.1, by simpa using hj.2, ?_, rfl⟩
  rw [← h8, oneB_iff]; exact h0
/-- The functions to which the words of data refer. -/
theorem mem_tab {w : World} {P : Pgm} (h : PgR w P) {X : Nat} (hX : X < P.dn) {x : Int} : x ∈ tabP P X ↔ (0 ≤ x ∧ x < P.fn) ∧ x ∈ (gdAt P.ds X).refs := by
 have hl : (gdAt P.ds X).refs.length = (gdAt P.ds X).R.2.1 := (h.dats X hX).refs.1
 have hf := (h.dats X hX).few.2
 unfold tabP tbL
 rw [List.mem_flatMap]
 constructor
 ·rintro ⟨j, hj, hx⟩
  unfold tbO at hx
  split at hx
  ·rename_i h1
   rw [oneB_iff] at h1
   rw [List.mem_singleton] at hx
   subst hx
   refine ⟨h1, ?_⟩
   unfold rfA at h1 ⊢
   split at h1
   ·rename_i h2
    rw [if_pos h2, List.getD_eq_getElem?_getD, List.getElem?_eq_getElem (by omega)]
    exact List.getElem_mem _
   ·omega
  ·cases hx
 ·rintro ⟨h0, hm⟩
  obtain ⟨j, hj, e⟩ := List.mem_iff_getElem.1 hm
  have e2 : rfA (gdAt P.ds X).refs (gdAt P.ds X).R.2.1 j = x := by
   unfold rfA
   rw [if_pos (by omega), List.getD_eq_getElem?_getD, List.getElem?_eq_getElem hj, e]; rfl
  refine ⟨j, List.mem_range.2 (by omega), ?_⟩
  unfold tbO
  rw [e2, if_pos (oneB_iff.2 h0)]
  exact List.mem_singleton.2 rfl
theorem val_doc {w : World} {P : Pgm} (h : PgR w P) {a : Nat} (ha : a < P.fn) : By.tidyRow (jRow (two (namL P) (thrL P)) 2 a) = valuesL P a := by
 refine tidy_rise (fun x => ?_)
 rw [jRow_two, List.mem_append]
 unfold namL thrL
 rw [rowOf_map, rowOf_map, if_pos ha, if_pos ha, nam_doc, mem_rise, By.mem_tidyRow, List.mem_append]
 unfold pickL
 rw [List.mem_flatMap, List.mem_flatMap]
 have key : (∃ y, y ∈ By.rowOf (pkL P) a ∧ x ∈ By.rowOf (tbsL P) y.toNat) ↔ (0 ≤ x ∧ x < P.fn) ∧ ∃ y, y ∈ tabsL P a ∧ x ∈ (gdAt P.ds y.toNat).refs := by
  unfold pkL tbsL
  rw [rowOf_map, if_pos ha, pk_doc]
  constructor
  ·rintro ⟨y, hy, hx⟩
   have hy2 := (mem_rise.1 hy).1
   have hlt : y.toNat < P.dn := by omega
   rw [rowOf_map, if_pos hlt, By.mem_tidyRow, mem_tab h hlt] at hx
   exact ⟨hx.1, y, hy, hx.2⟩
  ·rintro ⟨h0, y, hy, hx⟩
   have hy2 := (mem_rise.1 hy).1
   have hlt : y.toNat < P.dn := by omega
   refine ⟨y, hy, ?_⟩
   rw [rowOf_map, if_pos hlt, By.mem_tidyRow, mem_tab h hlt]
   exact ⟨h0, hx⟩
 constructor
 ·rintro (h1 | h1)
  ·exact ⟨h1.1, .inl h1.2⟩
  ·have h2 := key.1 h1
   exact ⟨h2.1, .inr h2.2⟩
 ·rintro ⟨h0, h1 | h1⟩
  ·exact .inl ⟨h0, h1⟩
  ·exact .inr (key.2 ⟨h0, h1⟩)
theorem valP_doc {w : World} {P : Pgm} (h : PgR w P) : valP P = (List.range P.fn).map (valuesL P) := by
 unfold valP
 exact List.map_congr_left fun a ha => val_doc h (List.mem_range.1 ha)
theorem refP_doc {w : World} {P : Pgm} (h : PgR w P) : refP P = (List.range P.fn).map (refersL P) := by
 unfold refP
 refine List.map_congr_left fun a ha => ?_
 have ha := List.mem_range.1 ha
 refine tidy_rise (fun x => ?_)
 rw [jRow_two, valP_doc h]
 unfold dirL
 rw [rowOf_map, rowOf_map, if_pos ha, if_pos ha, dir_doc]
 constructor
 ·intro hx
  refine ⟨?_, hx⟩
  rcases List.mem_append.1 hx with h1 | h1
  ·exact (mem_rise.1 h1).1
  ·exact (mem_rise.1 h1).1
 ·exact fun hx => hx.2
/-! ### the program's five answers, as the document says -/
theorem direct_tells (w : World) (P : Pgm) (h : PgR w P) : Calls Tryz.prog 17 #[pgV P] w (RowsA w P.fn ((List.range P.fn).map (directL P))) := by
 have := direct_any w P h
 rwa [show (List.range P.fn).map (fun a => By.tidyRow (gatP P [19, 21] (tlR (P.fn : Int)) a)) = (List.range P.fn).map (directL P) from List.map_congr_left fun a _ => dir_doc P a] at this
theorem datas_tells (w : World) (P : Pgm) (h : PgR w P) : Calls Tryz.prog 22 #[pgV P] w (RowsA w P.fn ((List.range P.fn).map (datasL P))) := by
 have := datas_any w P h
 rwa [show (List.range P.fn).map (fun a => By.tidyRow (gatP P [15, 16, 18] (tlR (P.dn : Int)) a)) = (List.range P.fn).map (datasL P) from List.map_congr_left fun a _ => dat_doc P a] at this
theorem vias_tells (w : World) (P : Pgm) (h : PgR w P) : Calls Tryz.prog 21 #[pgV P] w (RowsA w P.fn ((List.range P.fn).map (viasL P))) := by
 have := vias_any w P h
 rwa [show (List.range P.fn).map (fun a => By.tidyRow (gatP P [20] tlV a)) = (List.range P.fn).map (viasL P) from List.map_congr_left fun a _ => via_doc P a] at this
theorem values_tells (w : World) (P : Pgm) (h : PgR w P) : Calls Tryz.prog 19 #[pgV P] w (RowsA w P.fn ((List.range P.fn).map (valuesL P))) := by
 have := values_any w P h
 rwa [valP_doc h] at this
theorem refers_tells (w : World) (P : Pgm) (h : PgR w P) : Calls Tryz.prog 20 #[pgV P] w (RowsA w P.fn ((List.range P.fn).map (refersL P))) := by
 have := refers_any w P h
 rwa [refP_doc h] at this
end Go.Proofs.YtnenmgefgdpkdaaGreat.Bo
