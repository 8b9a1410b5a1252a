/-
  WALK: Clean. WALK: Turn.
-/
import Derived.Test.YtbknmapkdjmcjaaGreatDoorGb
import Derived.Test.YtbknmapkdjmcjaaGreatDoorGe
import Derived.RangeFuncBox
namespace Go.Proofs.YtbknmapkdjmcjaaGreatDoor.By
open Go.RowKit
open Mem Gm Rf
attribute [local go_sem] Oper.semAt_some

theorem infoI : (Tryz.prog.info? 3).map (fun i => (i.zero, i.size, i.bytes)) = some (some (.int .i64 0), 1, 8) := by kernel_rfl
theorem infoR : (Tryz.prog.info? 22).map (fun i => (i.zero, i.size, i.bytes)) = some (some (.slice none 0 0), 1, 24) := by kernel_rfl

theorem madeCells_one (z : Value) (n : Nat) : madeCells #[z] n = Array.replicate n z := by
  apply Array.ext
  · simp [madeCells]
  · intro i h1 h2
    simp [madeCells, Nat.mod_one]

theorem make_rows (n : Nat) (hn : n ≤ 1000) (W : World) : (Instr.makeSlice 224 (.int .i64 (n : Int)) (.int .i64 (n : Int))).run Tryz.prog W = .ok (.slice (some ⟨W.heap.size, 0, none⟩) n n) (W.alloc (.cells (Array.replicate n (.slice none 0 0)) 22)) := by
  obtain ⟨i, hi, hz0, hz1, hz2⟩ := info_parts infoR
  have := run_make (P := Tryz.prog) W 224 22 i (.slice none 0 0) Tryz.underlying224 hi hz0 .i64 .i64 (n : Int) (n : Int) (by omega) (by omega) (by rw [hz2]; omega) (by omega)
  rw [this, hz1]
  simp only [Int.toNat_natCast, Nat.mul_one]
  rw [show (Value.slice none 0 0).cells = #[.slice none 0 0] from rfl, madeCells_one]

/-- What has been put together: of each place the numbers that have come for it. -/
def gacc (n : Nat) (ps : List (Nat × Nat)) : List (List Int) := (List.range n).map fun i => (ps.filter fun x => x.1 == i).map fun x => (x.2 : Int)
theorem acc_length (n : Nat) (ps : List (Nat × Nat)) : (gacc n ps).length = n := by simp [gacc]
theorem acc_row {n i : Nat} (ps : List (Nat × Nat)) (hi : i < n) : rowOf (gacc n ps) i = (ps.filter fun x => x.1 == i).map fun x => (x.2 : Int) := by
  unfold rowOf gacc
  rw [List.getD_eq_getElem?_getD, List.getElem?_map, List.getElem?_range hi]; rfl
theorem acc_nil (n : Nat) : gacc n [] = List.replicate n [] := by
  unfold gacc
  apply List.ext_getElem
  · simp
  · intro i h1 h2; simp
theorem acc_snoc {n a b : Nat} (ps : List (Nat × Nat)) (ha : a < n) : gacc n (ps ++ [(a, b)]) = (gacc n ps).set a (rowOf (gacc n ps) a ++ [(b : Int)]) := by
  apply List.ext_getElem
  · simp [acc_length]
  · intro i h1 h2
    rw [acc_length] at h1
    have e1 : (gacc n (ps ++ [(a, b)]))[i]'(by rw [acc_length]; exact h1) = ((ps ++ [(a, b)]).filter fun x => x.1 == i).map fun x => (x.2 : Int) := by simp [gacc]
    rw [e1, List.getElem_set]
    by_cases e : a = i
    · subst e
      rw [if_pos rfl, acc_row ps ha, List.filter_append, List.map_append]
      simp
    · rw [if_neg e, List.filter_append]
      simp [gacc, e]
theorem acc_row_len {n i : Nat} (ps : List (Nat × Nat)) : (rowOf (gacc n ps) i).length ≤ ps.length := by
  by_cases hi : i < n
  · rw [acc_row ps hi, List.length_map]; exact List.length_filter_le _ _
  · have : rowOf (gacc n ps) i = [] := by
      unfold rowOf; rw [List.getD_eq_getElem?_getD, List.getElem?_eq_none (by rw [acc_length]; omega)]; rfl
    rw [this]; simp

theorem mem_edges {g : List (List Int)} {x : Nat × Nat} (h : x ∈ edgesL g) : x.1 < g.length ∧ x.2 < g.length ∧ (x.2 : Int) ∈ rowOf g x.1 := by
  unfold edgesL rowE at h
  obtain ⟨a, ha, hx⟩ := List.mem_flatMap.1 h
  obtain ⟨c, hc, rfl⟩ := List.mem_map.1 hx
  rw [List.mem_filter] at hc
  have hp := isP_iff.1 hc.2
  have ha := List.mem_range.1 ha
  refine ⟨ha, by show c.toNat < _; omega, ?_⟩
  show ((c.toNat : Nat) : Int) ∈ _
  rw [show ((c.toNat : Nat) : Int) = c by omega]
  exact hc.1
theorem edges_mem {g : List (List Int)} {a b : Nat} (ha : a < g.length) (hb : b < g.length) (h : (b : Int) ∈ rowOf g a) : (a, b) ∈ edgesL g := by
  unfold edgesL rowE
  refine List.mem_flatMap.2 ⟨a, List.mem_range.2 ha, List.mem_map.2 ⟨(b : Int), ?_, by simp⟩⟩
  rw [List.mem_filter]
  exact ⟨h, isP_iff.2 ⟨by omega, by omega⟩⟩

/-- Two lists that rise, with the same members, are one. -/
theorem rising_eq : ∀ {a b : List Int}, a.Pairwise (· < ·) → b.Pairwise (· < ·) → (∀ x, x ∈ a ↔ x ∈ b) → a = b
  | [], [], _, _, _ => rfl
  | [], y :: b, _, _, h => absurd ((h y).2 List.mem_cons_self) (by simp)
  | x :: a, [], _, _, h => absurd ((h x).1 List.mem_cons_self) (by simp)
  | x :: a, y :: b, ha, hb, h => by
    rw [List.pairwise_cons] at ha hb
    have e : x = y := by
      rcases List.mem_cons.1 ((h x).1 List.mem_cons_self) with e | hx
      · exact e
      · rcases List.mem_cons.1 ((h y).2 List.mem_cons_self) with e | hy
        · exact e.symm
        · have h1 := ha.1 y hy
          have h2 := hb.1 x hx
          omega
    subst e
    have ht : ∀ z, z ∈ a ↔ z ∈ b := fun z => by
      constructor
      · intro hz
        rcases List.mem_cons.1 ((h z).1 (List.mem_cons_of_mem _ hz)) with e | h2
        · have := ha.1 z hz; omega
        · exact h2
      · intro hz
        rcases List.mem_cons.1 ((h z).2 (List.mem_cons_of_mem _ hz)) with e | h2
        · have := hb.1 z hz; omega
        · exact h2
    rw [rising_eq ha.2 hb.2 ht]

theorem getI (zs : List Int) (j : Nat) (h : j < zs.length) : zs.toArray[j]! = zs[j] := by
  rw [getElem!_pos zs.toArray j (by simpa using h)]; simp

theorem compact_rises (zs : List Int) (h : zs.Pairwise (· ≤ ·)) : (Lib.compact zs).Pairwise (· < ·) := by
  unfold Lib.compact Lib.compactUpTo
  rw [List.pairwise_map]
  have h1 : ((List.range zs.length).filter (Lib.keeps zs.toArray)).Pairwise (· < ·) := List.Pairwise.filter _ List.pairwise_lt_range
  refine List.Pairwise.imp_of_mem ?_ h1
  intro i j hi hj hij
  obtain ⟨hir, _⟩ := List.mem_filter.1 hi
  obtain ⟨hjr, hk⟩ := List.mem_filter.1 hj
  rw [List.mem_range] at hir hjr
  have hk2 : zs.toArray[j]! ≠ zs.toArray[j - 1]! := by
    simp only [Lib.keeps, decide_eq_true_eq] at hk
    rcases hk with e | e
    · omega
    · exact e
  rw [getI zs j hjr, getI zs (j - 1) (by omega)] at hk2
  rw [getI zs i hir, getI zs j hjr]
  have hle : ∀ (p q : Nat) (hp : p < zs.length) (hq : q < zs.length), p ≤ q → zs[p] ≤ zs[q] := fun p q hp hq hpq => by
    by_cases e : p = q
    · subst e; exact Int.le_refl _
    · exact List.pairwise_iff_getElem.1 h p q hp hq (by omega)
  have h3 := hle i (j - 1) hir (by omega) (by omega)
  have h4 := hle (j - 1) j (by omega) hjr (by omega)
  omega

theorem mem_compact (zs : List Int) (x : Int) : x ∈ Lib.compact zs ↔ x ∈ zs := by
  unfold Lib.compact Lib.compactUpTo
  constructor
  · intro h
    obtain ⟨j, hj, rfl⟩ := List.mem_map.1 h
    have hjr := List.mem_range.1 (List.mem_filter.1 hj).1
    rw [getI zs j hjr]
    exact List.getElem_mem hjr
  · intro h
    obtain ⟨j, hj, rfl⟩ := List.getElem_of_mem h
    have key : ∀ j, j < zs.length → zs.toArray[j]! ∈ ((List.range zs.length).filter (Lib.keeps zs.toArray)).map (zs.toArray[·]!) := by
      intro j
      induction j with
      | zero => intro hj; exact List.mem_map.2 ⟨0, List.mem_filter.2 ⟨List.mem_range.2 (by simpa using hj), by simp [Lib.keeps]⟩, rfl⟩
      | succ j ih =>
        intro hj
        by_cases e : zs.toArray[j + 1]! = zs.toArray[j]!
        · rw [e]; exact ih (by omega)
        · exact List.mem_map.2 ⟨j + 1, List.mem_filter.2 ⟨List.mem_range.2 (by simpa using hj), by simp only [Lib.keeps, decide_eq_true_eq]; exact .inr e⟩, rfl⟩
    have := key j hj
    rwa [getI zs j hj] at this

theorem tidyRow_rises (l : List Int) : (tidyRow l).Pairwise (· < ·) := by
  refine compact_rises _ ?_
  have h := List.pairwise_mergeSort (le := fun (x y : Int) => decide (x ≤ y)) (fun a b c h1 h2 => by simp only [decide_eq_true_eq] at *; omega) (fun a b => by simp only [Bool.or_eq_true, decide_eq_true_eq]; omega) l
  exact h.imp (fun h => by simpa using h)
theorem mem_tidyRow (l : List Int) (x : Int) : x ∈ tidyRow l ↔ x ∈ l := by
  unfold tidyRow
  rw [mem_compact, List.mem_mergeSort]

/-- What was put together, tidied, is a graph by its edges. -/
theorem acc_tidy (n : Nat) (ps : List (Nat × Nat)) (R : Nat → Nat → Bool) (h : ∀ a b, a < n → ((a, b) ∈ ps ↔ b < n ∧ R a b = true)) : (gacc n ps).map tidyRow = gr n R := by
  apply List.ext_getElem
  · simp [acc_length, gr_length]
  · intro i h1 h2
    rw [gr_length] at h2
    have e1 : (gr n R)[i]'(by rw [gr_length]; exact h2) = (gr n R).getD i [] := by rw [List.getD_eq_getElem?_getD, List.getElem?_eq_getElem (by rw [gr_length]; exact h2)]; rfl
    have hr := gr_neat n R i (by rw [gr_length]; exact h2)
    rw [List.getElem_map, e1]
    refine rising_eq (tidyRow_rises _) hr.1 fun x => ?_
    rw [mem_tidyRow, gr_mem h2]
    have e2 : (gacc n ps)[i]'(by rw [acc_length]; exact h2) = (ps.filter fun x => x.1 == i).map fun x => (x.2 : Int) := by simp [gacc]
    rw [e2, List.mem_map]
    constructor
    · rintro ⟨⟨a, b⟩, hx, rfl⟩
      rw [List.mem_filter] at hx
      have ha : a = i := by simpa using hx.2
      subst ha
      have := (h a b h2).1 hx.1
      exact ⟨b, rfl, this.1, this.2⟩
    · rintro ⟨b, rfl, hb, hR⟩
      exact ⟨(i, b), List.mem_filter.2 ⟨(h i b h2).2 ⟨hb, hR⟩, by simp⟩, rfl⟩

theorem E_rowOf {g : List (List Int)} {a b : Nat} : E g a b = true ↔ a < g.length ∧ b < g.length ∧ (b : Int) ∈ rowOf g a := E_iff
theorem acc_clean (g : List (List Int)) : (gacc g.length (edgesL g)).map tidyRow = clean g := by
  refine acc_tidy _ _ _ fun a b ha => ?_
  constructor
  · intro h
    have := mem_edges h
    exact ⟨this.2.1, E_rowOf.2 this⟩
  · rintro ⟨hb, hE⟩
    exact edges_mem ha hb (E_rowOf.1 hE).2.2
theorem acc_turn (g : List (List Int)) : (gacc g.length ((edgesL g).map Prod.swap)).map tidyRow = turn g := by
  refine acc_tidy _ _ _ fun a b ha => ?_
  constructor
  · intro h
    obtain ⟨⟨x, y⟩, hx, e⟩ := List.mem_map.1 h
    injection e with e1 e2
    subst e1 e2
    have := mem_edges hx
    exact ⟨this.1, E_rowOf.2 this⟩
  · rintro ⟨hb, hE⟩
    exact List.mem_map.2 ⟨(b, a), edges_mem hb ha (E_rowOf.1 hE).2.2, rfl⟩

/-- A block of no cells that is another one of none turns nothing that is read. -/
theorem cell_putDef {W : World} {d : Nat} {x y : Option (List Deferred)} (h : W.heap[d]? = some (.deferred x)) (p : Addr) : (W.putObj d (.deferred y)).cell? p = W.cell? p := by
  by_cases e : p.block = d
  · have h1 := World.putObj_heap_same (w := W) (o := .deferred y) (Array.getElem?_eq_some_iff.1 h).1
    rw [← e] at h h1
    unfold World.cell?
    rw [← e, h1, h]
  · exact World.cell?_of_block (World.putObj_heap_other e)

/-- A graph that is small enough. -/
def Small (g : List (List Int)) : Prop := g.length ≤ 1000 ∧ (edgesL g).length ≤ 1000000

end Go.Proofs.YtbknmapkdjmcjaaGreatDoor.By

namespace Go.Proofs.YtbknmapkdjmcjaaGreatDoor.By
open Go.RowKit
open Mem Gm Rf
attribute [local go_sem] Oper.semAt_some

end Go.Proofs.YtbknmapkdjmcjaaGreatDoor.By
