/-
  WALK: Clean. WALK: Turn.
-/
import Derived.Test.YtlfgnoicjogfpaaGb
import Derived.Test.YtlfgnoicjogfpaaGe
import Derived.RangeFuncBox
namespace Go.Proofs.Ytlfgnoicjogfpaa.By
open Go.RowKit
open Mem Gm Rf
attribute [local go_sem] Oper.semAt_some

theorem infoI : (Try.prog.info? 3).map (fun i => (i.zero, i.size, i.bytes)) = some (some (.int .i64 0), 1, 8) := by kernel_rfl
theorem infoR : (Try.prog.info? 26).map (fun i => (i.zero, i.size, i.bytes)) = some (some (.slice none 0 0), 1, 24) := by kernel_rfl

theorem madeCells_one (z : Value) (n : Nat) : madeCells #[z] n = Array.replicate n z := by
  apply Array.ext
  · simp [madeCells]
  · intro i h1 h2
    simp [madeCells, Nat.mod_one]

theorem make_rows (n : Nat) (hn : n ≤ 1000) (W : World) : (Instr.makeSlice 22 (.int .i64 (n : Int)) (.int .i64 (n : Int))).run Try.prog W = .ok (.slice (some ⟨W.heap.size, 0, none⟩) n n) (W.alloc (.cells (Array.replicate n (.slice none 0 0)) 26)) := by
  obtain ⟨i, hi, hz0, hz1, hz2⟩ := info_parts infoR
  have := run_make (P := Try.prog) W 22 26 i (.slice none 0 0) Try.underlying22 hi hz0 .i64 .i64 (n : Int) (n : Int) (by omega) (by omega) (by rw [hz2]; omega) (by omega)
  rw [this, hz1]
  simp only [Int.toNat_natCast, Nat.mul_one]
  rw [show (Value.slice none 0 0).cells = #[.slice none 0 0] from rfl, madeCells_one]

/-- What has been put together: of each place the numbers that have come for it. -/
def acc (n : Nat) (ps : List (Nat × Nat)) : List (List Int) := (List.range n).map fun i => (ps.filter fun x => x.1 == i).map fun x => (x.2 : Int)
theorem acc_length (n : Nat) (ps : List (Nat × Nat)) : (acc n ps).length = n := by simp [acc]
theorem acc_row {n i : Nat} (ps : List (Nat × Nat)) (hi : i < n) : rowOf (acc n ps) i = (ps.filter fun x => x.1 == i).map fun x => (x.2 : Int) := by
  unfold rowOf acc
  rw [List.getD_eq_getElem?_getD, List.getElem?_map, List.getElem?_range hi]; rfl
theorem acc_nil (n : Nat) : acc n [] = List.replicate n [] := by
  unfold acc
  apply List.ext_getElem
  · simp
  · intro i h1 h2; simp
theorem acc_snoc {n a b : Nat} (ps : List (Nat × Nat)) (ha : a < n) : acc n (ps ++ [(a, b)]) = (acc n ps).set a (rowOf (acc n ps) a ++ [(b : Int)]) := by
  apply List.ext_getElem
  · simp [acc_length]
  · intro i h1 h2
    rw [acc_length] at h1
    have e1 : (acc n (ps ++ [(a, b)]))[i]'(by rw [acc_length]; exact h1) = ((ps ++ [(a, b)]).filter fun x => x.1 == i).map fun x => (x.2 : Int) := by simp [acc]
    rw [e1, List.getElem_set]
    by_cases e : a = i
    · subst e
      rw [if_pos rfl, acc_row ps ha, List.filter_append, List.map_append]
      simp
    · rw [if_neg e, List.filter_append]
      simp [acc, e]
theorem acc_row_len {n i : Nat} (ps : List (Nat × Nat)) : (rowOf (acc n ps) i).length ≤ ps.length := by
  by_cases hi : i < n
  · rw [acc_row ps hi, List.length_map]; exact List.length_filter_le _ _
  · have : rowOf (acc n ps) i = [] := by
      unfold rowOf; rw [List.getD_eq_getElem?_getD, List.getElem?_eq_none (by rw [acc_length]; omega)]; rfl
    rw [this]; simp

theorem mem_edges {g : List (List Int)} {x : Nat × Nat} (h : x ∈ edgesL g) : x.1 < g.length ∧ x.2 < g.length ∧ (x.2 : Int) ∈ rowOf g x.1 := by
  unfold edgesL rowE at h
  obtain ⟨a, ha, hx⟩ := List.mem_flatMap.1 h
  obtain ⟨c, hc, rfl⟩ := List.mem_map.1 hx
  rw [List.mem_filter] at hc
  have hp := isP_iff.1 hc.2
  have ha := List.mem_range.1 ha
  refine ⟨ha, by show c.toNat < _; omega, ?_⟩
  show ((c.toNat : Nat) : Int) ∈ _
  rw [show ((c.toNat : Nat) : Int) = c by omega]
  exact hc.1
theorem edges_mem {g : List (List Int)} {a b : Nat} (ha : a < g.length) (hb : b < g.length) (h : (b : Int) ∈ rowOf g a) : (a, b) ∈ edgesL g := by
  unfold edgesL rowE
  refine List.mem_flatMap.2 ⟨a, List.mem_range.2 ha, List.mem_map.2 ⟨(b : Int), ?_, by simp⟩⟩
  rw [List.mem_filter]
  exact ⟨h, isP_iff.2 ⟨by omega, by omega⟩⟩

/-- Two lists that rise, with the same members, are one. -/
theorem rising_eq : ∀ {a b : List Int}, a.Pairwise (· < ·) → b.Pairwise (· < ·) → (∀ x, x ∈ a ↔ x ∈ b) → a = b
  | [], [], _, _, _ => rfl
  | [], y :: b, _, _, h => absurd ((h y).2 List.mem_cons_self) (by simp)
  | x :: a, [], _, _, h => absurd ((h x).1 List.mem_cons_self) (by simp)
  | x :: a, y :: b, ha, hb, h => by
    rw [List.pairwise_cons] at ha hb
    have e : x = y := by
      rcases List.mem_cons.1 ((h x).1 List.mem_cons_self) with e | hx
      · exact e
      · rcases List.mem_cons.1 ((h y).2 List.mem_cons_self) with e | hy
        · exact e.symm
        · have h1 := ha.1 y hy
          have h2 := hb.1 x hx
          omega
    subst e
    have ht : ∀ z, z ∈ a ↔ z ∈ b := fun z => by
      constructor
      · intro hz
        rcases List.mem_cons.1 ((h z).1 (List.mem_cons_of_mem _ hz)) with e | h2
        · have := ha.1 z hz; omega
        · exact h2
      · intro hz
        rcases List.mem_cons.1 ((h z).2 (List.mem_cons_of_mem _ hz)) with e | h2
        · have := hb.1 z hz; omega
        · exact h2
    rw [rising_eq ha.2 hb.2 ht]

theorem getI (zs : List Int) (j : Nat) (h : j < zs.length) : zs.toArray[j]! = zs[j] := by
  rw [getElem!_pos zs.toArray j (by simpa using h)]; simp

theorem compact_rises (zs : List Int) (h : zs.Pairwise (· ≤ ·)) : (Lib.compact zs).Pairwise (· < ·) := by
  unfold Lib.compact Lib.compactUpTo
  rw [List.pairwise_map]
  have h1 : ((List.range zs.length).filter (Lib.keeps zs.toArray)).Pairwise (· < ·) := List.Pairwise.filter _ List.pairwise_lt_range
  refine List.Pairwise.imp_of_mem ?_ h1
  intro i j hi hj hij
  obtain ⟨hir, _⟩ := List.mem_filter.1 hi
  obtain ⟨hjr, hk⟩ := List.mem_filter.1 hj
  rw [List.mem_range] at hir hjr
  have hk2 : zs.toArray[j]! ≠ zs.toArray[j - 1]! := by
    simp only [Lib.keeps, decide_eq_true_eq] at hk
    rcases hk with e | e
    · omega
    · exact e
  rw [getI zs j hjr, getI zs (j - 1) (by omega)] at hk2
  rw [getI zs i hir, getI zs j hjr]
  have hle : ∀ (p q : Nat) (hp : p < zs.length) (hq : q < zs.length), p ≤ q → zs[p] ≤ zs[q] := fun p q hp hq hpq => by
    by_cases e : p = q
    · subst e; exact Int.le_refl _
    · exact List.pairwise_iff_getElem.1 h p q hp hq (by omega)
  have h3 := hle i (j - 1) hir (by omega) (by omega)
  have h4 := hle (j - 1) j (by omega) hjr (by omega)
  omega

theorem mem_compact (zs : List Int) (x : Int) : x ∈ Lib.compact zs ↔ x ∈ zs := by
  unfold Lib.compact Lib.compactUpTo
  constructor
  · intro h
    obtain ⟨j, hj, rfl⟩ := List.mem_map.1 h
    have hjr := List.mem_range.1 (List.mem_filter.1 hj).1
    rw [getI zs j hjr]
    exact List.getElem_mem hjr
  · intro h
    obtain ⟨j, hj, rfl⟩ := List.getElem_of_mem h
    have key : ∀ j, j < zs.length → zs.toArray[j]! ∈ ((List.range zs.length).filter (Lib.keeps zs.toArray)).map (zs.toArray[·]!) := by
      intro j
      induction j with
      | zero => intro hj; exact List.mem_map.2 ⟨0, List.mem_filter.2 ⟨List.mem_range.2 (by simpa using hj), by simp [Lib.keeps]⟩, rfl⟩
      | succ j ih =>
        intro hj
        by_cases e : zs.toArray[j + 1]! = zs.toArray[j]!
        · rw [e]; exact ih (by omega)
        · exact List.mem_map.2 ⟨j + 1, List.mem_filter.2 ⟨List.mem_range.2 (by simpa using hj), by simp only [Lib.keeps, decide_eq_true_eq]; exact .inr e⟩, rfl⟩
    have := key j hj
    rwa [getI zs j hj] at this

theorem tidyRow_rises (l : List Int) : (tidyRow l).Pairwise (· < ·) := by
  refine compact_rises _ ?_
  have h := List.pairwise_mergeSort (le := fun (x y : Int) => decide (x ≤ y)) (fun a b c h1 h2 => by simp only [decide_eq_true_eq] at *; omega) (fun a b => by simp only [Bool.or_eq_true, decide_eq_true_eq]; omega) l
  exact h.imp (fun h => by simpa using h)
theorem mem_tidyRow (l : List Int) (x : Int) : x ∈ tidyRow l ↔ x ∈ l := by
  unfold tidyRow
  rw [mem_compact, List.mem_mergeSort]

/-- What was put together, tidied, is a graph by its edges. -/
theorem acc_tidy (n : Nat) (ps : List (Nat × Nat)) (R : Nat → Nat → Bool) (h : ∀ a b, a < n → ((a, b) ∈ ps ↔ b < n ∧ R a b = true)) : (acc n ps).map tidyRow = gr n R := by
  apply List.ext_getElem
  · simp [acc_length, gr_length]
  · intro i h1 h2
    rw [gr_length] at h2
    have e1 : (gr n R)[i]'(by rw [gr_length]; exact h2) = (gr n R).getD i [] := by rw [List.getD_eq_getElem?_getD, List.getElem?_eq_getElem (by rw [gr_length]; exact h2)]; rfl
    have hr := gr_neat n R i (by rw [gr_length]; exact h2)
    rw [List.getElem_map, e1]
    refine rising_eq (tidyRow_rises _) hr.1 fun x => ?_
    rw [mem_tidyRow, gr_mem h2]
    have e2 : (acc n ps)[i]'(by rw [acc_length]; exact h2) = (ps.filter fun x => x.1 == i).map fun x => (x.2 : Int) := by simp [acc]
    rw [e2, List.mem_map]
    constructor
    · rintro ⟨⟨a, b⟩, hx, rfl⟩
      rw [List.mem_filter] at hx
      have ha : a = i := by simpa using hx.2
      subst ha
      have := (h a b h2).1 hx.1
      exact ⟨b, rfl, this.1, this.2⟩
    · rintro ⟨b, rfl, hb, hR⟩
      exact ⟨(i, b), List.mem_filter.2 ⟨(h i b h2).2 ⟨hb, hR⟩, by simp⟩, rfl⟩

theorem E_rowOf {g : List (List Int)} {a b : Nat} : E g a b = true ↔ a < g.length ∧ b < g.length ∧ (b : Int) ∈ rowOf g a := E_iff
theorem acc_clean (g : List (List Int)) : (acc g.length (edgesL g)).map tidyRow = clean g := by
  refine acc_tidy _ _ _ fun a b ha => ?_
  constructor
  · intro h
    have := mem_edges h
    exact ⟨this.2.1, E_rowOf.2 this⟩
  · rintro ⟨hb, hE⟩
    exact edges_mem ha hb (E_rowOf.1 hE).2.2
theorem acc_turn (g : List (List Int)) : (acc g.length ((edgesL g).map Prod.swap)).map tidyRow = turn g := by
  refine acc_tidy _ _ _ fun a b ha => ?_
  constructor
  · intro h
    obtain ⟨⟨x, y⟩, hx, e⟩ := List.mem_map.1 h
    injection e with e1 e2
    subst e1 e2
    have := mem_edges hx
    exact ⟨this.1, E_rowOf.2 this⟩
  · rintro ⟨hb, hE⟩
    exact List.mem_map.2 ⟨(b, a), edges_mem hb ha (E_rowOf.1 hE).2.2, rfl⟩

/-- A block of no cells that is another one of none turns nothing that is read. -/
theorem cell_putDef {W : World} {d : Nat} {x y : Option (List Deferred)} (h : W.heap[d]? = some (.deferred x)) (p : Addr) : (W.putObj d (.deferred y)).cell? p = W.cell? p := by
  by_cases e : p.block = d
  · have h1 := World.putObj_heap_same (w := W) (o := .deferred y) (Array.getElem?_eq_some_iff.1 h).1
    rw [← e] at h h1
    unfold World.cell?
    rw [← e, h1, h]
  · exact World.cell?_of_block (World.putObj_heap_other e)

/-- A graph that is small enough. -/
def Small (g : List (List Int)) : Prop := g.length ≤ 1000 ∧ (edgesL g).length ≤ 1000000

set_option maxRecDepth 100000 in
set_option maxHeartbeats 4000000 in
set_option linter.unusedSimpArgs false in
theorem clean_own (A : Option Addr) (c B : Nat) (g : List (List Int)) (w : World) (hG : Gr w B (.slice A g.length c) g) (hB : B ≤ w.heap.size) (hs : Small g) :
    Calls Try.prog 70 #[.slice A g.length c] w fun e w' => e = .returned (.slice (some ⟨w.heap.size, 0, none⟩) g.length g.length) ∧ (∃ base, w.heap.size < base ∧ OwnG w' w.heap.size base 26 3 (clean g)) ∧ Below w.heap.size w w' := by
  obtain ⟨i0, hi, hz0, hz1, hz2⟩ := info_parts infoI
  obtain ⟨N, hN⟩ : ∃ N, g.length = N := ⟨_, rfl⟩
  have hN1000 : N ≤ 1000 := hN ▸ hs.1
  have HE := Lib.hid hs.2
  have HN := Lib.hid hN
  have HG := Lib.hid hG
  have HACC := Lib.hid (acc_clean g)
  rw [hN] at HACC ⊢
  have hmk := make_rows N hN1000
  clear hN hG hs
  refine (callsIn_wide (n := 4)).1 ?_
  refine callsIn_of_wp_marks Try.func70 rfl trivial ?_ rfl
  simp only [Try.ntmps70, List.size_toArray, List.length_cons, List.length_nil, Nat.reduceAdd, Nat.reduceSub, Array.replicate_succ, Array.replicate_zero, List.push_toArray, List.append_toArray, List.nil_append, List.cons_append]
  gi_wp2_with (refine ⟨trivial, ?_⟩; gi_at_call 110; refine (callsIn_wide.2 (edges_any _ _ _ _)).mono ?_; rintro e w2 ⟨rfl, rfl⟩)
  obtain ⟨W0, hW0⟩ : ∃ W0, ((w.alloc (.cells (Array.replicate N (.slice none 0 0)) 26)).alloc (.cells #[.slice (some ⟨w.heap.size, 0, none⟩) N N] 22)).alloc (.cells #[.slice A N c] 22) = W0 := ⟨_, rfl⟩
  have hsz0 : W0.heap.size = w.heap.size + 3 := by rw [← hW0]; simp
  have hbx : W0.cell? ⟨w.heap.size + 2, 0, none⟩ = some (.slice A N c) := by rw [← hW0]; have := (Blk.new ((w.alloc (.cells (Array.replicate N (.slice none 0 0)) 26)).alloc (.cells #[.slice (some ⟨w.heap.size, 0, none⟩) N N] 22)) 22 #[.slice A N c]).cell 0; simpa using this
  have hvb0 : W0.cell? ⟨w.heap.size + 1, 0, none⟩ = some (.slice (some ⟨w.heap.size, 0, none⟩) N N) := by rw [← hW0]; have := ((Blk.new (w.alloc (.cells (Array.replicate N (.slice none 0 0)) 26)) 22 #[.slice (some ⟨w.heap.size, 0, none⟩) N N]).alloc (.cells #[.slice A N c] 22)).cell 0; simpa using this
  have hrb0 : Blk W0 w.heap.size 26 (Array.replicate N (.slice none 0 0)) := by rw [← hW0]; exact ((Blk.new w _ _).alloc _).alloc _
  have hb0 : Below w.heap.size w W0 := by rw [← hW0]; exact (((Below.refl _ w).alloc (Nat.le_refl _) _).alloc (by simp) _).alloc (by simp; omega) _
  have HT2 := Lib.hid (show Tells Fence.wide 3 Try.prog 143 #[.pointer (some ⟨w.heap.size + 2, 0, none⟩)] (fun x : Nat × Nat => #[Value.int .i64 (x.1 : Int), Value.int .i64 (x.2 : Int)]) (fun _ k => k < B ∨ k = w.heap.size + 2) (fun _ _ => True) (edgesL g) W0 from
    edges_tells 3 (by decide) (w.heap.size + 2) B A c g W0 (by rw [HN.out]; exact hbx) (HG.out.below (hb0.mono hB)) (by omega))
  rw [hW0]
  have HW0 := Lib.hid hW0
  clear hW0 hmk hbx
  refine wpIn_range rfl (by decide) (gf := 143) (lb := #[.pointer (some ⟨w.heap.size + 2, 0, none⟩)]) rfl trivial (enters_of Try.func143 (by kernel_rfl) rfl) HT2.out (Below.refl _ _) (fun _ => rfl)
    (fun k => ¬ Two W0.heap.size k) (fun k h h' => h' h) (fun _ _ => trivial) (fun _ _ => trivial) (by omega)
    (fun pre W => (W.cell? ⟨w.heap.size + 1, 0, none⟩ = some (.slice (some ⟨w.heap.size, 0, none⟩) N N) ∧ OwnG W w.heap.size (W0.heap.size + 2) 26 3 (acc N pre)) ∧ Below w.heap.size w W ∧ W0.heap.size ≤ W.heap.size)
    (fun _ _ _ => False)
    (fun pre X Y ⟨⟨h1, h2⟩, h3, h4⟩ hk => ⟨⟨hk.cell (by unfold Two; simp; omega) h1, h2.keep fun k hk1 hk2 => hk.block k (by unfold Two; omega) hk2⟩, h3.trans (hk.below (by omega) (fun k hk1 => by unfold Two; omega)), Nat.le_trans h4 hk.size⟩)
    (fun _ _ _ _ h _ _ => h)
    ⟨⟨hvb0, by rw [acc_nil]; exact OwnG.start _ _ _ hrb0⟩, hb0, Nat.le_refl _⟩
    (fun x => { tmps := #[.slice A N c, undef, .slice none 0 0, .pointer (some ⟨w.heap.size + 1, 0, none⟩), .int .i64 (x.1 : Int), .int .i64 (x.2 : Int), .slice A N c, .int .i64 (N : Int), .slice (some ⟨w.heap.size, 0, none⟩) N N, .slice A N c, .func (.func 143) #[] #[.pointer (some ⟨w.heap.size + 2, 0, none⟩)], .int .i64 (x.1 : Int), .int .i64 (x.2 : Int), undef, undef, undef, undef, undef, undef, undef, undef, undef, undef, undef, undef], defers := [] }) ?assign ?body ?done ?stop
  case assign =>
    intro l x W K hK
    gi_wp2
    exact hK
  case body =>
    rintro l pre x W ⟨⟨hvb, hown⟩, hbel, hsz⟩ hpre hsz2
    have hxm := mem_edges (hpre.subset (List.mem_append.2 (.inr (List.mem_singleton.2 rfl))))
    rw [HN.out] at hxm
    have hplen : pre.length < 1000000 := by
      have h1 := hpre.length_le
      have h2 := HE.out
      simp at h1; omega
    obtain ⟨rv, hrb, hfr, hone, hrow, ⟨RA, RC, hrvf⟩, hput⟩ := hown.at_ (by omega) (a := x.1) (by rw [acc_length]; exact hxm.1)
    have hrl : (rowOf (acc N pre) x.1).length < 1000000 := Nat.lt_of_le_of_lt (acc_row_len _) hplen
    have HLen1 : (rowOf (acc N pre) x.1).length + 1 ≤ maxLen := by unfold maxLen; omega
    have HLen2 : ((rowOf (acc N pre) x.1).length + 1) * 8 ≤ 140737488355328 := by omega
    have hownA := own_keep (w' := W.drew.alloc (.cells #[.int .i64 (x.2 : Int)] 3)) hrow (fun k _ hk _ => Below.heap_alloc _ _ _ hk)
    have hnewA : (W.drew.alloc (.cells #[.int .i64 (x.2 : Int)] 3)).cell? ⟨W.heap.size, 0, none⟩ = some (.int .i64 (x.2 : Int)) := by
      have := (Blk.new W.drew 3 #[.int .i64 (x.2 : Int)]).cell 0
      simpa using this
    have hvbA : (W.drew.alloc (.cells #[.int .i64 (x.2 : Int)] 3)).cell? ⟨w.heap.size + 1, 0, none⟩ = some (.slice (some ⟨w.heap.size, 0, none⟩) N N) := by
      rw [World.cell?_alloc_lt _ _ _ (by show w.heap.size + 1 < W.heap.size; omega)]; exact hvb
    have hrbA : (W.drew.alloc (.cells #[.int .i64 (x.2 : Int)] 3)).cell? ⟨w.heap.size, x.1, none⟩ = some rv := by
      rw [World.cell?_alloc_lt _ _ _ (by show w.heap.size < W.heap.size; omega)]; exact hrb
    have hrbA2 : (W.alloc (.cells #[.int .i64 (x.2 : Int)] 3)).cell? ⟨w.heap.size, x.1, none⟩ = some rv := hrbA
    have hfrA : (W.drew.alloc (.cells #[.int .i64 (x.2 : Int)] 3)).frozen? ⟨w.heap.size, x.1, none⟩ = false := by
      rw [World.frozen?_alloc_past _ _ _ (by show w.heap.size < W.heap.size; omega)]; exact hfr
    have Hvb : Hid (some (w.heap.size + 1) ≠ rv.ownBlock) := fun e => by have := (hrow.lt _ e.symm).1; omega
    have Hrb : Hid (some w.heap.size ≠ rv.ownBlock) := fun e => by have := (hrow.lt _ e.symm).1; omega
    have HEnd := Lib.hid (show ∀ (g' cap' : Nat) (w' : World), w'.ownsRow (W0.heap.size + 2) 3 1 (.slice (some ⟨g', 0, none⟩) ((rowOf (acc N pre) x.1).length + 1) cap') ((rowOf (acc N pre) x.1).length + 1) (ints (rowOf (acc N pre) x.1) ++ [.int .i64 (x.2 : Int)]) →
        (W.drew.alloc (.cells #[.int .i64 (x.2 : Int)] 3)).grownBy w' rv.ownBlock →
        ((Value.slice (some ⟨g', 0, none⟩) ((rowOf (acc N pre) x.1).length + 1) cap').ownBlock = rv.ownBlock ∨ (Value.slice (some ⟨g', 0, none⟩) ((rowOf (acc N pre) x.1).length + 1) cap').ownBlock = some (W.drew.alloc (.cells #[.int .i64 (x.2 : Int)] 3)).heap.size) →
        Keeps (fun k => (k < B ∨ k = w.heap.size + 2) ∨ Two W0.heap.size k) W (w'.setCell ⟨w.heap.size, x.1, none⟩ (.slice (some ⟨g', 0, none⟩) ((rowOf (acc N pre) x.1).length + 1) cap')) ∧
        ((w'.setCell ⟨w.heap.size, x.1, none⟩ (.slice (some ⟨g', 0, none⟩) ((rowOf (acc N pre) x.1).length + 1) cap')).cell? ⟨w.heap.size + 1, 0, none⟩ = some (.slice (some ⟨w.heap.size, 0, none⟩) N N) ∧
          OwnG (w'.setCell ⟨w.heap.size, x.1, none⟩ (.slice (some ⟨g', 0, none⟩) ((rowOf (acc N pre) x.1).length + 1) cap')) w.heap.size (W0.heap.size + 2) 26 3 (acc N (pre ++ [x]))) ∧
        Below w.heap.size w (w'.setCell ⟨w.heap.size, x.1, none⟩ (.slice (some ⟨g', 0, none⟩) ((rowOf (acc N pre) x.1).length + 1) cap')) ∧ W0.heap.size ≤ (w'.setCell ⟨w.heap.size, x.1, none⟩ (.slice (some ⟨g', 0, none⟩) ((rowOf (acc N pre) x.1).length + 1) cap')).heap.size from by
      intro g' cap' w' h2 h3 h4
      have hr2 : ∀ r, rv.ownBlock = some r → W0.heap.size + 2 ≤ r := fun r e => (hrow.lt r e).1
      have hK1 : Keeps (fun k => (k < B ∨ k = w.heap.size + 2) ∨ Two W0.heap.size k) W w' := ((((Keeps.refl _ W).drew).alloc _).grown h3 fun r e h => by
        have := hr2 r e; unfold Two at h; omega)
      refine ⟨hK1.setCell (by unfold Two; simp; omega) _, ⟨?_, ?_⟩, ?_, ?_⟩
      · rw [World.cell?_setCell_other _ _ _ _ (by simp)]
        exact h3.cell hvbA Hvb.out
      · have h5 := hput (.slice (some ⟨g', 0, none⟩) ((rowOf (acc N pre) x.1).length + 1) cap') (rowOf (acc N pre) x.1 ++ [(x.2 : Int)]) w' rfl (by simpa [ints] using h2)
          (by
            rcases h4 with h4 | h4
            · exact .inr (.inl h4)
            · exact .inr (.inr ⟨_, h4, by simp⟩))
          (fun k hk hlt hne => (h3.block k (by simp; omega) (fun e => hne e.symm)).trans (Below.heap_alloc _ _ _ hlt))
        rw [← acc_snoc (b := x.2) pre hxm.1] at h5
        exact h5
      · refine (hbel.trans ?_).setCell (p := ⟨w.heap.size, x.1, none⟩) (Nat.le_refl _) _
        exact (((Below.refl w.heap.size W).drew.alloc (by show w.heap.size ≤ W.heap.size; omega) _).grown h3 (by simp; omega) fun r e => by have := hr2 r e; omega)
      · have := h3.size
        simp [World.setCell] at this ⊢; omega)
    have hHeld : W.drew.cell? ⟨w.heap.size + 1, 0, none⟩ = some (.slice (some ⟨w.heap.size, 0, none⟩) N N) := hvb
    have hrbD : W.drew.cell? ⟨w.heap.size, x.1, none⟩ = some rv := hrb
    have hx1 : ((x.1 : Nat) : Int) < (N : Int) := by have := hxm.1; omega
    have hx0 : (0 : Int) ≤ ((x.1 : Nat) : Int) := by omega
    have hx2 : x.1 < N := hxm.1
    clear hput hown hone hvb hrb hfr hbel hpre hxm hplen hrl
    subst hrvf
    gi_wp2
    refine wpIn_region_round (S := fun W' => W'.cell? ⟨w.heap.size + 1, 0, none⟩ = some (.slice (some ⟨w.heap.size, 0, none⟩) N N)) (by kernel_rfl) (by kernel_rfl) ?_
    refine wpAnyH_take (i := 0) rfl (by kernel_rfl) (by kernel_rfl) (by kernel_rfl) (fun _ _ _ h => h) (Or.inl ⟨by rfl, by intro W hSW; (try dsimp only at hSW); go_simp; try (with_reducible rfl)⟩) hHeld ?_
    try simp only [Act.put, List.getElem_toArray, List.getElem_cons_zero, List.getElem_cons_succ, List.setIfInBounds_toArray, List.set_cons_zero, List.set_cons_succ]
    refine wpAnyH_take (i := 1) rfl (by kernel_rfl) (by kernel_rfl) (by kernel_rfl) (fun _ _ _ h => h) (Or.inl ⟨by rfl, by intro W hSW; (try dsimp only at hSW); go_simp; try (with_reducible rfl)⟩) hHeld ?_
    try simp only [Act.put, List.getElem_toArray, List.getElem_cons_zero, List.getElem_cons_succ, List.setIfInBounds_toArray, List.set_cons_zero, List.set_cons_succ]
    refine wpAnyH_take (i := 2) rfl (by kernel_rfl) (by kernel_rfl) (by kernel_rfl) (fun _ _ _ h => h) (Or.inl ⟨by rfl, by intro W hSW; (try dsimp only at hSW); go_simp; try (with_reducible rfl)⟩) hHeld ?_
    try simp only [Act.put, List.getElem_toArray, List.getElem_cons_zero, List.getElem_cons_succ, List.setIfInBounds_toArray, List.set_cons_zero, List.set_cons_succ]
    refine wpAnyH_take (i := 3) rfl (by kernel_rfl) (by kernel_rfl) (by kernel_rfl) (fun _ _ _ h => h) (Or.inl ⟨by rfl, by intro W hSW; (try dsimp only at hSW); go_simp; try (with_reducible rfl)⟩) hHeld ?_
    try simp only [Act.put, List.getElem_toArray, List.getElem_cons_zero, List.getElem_cons_succ, List.setIfInBounds_toArray, List.set_cons_zero, List.set_cons_succ]
    refine wpAnyH_take (i := 4) rfl (by kernel_rfl) (by kernel_rfl) (by kernel_rfl) (fun _ _ _ h => h) (Or.inl ⟨by rfl, by intro W hSW; (try dsimp only at hSW); go_simp; try (with_reducible rfl)⟩) hHeld ?_
    try simp only [Act.put, List.getElem_toArray, List.getElem_cons_zero, List.getElem_cons_succ, List.setIfInBounds_toArray, List.set_cons_zero, List.set_cons_succ]
    refine wpAnyH_take (i := 6) rfl (by kernel_rfl) (by kernel_rfl) (by kernel_rfl) (fun _ _ _ h => h) (Or.inl ⟨by rfl, by intro W hSW; (try dsimp only at hSW); go_simp; try (with_reducible rfl)⟩) hHeld ?_
    try simp only [Act.put, List.getElem_toArray, List.getElem_cons_zero, List.getElem_cons_succ, List.setIfInBounds_toArray, List.set_cons_zero, List.set_cons_succ]
    refine wpAnyH_ready (rs := [5, 7]) (by kernel_rfl) (by simp) ?_
    refine AllReadyH.cons rfl (fun K hK => ?_) (AllReadyH.cons rfl (fun K hK => ?_) AllReadyH.nil)
    · go_simp
      refine hK.out _ _ (hHeld) ?_
      clear hK K hHeld
      intro hHeld
      try simp only [Act.put, List.getElem_toArray, List.getElem_cons_zero, List.getElem_cons_succ, List.setIfInBounds_toArray, List.set_cons_zero, List.set_cons_succ]
      refine wpAnyH_ready (rs := [7]) (by kernel_rfl) (by simp) ?_
      refine AllReadyH.cons rfl (fun K hK => ?_) AllReadyH.nil
      go_simp
      refine hK.out _ _ (hvbA) ?_
      clear hK K hHeld
      intro hHeld
      try simp only [Act.put, List.getElem_toArray, List.getElem_cons_zero, List.getElem_cons_succ, List.setIfInBounds_toArray, List.set_cons_zero, List.set_cons_succ]
      refine wpAnyH_ready (rs := [8]) (by kernel_rfl) (by simp) ?_
      refine AllReadyH.cons rfl (fun K hK => ?_) AllReadyH.nil
      refine step_append_where rfl (.tmp 18) (.tmp 20) 26 rfl (W0.heap.size + 2) 3 i0 (.int .i64 0) 8 Try.underlying26 hi hz0 hz1 hz2 rfl _ _ _ rfl hownA ⟨W.heap.size, 0, none⟩ 1 (.int .i64 (x.2 : Int)) rfl hnewA rfl HLen1 HLen2 (by simp; omega) ?_
      intro v' w' h2 h3 h4
      obtain ⟨g', cap', hv'⟩ := ownsRow_succ h2
      subst hv'
      have hvb' : w'.cell? ⟨w.heap.size + 1, 0, none⟩ = some (.slice (some ⟨w.heap.size, 0, none⟩) N N) := h3.cell hvbA (Hvb.out)
      have hrb' := h3.cell hrbA (Hrb.out)
      have hfr' : w'.frozen? ⟨w.heap.size, x.1, none⟩ = false := (World.frozen?_of_block (h3.block w.heap.size (World.block_lt_of_cell? _ _ hrbA) (Hrb.out))).trans hfrA
      refine hK.out _ _ (hvb') ?_
      clear hK K hHeld
      intro hHeld
      try simp only [Act.put, List.getElem_toArray, List.getElem_cons_zero, List.getElem_cons_succ, List.setIfInBounds_toArray, List.set_cons_zero, List.set_cons_succ]
      refine wpAnyH_ready (rs := [9]) (by kernel_rfl) (by simp) ?_
      refine AllReadyH.cons rfl (fun K hK => ?_) AllReadyH.nil
      go_simp
      refine hK.out _ _ (hHeld) ?_
      clear hK K hHeld
      intro hHeld
      try simp only [Act.put, List.getElem_toArray, List.getElem_cons_zero, List.getElem_cons_succ, List.setIfInBounds_toArray, List.set_cons_zero, List.set_cons_succ]
      refine wpAnyH_ready (rs := [10]) (by kernel_rfl) (by simp) ?_
      refine AllReadyH.cons rfl (fun K hK => ?_) AllReadyH.nil
      go_simp
      refine hK.out _ _ (by rw [World.cell?_setCell_other _ _ _ _ (by simp)]; exact hvb') ?_
      clear hK K hHeld
      intro hHeld
      try simp only [Act.put, List.getElem_toArray, List.getElem_cons_zero, List.getElem_cons_succ, List.setIfInBounds_toArray, List.set_cons_zero, List.set_cons_succ]
      refine wpAnyH_done (by kernel_rfl) ?_ _
      refine (show Only _ .normal _ _ from ?_)
      exact HEnd.out _ _ _ h2 h3 h4
    · go_simp
      refine hK.out _ _ (hvbA) ?_
      clear hK K hHeld
      intro hHeld
      try simp only [Act.put, List.getElem_toArray, List.getElem_cons_zero, List.getElem_cons_succ, List.setIfInBounds_toArray, List.set_cons_zero, List.set_cons_succ]
      refine wpAnyH_ready (rs := [5]) (by kernel_rfl) (by simp) ?_
      refine AllReadyH.cons rfl (fun K hK => ?_) AllReadyH.nil
      go_simp
      refine hK.out _ _ (hvbA) ?_
      clear hK K hHeld
      intro hHeld
      try simp only [Act.put, List.getElem_toArray, List.getElem_cons_zero, List.getElem_cons_succ, List.setIfInBounds_toArray, List.set_cons_zero, List.set_cons_succ]
      refine wpAnyH_ready (rs := [8]) (by kernel_rfl) (by simp) ?_
      refine AllReadyH.cons rfl (fun K hK => ?_) AllReadyH.nil
      refine step_append_where rfl (.tmp 18) (.tmp 20) 26 rfl (W0.heap.size + 2) 3 i0 (.int .i64 0) 8 Try.underlying26 hi hz0 hz1 hz2 rfl _ _ _ rfl hownA ⟨W.heap.size, 0, none⟩ 1 (.int .i64 (x.2 : Int)) rfl hnewA rfl HLen1 HLen2 (by simp; omega) ?_
      intro v' w' h2 h3 h4
      obtain ⟨g', cap', hv'⟩ := ownsRow_succ h2
      subst hv'
      have hvb' : w'.cell? ⟨w.heap.size + 1, 0, none⟩ = some (.slice (some ⟨w.heap.size, 0, none⟩) N N) := h3.cell hvbA (Hvb.out)
      have hrb' := h3.cell hrbA (Hrb.out)
      have hfr' : w'.frozen? ⟨w.heap.size, x.1, none⟩ = false := (World.frozen?_of_block (h3.block w.heap.size (World.block_lt_of_cell? _ _ hrbA) (Hrb.out))).trans hfrA
      refine hK.out _ _ (hvb') ?_
      clear hK K hHeld
      intro hHeld
      try simp only [Act.put, List.getElem_toArray, List.getElem_cons_zero, List.getElem_cons_succ, List.setIfInBounds_toArray, List.set_cons_zero, List.set_cons_succ]
      refine wpAnyH_ready (rs := [9]) (by kernel_rfl) (by simp) ?_
      refine AllReadyH.cons rfl (fun K hK => ?_) AllReadyH.nil
      go_simp
      refine hK.out _ _ (hHeld) ?_
      clear hK K hHeld
      intro hHeld
      try simp only [Act.put, List.getElem_toArray, List.getElem_cons_zero, List.getElem_cons_succ, List.setIfInBounds_toArray, List.set_cons_zero, List.set_cons_succ]
      refine wpAnyH_ready (rs := [10]) (by kernel_rfl) (by simp) ?_
      refine AllReadyH.cons rfl (fun K hK => ?_) AllReadyH.nil
      go_simp
      refine hK.out _ _ (by rw [World.cell?_setCell_other _ _ _ _ (by simp)]; exact hvb') ?_
      clear hK K hHeld
      intro hHeld
      try simp only [Act.put, List.getElem_toArray, List.getElem_cons_zero, List.getElem_cons_succ, List.setIfInBounds_toArray, List.set_cons_zero, List.set_cons_succ]
      refine wpAnyH_done (by kernel_rfl) ?_ _
      refine (show Only _ .normal _ _ from ?_)
      exact HEnd.out _ _ _ h2 h3 h4
  case done =>
    rintro W ⟨⟨hvb, hown⟩, hbel, hsz⟩ hD
    have hlen : ∀ i, (rowOf (acc N (edgesL g)) i).length ≤ 1000000 := fun i => Nat.le_trans (acc_row_len _) (by have := HE.out; simpa using this)
    have HC := Lib.hid (tidy_any W w.heap.size (W0.heap.size + 2) (acc N (edgesL g)) hown (by omega) (by rw [acc_length]; exact hN1000) hlen)
    rw [acc_length, HACC.out] at HC
    have hlt := (Array.getElem?_eq_some_iff.1 hD).1
    clear hlen
    gi_wp2_with (refine ⟨trivial, ?_⟩; gi_at_call 111; refine (callsIn_wide.2 HC.out).mono ?_; rintro e w2 ⟨rfl, hg2, hk2⟩)
    have hD2 : w2.heap[W0.heap.size]? = some (.deferred (some [])) := (hk2.block _ (by omega) hlt).trans hD
    rw [hsz0] at hD2
    have hg3 : OwnG (w2.putObj (w.heap.size + 3) (.deferred none)) w.heap.size (W0.heap.size + 2) 26 3 (clean g) := hg2.keep fun k hk _ => World.putObj_heap_other (by omega)
    refine ⟨by simp, .inl ⟨_, _, rfl, run_takeDeferred hD2, ?_⟩⟩
    refine ⟨_, results_tmp rfl _ _ _, rfl, ⟨_, by omega, hg3⟩, ?_⟩
    have h1 : Below w.heap.size w w2 := hbel.trans (hk2.below (by omega) fun k hk => by omega)
    exact h1.trans ⟨rfl, rfl, rfl, by simp, fun k hk => World.putObj_heap_other (by omega)⟩
  case stop =>
    rintro ch pre W _ h _
    exact h.elim

theorem clean_any (A : Option Addr) (c B : Nat) (g : List (List Int)) (w : World) (hG : Gr w B (.slice A g.length c) g) (hB : B ≤ w.heap.size) (hs : Small g) :
    Calls Try.prog 70 #[.slice A g.length c] w fun e w' => ∃ A' c', e = .returned (.slice A' g.length c') ∧ Gr w' w'.heap.size (.slice A' g.length c') (clean g) ∧ Below w.heap.size w w' ∧ ∀ X, Keeps (fun k => w.heap.size ≤ k) w' X → Gr X w'.heap.size (.slice A' g.length c') (clean g) := by
  refine (clean_own A c B g w hG hB hs).mono ?_
  rintro e w2 ⟨rfl, ⟨base, hb, hg3⟩, hbel⟩
  have hN1000 := hs.1
  have hgr : ∀ X, Keeps (fun k => w.heap.size ≤ k) w2 X → Gr X w2.heap.size (.slice (some ⟨w.heap.size, 0, none⟩) g.length g.length) (clean g) := fun X hX => by
    have := hg3.gr_kept (w' := X) g.length (by rw [clean_length]; exact Nat.le_refl _) (by unfold maxLen; omega) fun k hk hlt => hX.block k (by omega) hlt
    rwa [clean_length] at this
  exact ⟨_, _, rfl, hgr _ (Keeps.refl _ _), hbel, hgr⟩
end Go.Proofs.Ytlfgnoicjogfpaa.By

namespace Go.Proofs.Ytlfgnoicjogfpaa.By
open Go.RowKit
open Mem Gm Rf
attribute [local go_sem] Oper.semAt_some

set_option maxRecDepth 100000 in
set_option maxHeartbeats 4000000 in
set_option linter.unusedSimpArgs false in
theorem turn_any (A : Option Addr) (c B : Nat) (g : List (List Int)) (w : World) (hG : Gr w B (.slice A g.length c) g) (hB : B ≤ w.heap.size) (hs : Small g) :
    Calls Try.prog 61 #[.slice A g.length c] w fun e w' => ∃ A' c', e = .returned (.slice A' g.length c') ∧ Gr w' w'.heap.size (.slice A' g.length c') (turn g) ∧ Below w.heap.size w w' ∧ ∀ X, Keeps (fun k => w.heap.size ≤ k) w' X → Gr X w'.heap.size (.slice A' g.length c') (turn g) := by
  obtain ⟨i0, hi, hz0, hz1, hz2⟩ := info_parts infoI
  obtain ⟨N, hN⟩ : ∃ N, g.length = N := ⟨_, rfl⟩
  have hN1000 : N ≤ 1000 := hN ▸ hs.1
  have HE := Lib.hid hs.2
  have HN := Lib.hid hN
  have HG := Lib.hid hG
  have HACC := Lib.hid (acc_turn g)
  rw [hN] at HACC ⊢
  have hmk := make_rows N hN1000
  clear hN hG hs
  refine (callsIn_wide (n := 4)).1 ?_
  refine callsIn_of_wp_marks Try.func61 rfl trivial ?_ rfl
  simp only [Try.ntmps61, List.size_toArray, List.length_cons, List.length_nil, Nat.reduceAdd, Nat.reduceSub, Array.replicate_succ, Array.replicate_zero, List.push_toArray, List.append_toArray, List.nil_append, List.cons_append]
  gi_wp2_with (refine ⟨trivial, ?_⟩; gi_at_call 110; refine (callsIn_wide.2 (edges_any _ _ _ _)).mono ?_; rintro e w2 ⟨rfl, rfl⟩)
  obtain ⟨W0, hW0⟩ : ∃ W0, ((w.alloc (.cells (Array.replicate N (.slice none 0 0)) 26)).alloc (.cells #[.slice (some ⟨w.heap.size, 0, none⟩) N N] 22)).alloc (.cells #[.slice A N c] 22) = W0 := ⟨_, rfl⟩
  have hsz0 : W0.heap.size = w.heap.size + 3 := by rw [← hW0]; simp
  have hbx : W0.cell? ⟨w.heap.size + 2, 0, none⟩ = some (.slice A N c) := by rw [← hW0]; have := (Blk.new ((w.alloc (.cells (Array.replicate N (.slice none 0 0)) 26)).alloc (.cells #[.slice (some ⟨w.heap.size, 0, none⟩) N N] 22)) 22 #[.slice A N c]).cell 0; simpa using this
  have hvb0 : W0.cell? ⟨w.heap.size + 1, 0, none⟩ = some (.slice (some ⟨w.heap.size, 0, none⟩) N N) := by rw [← hW0]; have := ((Blk.new (w.alloc (.cells (Array.replicate N (.slice none 0 0)) 26)) 22 #[.slice (some ⟨w.heap.size, 0, none⟩) N N]).alloc (.cells #[.slice A N c] 22)).cell 0; simpa using this
  have hrb0 : Blk W0 w.heap.size 26 (Array.replicate N (.slice none 0 0)) := by rw [← hW0]; exact ((Blk.new w _ _).alloc _).alloc _
  have hb0 : Below w.heap.size w W0 := by rw [← hW0]; exact (((Below.refl _ w).alloc (Nat.le_refl _) _).alloc (by simp) _).alloc (by simp; omega) _
  have HT2 := Lib.hid (show Tells Fence.wide 3 Try.prog 143 #[.pointer (some ⟨w.heap.size + 2, 0, none⟩)] (fun x : Nat × Nat => #[Value.int .i64 (x.1 : Int), Value.int .i64 (x.2 : Int)]) (fun _ k => k < B ∨ k = w.heap.size + 2) (fun _ _ => True) (edgesL g) W0 from
    edges_tells 3 (by decide) (w.heap.size + 2) B A c g W0 (by rw [HN.out]; exact hbx) (HG.out.below (hb0.mono hB)) (by omega))
  rw [hW0]
  have HW0 := Lib.hid hW0
  clear hW0 hmk hbx
  refine wpIn_range rfl (by decide) (gf := 143) (lb := #[.pointer (some ⟨w.heap.size + 2, 0, none⟩)]) rfl trivial (enters_of Try.func143 (by kernel_rfl) rfl) HT2.out (Below.refl _ _) (fun _ => rfl)
    (fun k => ¬ Two W0.heap.size k) (fun k h h' => h' h) (fun _ _ => trivial) (fun _ _ => trivial) (by omega)
    (fun pre W => (W.cell? ⟨w.heap.size + 1, 0, none⟩ = some (.slice (some ⟨w.heap.size, 0, none⟩) N N) ∧ OwnG W w.heap.size (W0.heap.size + 2) 26 3 (acc N (pre.map Prod.swap))) ∧ Below w.heap.size w W ∧ W0.heap.size ≤ W.heap.size)
    (fun _ _ _ => False)
    (fun pre X Y ⟨⟨h1, h2⟩, h3, h4⟩ hk => ⟨⟨hk.cell (by unfold Two; simp; omega) h1, h2.keep fun k hk1 hk2 => hk.block k (by unfold Two; omega) hk2⟩, h3.trans (hk.below (by omega) (fun k hk1 => by unfold Two; omega)), Nat.le_trans h4 hk.size⟩)
    (fun _ _ _ _ h _ _ => h)
    ⟨⟨hvb0, by simp only [List.map_nil]; rw [acc_nil]; exact OwnG.start _ _ _ hrb0⟩, hb0, Nat.le_refl _⟩
    (fun x => { tmps := #[.slice A N c, undef, .slice none 0 0, .pointer (some ⟨w.heap.size + 1, 0, none⟩), .int .i64 (x.1 : Int), .int .i64 (x.2 : Int), .slice A N c, .int .i64 (N : Int), .slice (some ⟨w.heap.size, 0, none⟩) N N, .slice A N c, .func (.func 143) #[] #[.pointer (some ⟨w.heap.size + 2, 0, none⟩)], .int .i64 (x.1 : Int), .int .i64 (x.2 : Int), undef, undef, undef, undef, undef, undef, undef, undef, undef, undef, undef, undef], defers := [] }) ?assign ?body ?done ?stop
  case assign =>
    intro l x W K hK
    gi_wp2
    exact hK
  case body =>
    rintro l pre x W ⟨⟨hvb, hown⟩, hbel, hsz⟩ hpre hsz2
    have hxm := mem_edges (hpre.subset (List.mem_append.2 (.inr (List.mem_singleton.2 rfl))))
    rw [HN.out] at hxm
    have hplen : pre.length < 1000000 := by
      have h1 := hpre.length_le
      have h2 := HE.out
      simp at h1; omega
    obtain ⟨rv, hrb, hfr, hone, hrow, ⟨RA, RC, hrvf⟩, hput⟩ := hown.at_ (by omega) (a := x.2) (by rw [acc_length]; exact hxm.2.1)
    have hrl : (rowOf (acc N (pre.map Prod.swap)) x.2).length < 1000000 := Nat.lt_of_le_of_lt (acc_row_len _) (by simpa using hplen)
    have HLen1 : (rowOf (acc N (pre.map Prod.swap)) x.2).length + 1 ≤ maxLen := by unfold maxLen; omega
    have HLen2 : ((rowOf (acc N (pre.map Prod.swap)) x.2).length + 1) * 8 ≤ 140737488355328 := by omega
    have hownA := own_keep (w' := W.drew.alloc (.cells #[.int .i64 (x.1 : Int)] 3)) hrow (fun k _ hk _ => Below.heap_alloc _ _ _ hk)
    have hnewA : (W.drew.alloc (.cells #[.int .i64 (x.1 : Int)] 3)).cell? ⟨W.heap.size, 0, none⟩ = some (.int .i64 (x.1 : Int)) := by
      have := (Blk.new W.drew 3 #[.int .i64 (x.1 : Int)]).cell 0
      simpa using this
    have hvbA : (W.drew.alloc (.cells #[.int .i64 (x.1 : Int)] 3)).cell? ⟨w.heap.size + 1, 0, none⟩ = some (.slice (some ⟨w.heap.size, 0, none⟩) N N) := by
      rw [World.cell?_alloc_lt _ _ _ (by show w.heap.size + 1 < W.heap.size; omega)]; exact hvb
    have hrbA : (W.drew.alloc (.cells #[.int .i64 (x.1 : Int)] 3)).cell? ⟨w.heap.size, x.2, none⟩ = some rv := by
      rw [World.cell?_alloc_lt _ _ _ (by show w.heap.size < W.heap.size; omega)]; exact hrb
    have hrbA2 : (W.alloc (.cells #[.int .i64 (x.1 : Int)] 3)).cell? ⟨w.heap.size, x.2, none⟩ = some rv := hrbA
    have hfrA : (W.drew.alloc (.cells #[.int .i64 (x.1 : Int)] 3)).frozen? ⟨w.heap.size, x.2, none⟩ = false := by
      rw [World.frozen?_alloc_past _ _ _ (by show w.heap.size < W.heap.size; omega)]; exact hfr
    have Hvb : Hid (some (w.heap.size + 1) ≠ rv.ownBlock) := fun e => by have := (hrow.lt _ e.symm).1; omega
    have Hrb : Hid (some w.heap.size ≠ rv.ownBlock) := fun e => by have := (hrow.lt _ e.symm).1; omega
    have HEnd := Lib.hid (show ∀ (g' cap' : Nat) (w' : World), w'.ownsRow (W0.heap.size + 2) 3 1 (.slice (some ⟨g', 0, none⟩) ((rowOf (acc N (pre.map Prod.swap)) x.2).length + 1) cap') ((rowOf (acc N (pre.map Prod.swap)) x.2).length + 1) (ints (rowOf (acc N (pre.map Prod.swap)) x.2) ++ [.int .i64 (x.1 : Int)]) →
        (W.drew.alloc (.cells #[.int .i64 (x.1 : Int)] 3)).grownBy w' rv.ownBlock →
        ((Value.slice (some ⟨g', 0, none⟩) ((rowOf (acc N (pre.map Prod.swap)) x.2).length + 1) cap').ownBlock = rv.ownBlock ∨ (Value.slice (some ⟨g', 0, none⟩) ((rowOf (acc N (pre.map Prod.swap)) x.2).length + 1) cap').ownBlock = some (W.drew.alloc (.cells #[.int .i64 (x.1 : Int)] 3)).heap.size) →
        Keeps (fun k => (k < B ∨ k = w.heap.size + 2) ∨ Two W0.heap.size k) W (w'.setCell ⟨w.heap.size, x.2, none⟩ (.slice (some ⟨g', 0, none⟩) ((rowOf (acc N (pre.map Prod.swap)) x.2).length + 1) cap')) ∧
        ((w'.setCell ⟨w.heap.size, x.2, none⟩ (.slice (some ⟨g', 0, none⟩) ((rowOf (acc N (pre.map Prod.swap)) x.2).length + 1) cap')).cell? ⟨w.heap.size + 1, 0, none⟩ = some (.slice (some ⟨w.heap.size, 0, none⟩) N N) ∧
          OwnG (w'.setCell ⟨w.heap.size, x.2, none⟩ (.slice (some ⟨g', 0, none⟩) ((rowOf (acc N (pre.map Prod.swap)) x.2).length + 1) cap')) w.heap.size (W0.heap.size + 2) 26 3 (acc N ((pre ++ [x]).map Prod.swap))) ∧
        Below w.heap.size w (w'.setCell ⟨w.heap.size, x.2, none⟩ (.slice (some ⟨g', 0, none⟩) ((rowOf (acc N (pre.map Prod.swap)) x.2).length + 1) cap')) ∧ W0.heap.size ≤ (w'.setCell ⟨w.heap.size, x.2, none⟩ (.slice (some ⟨g', 0, none⟩) ((rowOf (acc N (pre.map Prod.swap)) x.2).length + 1) cap')).heap.size from by
      intro g' cap' w' h2 h3 h4
      have hr2 : ∀ r, rv.ownBlock = some r → W0.heap.size + 2 ≤ r := fun r e => (hrow.lt r e).1
      have hK1 : Keeps (fun k => (k < B ∨ k = w.heap.size + 2) ∨ Two W0.heap.size k) W w' := ((((Keeps.refl _ W).drew).alloc _).grown h3 fun r e h => by
        have := hr2 r e; unfold Two at h; omega)
      refine ⟨hK1.setCell (by unfold Two; simp; omega) _, ⟨?_, ?_⟩, ?_, ?_⟩
      · rw [World.cell?_setCell_other _ _ _ _ (by simp)]
        exact h3.cell hvbA Hvb.out
      · have h5 := hput (.slice (some ⟨g', 0, none⟩) ((rowOf (acc N (pre.map Prod.swap)) x.2).length + 1) cap') (rowOf (acc N (pre.map Prod.swap)) x.2 ++ [(x.1 : Int)]) w' rfl (by simpa [ints] using h2)
          (by
            rcases h4 with h4 | h4
            · exact .inr (.inl h4)
            · exact .inr (.inr ⟨_, h4, by simp⟩))
          (fun k hk hlt hne => (h3.block k (by simp; omega) (fun e => hne e.symm)).trans (Below.heap_alloc _ _ _ hlt))
        rw [← acc_snoc (b := x.1) (pre.map Prod.swap) hxm.2.1] at h5
        rw [List.map_append]; exact h5
      · refine (hbel.trans ?_).setCell (p := ⟨w.heap.size, x.2, none⟩) (Nat.le_refl _) _
        exact (((Below.refl w.heap.size W).drew.alloc (by show w.heap.size ≤ W.heap.size; omega) _).grown h3 (by simp; omega) fun r e => by have := hr2 r e; omega)
      · have := h3.size
        simp [World.setCell] at this ⊢; omega)
    have hHeld : W.drew.cell? ⟨w.heap.size + 1, 0, none⟩ = some (.slice (some ⟨w.heap.size, 0, none⟩) N N) := hvb
    have hrbD : W.drew.cell? ⟨w.heap.size, x.2, none⟩ = some rv := hrb
    have hx1 : ((x.2 : Nat) : Int) < (N : Int) := by have := hxm.2.1; omega
    have hx0 : (0 : Int) ≤ ((x.2 : Nat) : Int) := by omega
    have hx2 : x.2 < N := hxm.2.1
    clear hput hown hone hvb hrb hfr hbel hpre hxm hplen hrl
    subst hrvf
    gi_wp2
    refine wpIn_region_round (S := fun W' => W'.cell? ⟨w.heap.size + 1, 0, none⟩ = some (.slice (some ⟨w.heap.size, 0, none⟩) N N)) (by kernel_rfl) (by kernel_rfl) ?_
    refine wpAnyH_take (i := 0) rfl (by kernel_rfl) (by kernel_rfl) (by kernel_rfl) (fun _ _ _ h => h) (Or.inl ⟨by rfl, by intro W hSW; (try dsimp only at hSW); go_simp; try (with_reducible rfl)⟩) hHeld ?_
    try simp only [Act.put, List.getElem_toArray, List.getElem_cons_zero, List.getElem_cons_succ, List.setIfInBounds_toArray, List.set_cons_zero, List.set_cons_succ]
    refine wpAnyH_take (i := 1) rfl (by kernel_rfl) (by kernel_rfl) (by kernel_rfl) (fun _ _ _ h => h) (Or.inl ⟨by rfl, by intro W hSW; (try dsimp only at hSW); go_simp; try (with_reducible rfl)⟩) hHeld ?_
    try simp only [Act.put, List.getElem_toArray, List.getElem_cons_zero, List.getElem_cons_succ, List.setIfInBounds_toArray, List.set_cons_zero, List.set_cons_succ]
    refine wpAnyH_take (i := 2) rfl (by kernel_rfl) (by kernel_rfl) (by kernel_rfl) (fun _ _ _ h => h) (Or.inl ⟨by rfl, by intro W hSW; (try dsimp only at hSW); go_simp; try (with_reducible rfl)⟩) hHeld ?_
    try simp only [Act.put, List.getElem_toArray, List.getElem_cons_zero, List.getElem_cons_succ, List.setIfInBounds_toArray, List.set_cons_zero, List.set_cons_succ]
    refine wpAnyH_take (i := 3) rfl (by kernel_rfl) (by kernel_rfl) (by kernel_rfl) (fun _ _ _ h => h) (Or.inl ⟨by rfl, by intro W hSW; (try dsimp only at hSW); go_simp; try (with_reducible rfl)⟩) hHeld ?_
    try simp only [Act.put, List.getElem_toArray, List.getElem_cons_zero, List.getElem_cons_succ, List.setIfInBounds_toArray, List.set_cons_zero, List.set_cons_succ]
    refine wpAnyH_take (i := 4) rfl (by kernel_rfl) (by kernel_rfl) (by kernel_rfl) (fun _ _ _ h => h) (Or.inl ⟨by rfl, by intro W hSW; (try dsimp only at hSW); go_simp; try (with_reducible rfl)⟩) hHeld ?_
    try simp only [Act.put, List.getElem_toArray, List.getElem_cons_zero, List.getElem_cons_succ, List.setIfInBounds_toArray, List.set_cons_zero, List.set_cons_succ]
    refine wpAnyH_take (i := 6) rfl (by kernel_rfl) (by kernel_rfl) (by kernel_rfl) (fun _ _ _ h => h) (Or.inl ⟨by rfl, by intro W hSW; (try dsimp only at hSW); go_simp; try (with_reducible rfl)⟩) hHeld ?_
    try simp only [Act.put, List.getElem_toArray, List.getElem_cons_zero, List.getElem_cons_succ, List.setIfInBounds_toArray, List.set_cons_zero, List.set_cons_succ]
    refine wpAnyH_ready (rs := [5, 7]) (by kernel_rfl) (by simp) ?_
    refine AllReadyH.cons rfl (fun K hK => ?_) (AllReadyH.cons rfl (fun K hK => ?_) AllReadyH.nil)
    · go_simp
      refine hK.out _ _ (hHeld) ?_
      clear hK K hHeld
      intro hHeld
      try simp only [Act.put, List.getElem_toArray, List.getElem_cons_zero, List.getElem_cons_succ, List.setIfInBounds_toArray, List.set_cons_zero, List.set_cons_succ]
      refine wpAnyH_ready (rs := [7]) (by kernel_rfl) (by simp) ?_
      refine AllReadyH.cons rfl (fun K hK => ?_) AllReadyH.nil
      go_simp
      refine hK.out _ _ (hvbA) ?_
      clear hK K hHeld
      intro hHeld
      try simp only [Act.put, List.getElem_toArray, List.getElem_cons_zero, List.getElem_cons_succ, List.setIfInBounds_toArray, List.set_cons_zero, List.set_cons_succ]
      refine wpAnyH_ready (rs := [8]) (by kernel_rfl) (by simp) ?_
      refine AllReadyH.cons rfl (fun K hK => ?_) AllReadyH.nil
      refine step_append_where rfl (.tmp 18) (.tmp 20) 26 rfl (W0.heap.size + 2) 3 i0 (.int .i64 0) 8 Try.underlying26 hi hz0 hz1 hz2 rfl _ _ _ rfl hownA ⟨W.heap.size, 0, none⟩ 1 (.int .i64 (x.1 : Int)) rfl hnewA rfl HLen1 HLen2 (by simp; omega) ?_
      intro v' w' h2 h3 h4
      obtain ⟨g', cap', hv'⟩ := ownsRow_succ h2
      subst hv'
      have hvb' : w'.cell? ⟨w.heap.size + 1, 0, none⟩ = some (.slice (some ⟨w.heap.size, 0, none⟩) N N) := h3.cell hvbA (Hvb.out)
      have hrb' := h3.cell hrbA (Hrb.out)
      have hfr' : w'.frozen? ⟨w.heap.size, x.2, none⟩ = false := (World.frozen?_of_block (h3.block w.heap.size (World.block_lt_of_cell? _ _ hrbA) (Hrb.out))).trans hfrA
      refine hK.out _ _ (hvb') ?_
      clear hK K hHeld
      intro hHeld
      try simp only [Act.put, List.getElem_toArray, List.getElem_cons_zero, List.getElem_cons_succ, List.setIfInBounds_toArray, List.set_cons_zero, List.set_cons_succ]
      refine wpAnyH_ready (rs := [9]) (by kernel_rfl) (by simp) ?_
      refine AllReadyH.cons rfl (fun K hK => ?_) AllReadyH.nil
      go_simp
      refine hK.out _ _ (hHeld) ?_
      clear hK K hHeld
      intro hHeld
      try simp only [Act.put, List.getElem_toArray, List.getElem_cons_zero, List.getElem_cons_succ, List.setIfInBounds_toArray, List.set_cons_zero, List.set_cons_succ]
      refine wpAnyH_ready (rs := [10]) (by kernel_rfl) (by simp) ?_
      refine AllReadyH.cons rfl (fun K hK => ?_) AllReadyH.nil
      go_simp
      refine hK.out _ _ (by rw [World.cell?_setCell_other _ _ _ _ (by simp)]; exact hvb') ?_
      clear hK K hHeld
      intro hHeld
      try simp only [Act.put, List.getElem_toArray, List.getElem_cons_zero, List.getElem_cons_succ, List.setIfInBounds_toArray, List.set_cons_zero, List.set_cons_succ]
      refine wpAnyH_done (by kernel_rfl) ?_ _
      refine (show Only _ .normal _ _ from ?_)
      exact HEnd.out _ _ _ h2 h3 h4
    · go_simp
      refine hK.out _ _ (hvbA) ?_
      clear hK K hHeld
      intro hHeld
      try simp only [Act.put, List.getElem_toArray, List.getElem_cons_zero, List.getElem_cons_succ, List.setIfInBounds_toArray, List.set_cons_zero, List.set_cons_succ]
      refine wpAnyH_ready (rs := [5]) (by kernel_rfl) (by simp) ?_
      refine AllReadyH.cons rfl (fun K hK => ?_) AllReadyH.nil
      go_simp
      refine hK.out _ _ (hvbA) ?_
      clear hK K hHeld
      intro hHeld
      try simp only [Act.put, List.getElem_toArray, List.getElem_cons_zero, List.getElem_cons_succ, List.setIfInBounds_toArray, List.set_cons_zero, List.set_cons_succ]
      refine wpAnyH_ready (rs := [8]) (by kernel_rfl) (by simp) ?_
      refine AllReadyH.cons rfl (fun K hK => ?_) AllReadyH.nil
      refine step_append_where rfl (.tmp 18) (.tmp 20) 26 rfl (W0.heap.size + 2) 3 i0 (.int .i64 0) 8 Try.underlying26 hi hz0 hz1 hz2 rfl _ _ _ rfl hownA ⟨W.heap.size, 0, none⟩ 1 (.int .i64 (x.1 : Int)) rfl hnewA rfl HLen1 HLen2 (by simp; omega) ?_
      intro v' w' h2 h3 h4
      obtain ⟨g', cap', hv'⟩ := ownsRow_succ h2
      subst hv'
      have hvb' : w'.cell? ⟨w.heap.size + 1, 0, none⟩ = some (.slice (some ⟨w.heap.size, 0, none⟩) N N) := h3.cell hvbA (Hvb.out)
      have hrb' := h3.cell hrbA (Hrb.out)
      have hfr' : w'.frozen? ⟨w.heap.size, x.2, none⟩ = false := (World.frozen?_of_block (h3.block w.heap.size (World.block_lt_of_cell? _ _ hrbA) (Hrb.out))).trans hfrA
      refine hK.out _ _ (hvb') ?_
      clear hK K hHeld
      intro hHeld
      try simp only [Act.put, List.getElem_toArray, List.getElem_cons_zero, List.getElem_cons_succ, List.setIfInBounds_toArray, List.set_cons_zero, List.set_cons_succ]
      refine wpAnyH_ready (rs := [9]) (by kernel_rfl) (by simp) ?_
      refine AllReadyH.cons rfl (fun K hK => ?_) AllReadyH.nil
      go_simp
      refine hK.out _ _ (hHeld) ?_
      clear hK K hHeld
      intro hHeld
      try simp only [Act.put, List.getElem_toArray, List.getElem_cons_zero, List.getElem_cons_succ, List.setIfInBounds_toArray, List.set_cons_zero, List.set_cons_succ]
      refine wpAnyH_ready (rs := [10]) (by kernel_rfl) (by simp) ?_
      refine AllReadyH.cons rfl (fun K hK => ?_) AllReadyH.nil
      go_simp
      refine hK.out _ _ (by rw [World.cell?_setCell_other _ _ _ _ (by simp)]; exact hvb') ?_
      clear hK K hHeld
      intro hHeld
      try simp only [Act.put, List.getElem_toArray, List.getElem_cons_zero, List.getElem_cons_succ, List.setIfInBounds_toArray, List.set_cons_zero, List.set_cons_succ]
      refine wpAnyH_done (by kernel_rfl) ?_ _
      refine (show Only _ .normal _ _ from ?_)
      exact HEnd.out _ _ _ h2 h3 h4
  case done =>
    rintro W ⟨⟨hvb, hown⟩, hbel, hsz⟩ hD
    have hlen : ∀ i, (rowOf (acc N ((edgesL g).map Prod.swap)) i).length ≤ 1000000 := fun i => Nat.le_trans (acc_row_len _) (by have := HE.out; simpa using this)
    have HC := Lib.hid (tidy_any W w.heap.size (W0.heap.size + 2) (acc N ((edgesL g).map Prod.swap)) hown (by omega) (by rw [acc_length]; exact hN1000) hlen)
    rw [acc_length, HACC.out] at HC
    have hlt := (Array.getElem?_eq_some_iff.1 hD).1
    clear hlen
    gi_wp2_with (refine ⟨trivial, ?_⟩; gi_at_call 111; refine (callsIn_wide.2 HC.out).mono ?_; rintro e w2 ⟨rfl, hg2, hk2⟩)
    have hD2 : w2.heap[W0.heap.size]? = some (.deferred (some [])) := (hk2.block _ (by omega) hlt).trans hD
    rw [hsz0] at hD2
    have hg3 : OwnG (w2.putObj (w.heap.size + 3) (.deferred none)) w.heap.size (W0.heap.size + 2) 26 3 (turn g) := hg2.keep fun k hk _ => World.putObj_heap_other (by omega)
    have hgr : ∀ X, Keeps (fun k => w.heap.size ≤ k) (w2.putObj (w.heap.size + 3) (.deferred none)) X → Gr X (w2.putObj (w.heap.size + 3) (.deferred none)).heap.size (.slice (some ⟨w.heap.size, 0, none⟩) N N) (turn g) := fun X hX => by
      have := hg3.gr_kept (w' := X) N (by rw [turn_length, HN.out]; exact Nat.le_refl _) (by unfold maxLen; omega) fun k hk hlt => hX.block k (by omega) hlt
      rwa [turn_length, HN.out] at this
    refine ⟨by simp, .inl ⟨_, _, rfl, run_takeDeferred hD2, ?_⟩⟩
    refine ⟨_, results_tmp rfl _ _ _, _, _, rfl, hgr _ (Keeps.refl _ _), ?_, hgr⟩
    have h1 : Below w.heap.size w w2 := hbel.trans (hk2.below (by omega) fun k hk => by omega)
    exact h1.trans ⟨rfl, rfl, rfl, by simp, fun k hk => World.putObj_heap_other (by omega)⟩
  case stop =>
    rintro ch pre W _ h _
    exact h.elim
end Go.Proofs.Ytlfgnoicjogfpaa.By
