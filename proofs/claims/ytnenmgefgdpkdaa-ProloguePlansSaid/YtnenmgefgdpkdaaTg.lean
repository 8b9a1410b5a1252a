/-
  WALKS of layer 28: plans that are made: the program's.
-/
import Derived.Test.YtnenmgefgdpkdaaTf
namespace Go.Proofs.Ytnenmgefgdpkdaa.Bo
open Go.RowKit Go.Maps
open Mem Rf
set_option linter.unusedSimpArgs false
set_option linter.unusedVariables false

theorem infoBool : (Try.prog.info? 4).map (fun i => (i.zero, i.size, i.bytes)) = some (some (.bool false), 1, 1) := by kernel_rfl
theorem make_bools (n : Nat) (hn : n ≤ 1000) (W : World) : (Instr.makeSlice 26 (.int .i64 (n : Int)) (.int .i64 (n : Int))).run Try.prog W = .ok (.slice (some ⟨W.heap.size, 0, none⟩) n n) (W.alloc (.cells (Array.replicate n (.bool false)) 4)) := by
  obtain ⟨i, hi, hz0, hz1, hz2⟩ := info_split infoBool
  have := run_make (P := Try.prog) W 26 4 i (.bool false) Try.underlying26 hi hz0 .i64 .i64 (n : Int) (n : Int) (by omega) (by omega) (by rw [hz2]; omega) (by omega)
  rw [this, hz1]
  simp only [Int.toNat_natCast, Nat.mul_one]
  have e : madeCells (Value.bool false).cells n = Array.replicate n (.bool false) := by
    apply Array.ext
    · simp [madeCells, Value.cells]
    · intro i h1 h2
      simp [madeCells, Value.cells, Nat.mod_one]
  rw [e]
theorem make_ints (n : Nat) (hn : n ≤ 1000) (W : World) : (Instr.makeSlice 27 (.int .i64 (n : Int)) (.int .i64 (n : Int))).run Try.prog W = .ok (.slice (some ⟨W.heap.size, 0, none⟩) n n) (W.alloc (.cells (Array.replicate n (.int .i64 0)) 3)) := by
  obtain ⟨i, hi, hz0, hz1, hz2⟩ := info_split infoInt
  have := run_make (P := Try.prog) W 27 3 i (.int .i64 0) Try.underlying27 hi hz0 .i64 .i64 (n : Int) (n : Int) (by omega) (by omega) (by rw [hz2]; omega) (by omega)
  rw [this, hz1]
  simp only [Int.toNat_natCast, Nat.mul_one]
  have e : madeCells (Value.int .i64 0).cells n = Array.replicate n (.int .i64 0) := by
    apply Array.ext
    · simp [madeCells, Value.cells]
    · intro i h1 h2
      simp [madeCells, Value.cells, Nat.mod_one]
  rw [e]
theorem far_cell {w : World} {b b' i j : Nat} {x y : Value} (h : w.cell? ⟨b, i, none⟩ = some x) (hb : b ≠ b') : (w.setCell ⟨b', j, none⟩ y).cell? ⟨b, i, none⟩ = some x := (World.cell?_of_block (Below.heap_setCell _ ⟨b', j, none⟩ _ b hb)).trans h
theorem far_blk {w : World} {b b' j : Nat} {t : TypeId} {vs : Array Value} {y : Value} (h : Blk w b t vs) (hb : b ≠ b') : Blk (w.setCell ⟨b', j, none⟩ y) b t vs := (Below.heap_setCell _ ⟨b', j, none⟩ _ b hb).trans h
theorem far_below {w W : World} {B b' j : Nat} {y : Value} (h : Below B w W) (hb : B ≤ b') : Below B w (W.setCell ⟨b', j, none⟩ y) := ⟨h.os, h.tape, h.output, by rw [show (W.setCell ⟨b', j, none⟩ y).heap.size = W.heap.size from by simp [World.setCell]]; exact h.size, fun k hk => (Below.heap_setCell _ ⟨b', j, none⟩ _ k (show k ≠ b' by omega)).trans (h.block k hk)⟩
/-- An empty plan. -/
def EmA (w : World) (n : Nat) (e : Ending) (w' : World) : Prop := ∃ b1 b2, e = .returned (.agg #[.slice (some ⟨b1, 0, none⟩) n n, .slice (some ⟨b2, 0, none⟩) n n]) ∧ Blk w' b1 4 (Array.replicate n (.bool false)) ∧ Blk w' b2 3 (Array.replicate n (.int .i64 0)) ∧ b1 ≠ b2 ∧ w.heap.size ≤ b1 ∧ w.heap.size ≤ b2 ∧ Below w.heap.size w w'

set_option maxRecDepth 100000 in
set_option maxHeartbeats 2000000 in
theorem empty_any (w : World) (P : Pgm) (hfn : P.fn ≤ 1000) : Calls Try.prog 31 #[pgV P] w (EmA w P.fn) := by
  obtain ⟨fA, fn, fc, fs, dA, dn, dc, ds, en, cs⟩ := P
  unfold pgV
  dsimp only at hfn ⊢
  have hmk := make_bools fn hfn
  have hmi := make_ints fn hfn
  obtain ⟨W0, hW0⟩ : ∃ W0, (w.alloc (.cells #[.slice fA fn fc, .slice dA dn dc, .int .i64 en] 34)).alloc (.cells #[.slice none 0 0, .slice none 0 0] 29) = W0 := ⟨_, rfl⟩
  have HB0 := Lib.hid (show Below w.heap.size w W0 from by rw [← hW0]; exact to_ (alloc_ _ _) (alloc_ _ _))
  have hk1 : Blk W0 w.heap.size 34 #[.slice fA fn fc, .slice dA dn dc, .int .i64 en] := by rw [← hW0]; exact (Blk.new _ _ _).alloc _
  have HK2 := Lib.hid (show Blk W0 (w.heap.size + 1) 29 #[.slice none 0 0, .slice none 0 0] from by
    rw [← hW0]
    have := Blk.new (w.alloc (.cells #[.slice fA fn fc, .slice dA dn dc, .int .i64 en] 34)) 29 #[.slice none 0 0, .slice none 0 0]
    rwa [World.size_alloc] at this)
  have b0 : W0.cell? ⟨w.heap.size, 0, none⟩ = some (.slice fA fn fc) := hk1.cell 0
  clear hk1
  go_enter Try.func31, Try.ntmps31
  go_wp2_with fail
  clear hW0
  refine wp_region_noPanic ?_
  refine wp_region_held_drew (S := fun W => W.cell? ⟨w.heap.size, 0, none⟩ = some (.slice fA fn fc)) (by kernel_rfl) (b0) (fun hHeld => ?_)
  refine wpAnyH_take (i := 0) rfl (by kernel_rfl) (by kernel_rfl) (by kernel_rfl) (fun _ _ _ h => h) (Or.inl ⟨by rfl, by intro W hSW; (try dsimp only at hSW); go_simp; try (with_reducible rfl)⟩) hHeld ?_
  try simp only [Act.put, List.getElem_toArray, List.getElem_cons_zero, List.getElem_cons_succ, List.setIfInBounds_toArray, List.set_cons_zero, List.set_cons_succ]
  refine wpAnyH_take (i := 1) rfl (by kernel_rfl) (by kernel_rfl) (by kernel_rfl) (fun _ _ _ h => h) (Or.inl ⟨by rfl, by intro W hSW; (try dsimp only at hSW); go_simp; try (with_reducible rfl)⟩) hHeld ?_
  try simp only [Act.put, List.getElem_toArray, List.getElem_cons_zero, List.getElem_cons_succ, List.setIfInBounds_toArray, List.set_cons_zero, List.set_cons_succ]
  refine wpAnyH_take (i := 2) rfl (by kernel_rfl) (by kernel_rfl) (by kernel_rfl) (fun _ _ _ h => h) (Or.inl ⟨by rfl, by intro W hSW; (try dsimp only at hSW); go_simp; try (with_reducible rfl)⟩) hHeld ?_
  try simp only [Act.put, List.getElem_toArray, List.getElem_cons_zero, List.getElem_cons_succ, List.setIfInBounds_toArray, List.set_cons_zero, List.set_cons_succ]
  refine wpAnyH_take (i := 4) rfl (by kernel_rfl) (by kernel_rfl) (by kernel_rfl) (fun _ _ _ h => h) (Or.inl ⟨by rfl, by intro W hSW; (try dsimp only at hSW); go_simp; try (with_reducible rfl)⟩) hHeld ?_
  try simp only [Act.put, List.getElem_toArray, List.getElem_cons_zero, List.getElem_cons_succ, List.setIfInBounds_toArray, List.set_cons_zero, List.set_cons_succ]
  refine wpAnyH_take (i := 5) rfl (by kernel_rfl) (by kernel_rfl) (by kernel_rfl) (fun _ _ _ h => h) (Or.inl ⟨by rfl, by intro W hSW; (try dsimp only at hSW); go_simp; try (with_reducible rfl)⟩) hHeld ?_
  try simp only [Act.put, List.getElem_toArray, List.getElem_cons_zero, List.getElem_cons_succ, List.setIfInBounds_toArray, List.set_cons_zero, List.set_cons_succ]
  refine wpAnyH_take (i := 6) rfl (by kernel_rfl) (by kernel_rfl) (by kernel_rfl) (fun _ _ _ h => h) (Or.inl ⟨by rfl, by intro W hSW; (try dsimp only at hSW); go_simp; try (with_reducible rfl)⟩) hHeld ?_
  try simp only [Act.put, List.getElem_toArray, List.getElem_cons_zero, List.getElem_cons_succ, List.setIfInBounds_toArray, List.set_cons_zero, List.set_cons_succ]
  refine wpAnyH_ready (rs := [3, 7]) (by kernel_rfl) (by simp) ?_
  refine AllReadyH.cons rfl (fun K hK => ?_) (AllReadyH.cons rfl (fun K hK => ?_) AllReadyH.nil)
  · go_simp
    try simp only [hmk, hmi]
    try go_wp2_with fail
    refine hK.out _ _ (((alloc_ _ _).cell (World.block_lt_of_cell? _ _ hHeld)).trans hHeld) ?_
    clear hK K hHeld
    intro hHeld
    try simp only [Act.put, List.getElem_toArray, List.getElem_cons_zero, List.getElem_cons_succ, List.setIfInBounds_toArray, List.set_cons_zero, List.set_cons_succ]
    refine wpAnyH_ready (rs := [7]) (by kernel_rfl) (by simp) ?_
    refine AllReadyH.cons rfl (fun K hK => ?_) AllReadyH.nil
    go_simp
    try simp only [hmk, hmi]
    try go_wp2_with fail
    refine hK.out _ _ (((alloc_ _ _).cell (World.block_lt_of_cell? _ _ hHeld)).trans hHeld) ?_
    clear hK K hHeld
    intro hHeld
    try simp only [Act.put, List.getElem_toArray, List.getElem_cons_zero, List.getElem_cons_succ, List.setIfInBounds_toArray, List.set_cons_zero, List.set_cons_succ]
    refine wpAnyH_take (i := 8) rfl (by kernel_rfl) (by kernel_rfl) (by kernel_rfl) (fun _ _ _ h => h) (Or.inl ⟨by rfl, by intro W hSW; (try dsimp only at hSW); go_simp; try (with_reducible rfl)⟩) hHeld ?_
    try simp only [Act.put, List.getElem_toArray, List.getElem_cons_zero, List.getElem_cons_succ, List.setIfInBounds_toArray, List.set_cons_zero, List.set_cons_succ]
    have hq : Blk ((W0.alloc (.cells (Array.replicate fn (.bool false)) 4)).alloc (.cells (Array.replicate fn (.int .i64 0)) 3)) (w.heap.size + 1) 29 #[.slice none 0 0, .slice none 0 0] := (HK2.out.alloc _).alloc _
    have q0 : ((W0.alloc (.cells (Array.replicate fn (.bool false)) 4)).alloc (.cells (Array.replicate fn (.int .i64 0)) 3)).cell? ⟨w.heap.size + 1, 0, none⟩ = some (.slice none 0 0) := hq.cell 0
    have q1 : ((W0.alloc (.cells (Array.replicate fn (.bool false)) 4)).alloc (.cells (Array.replicate fn (.int .i64 0)) 3)).cell? ⟨w.heap.size + 1, 1, none⟩ = some (.slice none 0 0) := hq.cell 1
    have f0 := hq.frozen 0
    have f1 := hq.frozen 1
    refine wpAnyH_ready (rs := [9]) (by kernel_rfl) (by simp) ?_
    refine AllReadyH.cons rfl (fun K hK => ?_) AllReadyH.nil
    go_simp
    try go_wp2_with fail
    refine hK.out _ _ (by exact far_cell (far_cell hHeld (Nat.ne_of_lt (Nat.lt_add_one _))) (Nat.ne_of_lt (Nat.lt_add_one _))) ?_
    clear hK K hHeld
    intro hHeld
    try simp only [Act.put, List.getElem_toArray, List.getElem_cons_zero, List.getElem_cons_succ, List.setIfInBounds_toArray, List.set_cons_zero, List.set_cons_succ]
    refine wpAnyH_done (by kernel_rfl) ?_ _
    refine NoPanic.normal ?_
    go_wp2_with fail
    have hr := (hq.stored 0 (.slice (some ⟨W0.heap.size, 0, none⟩) fn fn)).stored 1 (.slice (some ⟨W0.heap.size + 1, 0, none⟩) fn fn)
    have r0 : ((((W0.alloc (.cells (Array.replicate fn (.bool false)) 4)).alloc (.cells (Array.replicate fn (.int .i64 0)) 3)).setCell ⟨w.heap.size + 1, 0, none⟩ (.slice (some ⟨W0.heap.size, 0, none⟩) fn fn)).setCell ⟨w.heap.size + 1, 1, none⟩ (.slice (some ⟨W0.heap.size + 1, 0, none⟩) fn fn)).cell? ⟨w.heap.size + 1, 0, none⟩ = some (.slice (some ⟨W0.heap.size, 0, none⟩) fn fn) := (hr.cell 0).trans (by simp)
    have r1 : ((((W0.alloc (.cells (Array.replicate fn (.bool false)) 4)).alloc (.cells (Array.replicate fn (.int .i64 0)) 3)).setCell ⟨w.heap.size + 1, 0, none⟩ (.slice (some ⟨W0.heap.size, 0, none⟩) fn fn)).setCell ⟨w.heap.size + 1, 1, none⟩ (.slice (some ⟨W0.heap.size + 1, 0, none⟩) fn fn)).cell? ⟨w.heap.size + 1, 1, none⟩ = some (.slice (some ⟨W0.heap.size + 1, 0, none⟩) fn fn) := (hr.cell 1).trans (by simp)
    have hlt := HK2.out.lt
    have hsz := HB0.out.size
    have n1 : Blk ((((W0.alloc (.cells (Array.replicate fn (.bool false)) 4)).alloc (.cells (Array.replicate fn (.int .i64 0)) 3)).setCell ⟨w.heap.size + 1, 0, none⟩ (.slice (some ⟨W0.heap.size, 0, none⟩) fn fn)).setCell ⟨w.heap.size + 1, 1, none⟩ (.slice (some ⟨W0.heap.size + 1, 0, none⟩) fn fn)) W0.heap.size 4 (Array.replicate fn (.bool false)) := far_blk (far_blk ((Blk.new W0 _ _).alloc _) (by omega)) (by omega)
    have n2 : Blk ((((W0.alloc (.cells (Array.replicate fn (.bool false)) 4)).alloc (.cells (Array.replicate fn (.int .i64 0)) 3)).setCell ⟨w.heap.size + 1, 0, none⟩ (.slice (some ⟨W0.heap.size, 0, none⟩) fn fn)).setCell ⟨w.heap.size + 1, 1, none⟩ (.slice (some ⟨W0.heap.size + 1, 0, none⟩) fn fn)) (W0.heap.size + 1) 3 (Array.replicate fn (.int .i64 0)) := far_blk (far_blk (by have h9 := Blk.new (W0.alloc (.cells (Array.replicate fn (.bool false)) 4)) 3 (Array.replicate fn (.int .i64 0)); rw [World.size_alloc] at h9; exact h9) (by omega)) (by omega)
    have hbl : Below w.heap.size w ((((W0.alloc (.cells (Array.replicate fn (.bool false)) 4)).alloc (.cells (Array.replicate fn (.int .i64 0)) 3)).setCell ⟨w.heap.size + 1, 0, none⟩ (.slice (some ⟨W0.heap.size, 0, none⟩) fn fn)).setCell ⟨w.heap.size + 1, 1, none⟩ (.slice (some ⟨W0.heap.size + 1, 0, none⟩) fn fn)) := far_below (far_below (to_ HB0.out (to_ (alloc_ _ _) (alloc_ _ _))) (by omega)) (by omega)
    refine bodyPost_ret (v := .agg #[(.slice (some ⟨W0.heap.size, 0, none⟩) fn fn), (.slice (some ⟨W0.heap.size + 1, 0, none⟩) fn fn)]) (by simp [results, Try.results31, go_sem, r0, r1]) rfl ?_
    exact ⟨_, _, rfl, n1, n2, by omega, by omega, by omega, below_drewN hbl 1⟩
  · go_simp
    try simp only [hmk, hmi]
    try go_wp2_with fail
    refine hK.out _ _ (((alloc_ _ _).cell (World.block_lt_of_cell? _ _ hHeld)).trans hHeld) ?_
    clear hK K hHeld
    intro hHeld
    try simp only [Act.put, List.getElem_toArray, List.getElem_cons_zero, List.getElem_cons_succ, List.setIfInBounds_toArray, List.set_cons_zero, List.set_cons_succ]
    refine wpAnyH_ready (rs := [3]) (by kernel_rfl) (by simp) ?_
    refine AllReadyH.cons rfl (fun K hK => ?_) AllReadyH.nil
    go_simp
    try simp only [hmk, hmi]
    try go_wp2_with fail
    refine hK.out _ _ (((alloc_ _ _).cell (World.block_lt_of_cell? _ _ hHeld)).trans hHeld) ?_
    clear hK K hHeld
    intro hHeld
    try simp only [Act.put, List.getElem_toArray, List.getElem_cons_zero, List.getElem_cons_succ, List.setIfInBounds_toArray, List.set_cons_zero, List.set_cons_succ]
    refine wpAnyH_take (i := 8) rfl (by kernel_rfl) (by kernel_rfl) (by kernel_rfl) (fun _ _ _ h => h) (Or.inl ⟨by rfl, by intro W hSW; (try dsimp only at hSW); go_simp; try (with_reducible rfl)⟩) hHeld ?_
    try simp only [Act.put, List.getElem_toArray, List.getElem_cons_zero, List.getElem_cons_succ, List.setIfInBounds_toArray, List.set_cons_zero, List.set_cons_succ]
    have hq : Blk ((W0.alloc (.cells (Array.replicate fn (.int .i64 0)) 3)).alloc (.cells (Array.replicate fn (.bool false)) 4)) (w.heap.size + 1) 29 #[.slice none 0 0, .slice none 0 0] := (HK2.out.alloc _).alloc _
    have q0 : ((W0.alloc (.cells (Array.replicate fn (.int .i64 0)) 3)).alloc (.cells (Array.replicate fn (.bool false)) 4)).cell? ⟨w.heap.size + 1, 0, none⟩ = some (.slice none 0 0) := hq.cell 0
    have q1 : ((W0.alloc (.cells (Array.replicate fn (.int .i64 0)) 3)).alloc (.cells (Array.replicate fn (.bool false)) 4)).cell? ⟨w.heap.size + 1, 1, none⟩ = some (.slice none 0 0) := hq.cell 1
    have f0 := hq.frozen 0
    have f1 := hq.frozen 1
    refine wpAnyH_ready (rs := [9]) (by kernel_rfl) (by simp) ?_
    refine AllReadyH.cons rfl (fun K hK => ?_) AllReadyH.nil
    go_simp
    try go_wp2_with fail
    refine hK.out _ _ (by exact far_cell (far_cell hHeld (Nat.ne_of_lt (Nat.lt_add_one _))) (Nat.ne_of_lt (Nat.lt_add_one _))) ?_
    clear hK K hHeld
    intro hHeld
    try simp only [Act.put, List.getElem_toArray, List.getElem_cons_zero, List.getElem_cons_succ, List.setIfInBounds_toArray, List.set_cons_zero, List.set_cons_succ]
    refine wpAnyH_done (by kernel_rfl) ?_ _
    refine NoPanic.normal ?_
    go_wp2_with fail
    have hr := (hq.stored 0 (.slice (some ⟨W0.heap.size + 1, 0, none⟩) fn fn)).stored 1 (.slice (some ⟨W0.heap.size, 0, none⟩) fn fn)
    have r0 : ((((W0.alloc (.cells (Array.replicate fn (.int .i64 0)) 3)).alloc (.cells (Array.replicate fn (.bool false)) 4)).setCell ⟨w.heap.size + 1, 0, none⟩ (.slice (some ⟨W0.heap.size + 1, 0, none⟩) fn fn)).setCell ⟨w.heap.size + 1, 1, none⟩ (.slice (some ⟨W0.heap.size, 0, none⟩) fn fn)).cell? ⟨w.heap.size + 1, 0, none⟩ = some (.slice (some ⟨W0.heap.size + 1, 0, none⟩) fn fn) := (hr.cell 0).trans (by simp)
    have r1 : ((((W0.alloc (.cells (Array.replicate fn (.int .i64 0)) 3)).alloc (.cells (Array.replicate fn (.bool false)) 4)).setCell ⟨w.heap.size + 1, 0, none⟩ (.slice (some ⟨W0.heap.size + 1, 0, none⟩) fn fn)).setCell ⟨w.heap.size + 1, 1, none⟩ (.slice (some ⟨W0.heap.size, 0, none⟩) fn fn)).cell? ⟨w.heap.size + 1, 1, none⟩ = some (.slice (some ⟨W0.heap.size, 0, none⟩) fn fn) := (hr.cell 1).trans (by simp)
    have hlt := HK2.out.lt
    have hsz := HB0.out.size
    have n1 : Blk ((((W0.alloc (.cells (Array.replicate fn (.int .i64 0)) 3)).alloc (.cells (Array.replicate fn (.bool false)) 4)).setCell ⟨w.heap.size + 1, 0, none⟩ (.slice (some ⟨W0.heap.size + 1, 0, none⟩) fn fn)).setCell ⟨w.heap.size + 1, 1, none⟩ (.slice (some ⟨W0.heap.size, 0, none⟩) fn fn)) W0.heap.size 3 (Array.replicate fn (.int .i64 0)) := far_blk (far_blk ((Blk.new W0 _ _).alloc _) (by omega)) (by omega)
    have n2 : Blk ((((W0.alloc (.cells (Array.replicate fn (.int .i64 0)) 3)).alloc (.cells (Array.replicate fn (.bool false)) 4)).setCell ⟨w.heap.size + 1, 0, none⟩ (.slice (some ⟨W0.heap.size + 1, 0, none⟩) fn fn)).setCell ⟨w.heap.size + 1, 1, none⟩ (.slice (some ⟨W0.heap.size, 0, none⟩) fn fn)) (W0.heap.size + 1) 4 (Array.replicate fn (.bool false)) := far_blk (far_blk (by have h9 := Blk.new (W0.alloc (.cells (Array.replicate fn (.int .i64 0)) 3)) 4 (Array.replicate fn (.bool false)); rw [World.size_alloc] at h9; exact h9) (by omega)) (by omega)
    have hbl : Below w.heap.size w ((((W0.alloc (.cells (Array.replicate fn (.int .i64 0)) 3)).alloc (.cells (Array.replicate fn (.bool false)) 4)).setCell ⟨w.heap.size + 1, 0, none⟩ (.slice (some ⟨W0.heap.size + 1, 0, none⟩) fn fn)).setCell ⟨w.heap.size + 1, 1, none⟩ (.slice (some ⟨W0.heap.size, 0, none⟩) fn fn)) := far_below (far_below (to_ HB0.out (to_ (alloc_ _ _) (alloc_ _ _))) (by omega)) (by omega)
    refine bodyPost_ret (v := .agg #[(.slice (some ⟨W0.heap.size + 1, 0, none⟩) fn fn), (.slice (some ⟨W0.heap.size, 0, none⟩) fn fn)]) (by simp [results, Try.results31, go_sem, r0, r1]) rfl ?_
    exact ⟨_, _, rfl, n2, n1, by omega, by omega, by omega, below_drewN hbl 1⟩
end Go.Proofs.Ytnenmgefgdpkdaa.Bo
