/-
  WALKS of layer 18: Least, Check.
-/
import Derived.Test.YthkbdclnnpcoiaaRb
namespace Go.Proofs.Ythkbdclnnpcoiaa.By
open Go.RowKit
open Mem Gm Rf
set_option linter.unusedSimpArgs false
attribute [local go_sem] Oper.semAt_some

/-- The least range of places that rise. -/
def lsP (xs : List Int) : Int × Int := xs.foldl (fun r p => (if r.2 = 0 then p else r.1, p + 1)) (0, 0)
theorem lsP_snoc (xs : List Int) (x : Int) : lsP (xs ++ [x]) = (if (lsP xs).2 = 0 then x else (lsP xs).1, x + 1) := by
  unfold lsP; rw [List.foldl_append]; rfl
def LsAns (xs : List Int) (w : World) (e : Ending) (w' : World) : Prop := e = .returned (.tuple #[.int .i64 (lsP xs).1, .int .i64 (lsP xs).2]) ∧ Below w.heap.size w w'

theorem pend_tells (W0 : World) (Bg : Nat) (A : Option Addr) (n c : Nat) (O T : Nat → Int) (o : Nat → Bool) (hbox : W0.cell? ⟨Bg, 0, none⟩ = some (.slice A n c)) (hC : CW W0 A n c O T) (hn : n ≤ 1000) (ho : pdO n O T = o) :
    Tells Fence.wide 3 Try.prog 18 #[.pointer (some ⟨Bg, 0, none⟩)] (fun x : Int => #[Value.int .i64 x]) (fun L k => L ≤ k) (fun L k => k < L) (pnT o n) W0 := by
  intro l J Jx W hW hJ hY h0
  have hlt := World.block_lt_of_cell? W0 _ hbox
  exact pend1_in 3 (by decide) l Bg A n c O T o J Jx W ((hW.cell (p := ⟨Bg, 0, none⟩) hlt).trans hbox) (hC.on hW) hn ho hJ hY h0

set_option maxRecDepth 100000 in
set_option maxHeartbeats 4000000 in
theorem least_any (w : World) (A : Option Addr) (n c : Nat) (O T : Nat → Int) (o : Nat → Bool) (h : CW w A n c O T) (hn : n ≤ 1000) (ho : pdO n O T = o) :
    Calls Try.prog 7 #[.slice A n c] w (LsAns (pnT o n) w) := by
  have HC := Lib.hid (show ∀ W, Below w.heap.size w W → CW W A n c O T from fun W hb => h.on hb)
  have HO := Lib.hid ho
  clear h ho
  refine (callsIn_wide (n := 4)).1 ?_
  refine callsIn_of_wp_marks Try.func7 rfl trivial ?_ rfl
  simp only [Try.ntmps7, List.size_toArray, List.length_cons, List.length_nil, Nat.reduceAdd, Nat.reduceSub, Array.replicate_succ, Array.replicate_zero, List.push_toArray, List.append_toArray, List.nil_append, List.cons_append]
  gi_wp2_with (refine ⟨trivial, ?_⟩; gi_at_call 16; refine (callsIn_wide.2 (pending_any _ _ _ _)).mono ?_; rintro e w2 ⟨rfl, rfl⟩)
  obtain ⟨W1, hW1⟩ : ∃ W1, (w.alloc (.cells #[.int .i64 0] 3)).alloc (.cells #[.int .i64 0] 3) = W1 := ⟨_, rfl⟩
  have hsz1 : W1.heap.size = w.heap.size + 2 := by rw [← hW1]; simp
  obtain ⟨W0, hW0⟩ : ∃ W0, W1.alloc (.cells #[.slice A n c] 24) = W0 := ⟨_, rfl⟩
  have hsz0 : W0.heap.size = w.heap.size + 3 := by rw [← hW0]; simp [hsz1]
  have hb1 : Below w.heap.size w W1 := by rw [← hW1]; exact alloc2_ _ _ _
  have hb0 : Below w.heap.size w W0 := by rw [← hW0]; exact to_ hb1 (alloc_ _ _)
  have hx1 : Blk W1 w.heap.size 3 #[.int .i64 0] := by rw [← hW1]; exact (Blk.new w _ _).alloc _
  have hy1 : Blk W1 (w.heap.size + 1) 3 #[.int .i64 0] := by
    rw [← hW1]; have := Blk.new (w.alloc (.cells #[.int .i64 0] 3)) 3 #[.int .i64 0]; rwa [World.size_alloc] at this
  have hx0 : Blk W0 w.heap.size 3 #[.int .i64 0] := by rw [← hW0]; exact hx1.alloc _
  have hy0 : Blk W0 (w.heap.size + 1) 3 #[.int .i64 0] := by rw [← hW0]; exact hy1.alloc _
  have hbx : W0.cell? ⟨w.heap.size + 2, 0, none⟩ = some (.slice A n c) := by rw [← hW0, ← hsz1]; exact (Blk.new W1 _ _).cell 0
  have HT2 := Lib.hid (pend_tells W0 (w.heap.size + 2) A n c O T o hbx (HC.out W0 hb0) hn HO.out)
  rw [hW1, hW0]
  clear hW1 hW0 hx1 hy1 hbx hb1
  refine wpIn_range rfl (by decide) (gf := 18) (lb := #[.pointer (some ⟨w.heap.size + 2, 0, none⟩)]) rfl trivial (enters_of Try.func18 (by kernel_rfl) rfl) HT2.out (Below.refl _ _) (fun _ => rfl)
    (fun k => k < W0.heap.size) (fun k h h' => by unfold Two at h; omega) (fun k h => by omega) (fun k h => by unfold Two at h; omega) (by omega)
    (fun pre W => (Blk W w.heap.size 3 #[.int .i64 (lsP pre).1] ∧ Blk W (w.heap.size + 1) 3 #[.int .i64 (lsP pre).2]) ∧ Below w.heap.size w W ∧ W0.heap.size ≤ W.heap.size)
    (fun _ _ _ => False)
    (fun pre X Y ⟨⟨h1, h2⟩, h3, h4⟩ hk => ⟨⟨(hk.block _ (by omega) h1.lt).trans h1, (hk.block _ (by omega) h2.lt).trans h2⟩, h3.trans (hk.below (by omega) (fun k hk1 => by omega)), Nat.le_trans h4 hk.size⟩)
    (fun _ _ _ _ h _ _ => h)
    ⟨⟨hx0, hy0⟩, hb0, Nat.le_refl _⟩
    (fun x => { tmps := #[.slice A n c, undef, .int .i64 0, .int .i64 0, .pointer (some ⟨w.heap.size, 0, none⟩), .pointer (some ⟨w.heap.size + 1, 0, none⟩), .int .i64 x, .slice A n c, .func (.func 18) #[] #[.pointer (some ⟨w.heap.size + 2, 0, none⟩)], .int .i64 x, undef, undef, undef, undef, undef, undef, undef], defers := [] }) ?assign ?body ?done ?stop
  case assign =>
    intro l x W K hK
    gi_wp2
    exact hK
  case body =>
    rintro l pre x W ⟨⟨hx, hy⟩, hbel, hsz⟩ hpre hsz2
    obtain ⟨i, rfl, hi, _⟩ := pnT_mem (hpre.subset (List.mem_append.2 (.inr (List.mem_singleton.2 rfl))))
    have hx1 : W.cell? ⟨w.heap.size, 0, none⟩ = some (.int .i64 (lsP pre).1) := hx.cell 0
    have hy1 : W.cell? ⟨w.heap.size + 1, 0, none⟩ = some (.int .i64 (lsP pre).2) := hy.cell 0
    have hxf : W.frozen? ⟨w.heap.size, 0, none⟩ = false := hx.frozen 0
    have hyf : W.frozen? ⟨w.heap.size + 1, 0, none⟩ = false := hy.frozen 0
    have HS := Lib.hid (lsP_snoc pre (i : Int))
    have HX := Lib.hid hx
    have HY := Lib.hid hy
    have HB := Lib.hid hbel
    clear hx hy hpre hbel
    generalize lsP pre = ab at hx1 hy1 HS HX HY
    obtain ⟨a, b⟩ := ab
    by_cases hb : b = 0
    · subst hb
      gi_wp2
      refine ⟨((Keeps.refl _ W).setCell (by unfold Two; first | (simp; done) | (simp; omega)) _).setCell (by unfold Two; first | (simp; done) | (simp; omega)) _, ⟨?_, ?_⟩, (HB.out.setCell (p := ⟨w.heap.size, 0, none⟩) (Nat.le_refl _) _).setCell (p := ⟨w.heap.size + 1, 0, none⟩) (by show w.heap.size ≤ w.heap.size + 1; omega) _, ?_⟩
      · rw [HS.out]
        have h9 := (HX.out.stored 0 (.int .i64 (i : Int)))
        exact (Below.heap_setCell _ _ _ _ (show w.heap.size ≠ w.heap.size + 1 by omega)).trans h9
      · rw [HS.out]
        have h9 : Blk (W.setCell ⟨w.heap.size, 0, none⟩ (.int .i64 (i : Int))) (w.heap.size + 1) 3 #[.int .i64 0] := (Below.heap_setCell _ _ _ _ (show w.heap.size + 1 ≠ w.heap.size by omega)).trans HY.out
        exact h9.stored 0 _
      · simp [World.setCell]; omega
    · have hbb : (b == 0) = false := by simpa using hb
      have HNB := Lib.hid hb
      clear hb
      gi_wp2
      refine ⟨(Keeps.refl _ W).setCell (by unfold Two; first | (simp; done) | (simp; omega)) _, ⟨?_, ?_⟩, HB.out.setCell (p := ⟨w.heap.size + 1, 0, none⟩) (by show w.heap.size ≤ w.heap.size + 1; omega) _, ?_⟩
      · rw [HS.out, if_neg HNB.out]
        exact (Below.heap_setCell _ _ _ _ (show w.heap.size ≠ w.heap.size + 1 by omega)).trans HX.out
      · rw [HS.out]
        exact HY.out.stored 0 _
      · simp [World.setCell]; omega
  case done =>
    rintro W ⟨⟨hx, hy⟩, hbel, hsz⟩ hD
    have hHeld : W.drew.cell? ⟨w.heap.size, 0, none⟩ = some (.int .i64 (lsP (pnT o n)).1) ∧ W.drew.cell? ⟨w.heap.size + 1, 0, none⟩ = some (.int .i64 (lsP (pnT o n)).2) := ⟨hx.cell 0, hy.cell 0⟩
    have HB := Lib.hid hbel
    clear hx hy hbel
    gi_wp2
    refine wpIn_region_wide (S := fun W' => W'.cell? ⟨w.heap.size, 0, none⟩ = some (.int .i64 (lsP (pnT o n)).1) ∧ W'.cell? ⟨w.heap.size + 1, 0, none⟩ = some (.int .i64 (lsP (pnT o n)).2)) (by kernel_rfl) ?_
    refine wpAnyH_take (i := 0) rfl (by kernel_rfl) (by kernel_rfl) (by kernel_rfl) (fun _ _ _ h => h) (Or.inl ⟨by rfl, by intro W hSW; (try dsimp only at hSW); go_simp; try (with_reducible rfl)⟩) hHeld ?_
    try simp only [Act.put, List.getElem_toArray, List.getElem_cons_zero, List.getElem_cons_succ, List.setIfInBounds_toArray, List.set_cons_zero, List.set_cons_succ]
    refine wpAnyH_take (i := 1) rfl (by kernel_rfl) (by kernel_rfl) (by kernel_rfl) (fun _ _ _ h => h) (Or.inl ⟨by rfl, by intro W hSW; (try dsimp only at hSW); go_simp; try (with_reducible rfl)⟩) hHeld ?_
    try simp only [Act.put, List.getElem_toArray, List.getElem_cons_zero, List.getElem_cons_succ, List.setIfInBounds_toArray, List.set_cons_zero, List.set_cons_succ]
    refine wpAnyH_take (i := 2) rfl (by kernel_rfl) (by kernel_rfl) (by kernel_rfl) (fun _ _ _ h => h) (Or.inl ⟨by rfl, by intro W hSW; (try dsimp only at hSW); go_simp; try (with_reducible rfl)⟩) hHeld ?_
    try simp only [Act.put, List.getElem_toArray, List.getElem_cons_zero, List.getElem_cons_succ, List.setIfInBounds_toArray, List.set_cons_zero, List.set_cons_succ]
    refine wpAnyH_take (i := 3) rfl (by kernel_rfl) (by kernel_rfl) (by kernel_rfl) (fun _ _ _ h => h) (Or.inl ⟨by rfl, by intro W hSW; (try dsimp only at hSW); go_simp; try (with_reducible rfl)⟩) hHeld ?_
    try simp only [Act.put, List.getElem_toArray, List.getElem_cons_zero, List.getElem_cons_succ, List.setIfInBounds_toArray, List.set_cons_zero, List.set_cons_succ]
    refine wpAnyH_done (by kernel_rfl) ?_ _
    dsimp only [Only, Exit.then]
    gi_wp2
    refine ⟨by simp, .inl ⟨_, _, rfl, run_takeDeferred (show W.drew.heap[W0.heap.size]? = _ from hD), ?_⟩⟩
    refine ⟨_, results_tmp2 rfl _ _ _, rfl, ?_⟩
    exact HB.out.trans ⟨rfl, rfl, rfl, by rw [World.putObj_size]; exact Nat.le_refl _, fun k hk => World.putObj_heap_other (by omega)⟩
  case stop =>
    rintro ch pre W _ h _
    exact h.elim
end Go.Proofs.Ythkbdclnnpcoiaa.By
