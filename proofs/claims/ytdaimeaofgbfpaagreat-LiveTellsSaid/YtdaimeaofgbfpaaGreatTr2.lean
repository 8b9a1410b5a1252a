/-
 Tr2
-/
import Derived.Test.YtdaimeaofgbfpaaGreatZa2
import Derived.Test.YtdaimeaofgbfpaaGreatTq2
set_option linter.unusedSimpArgs false
set_option linter.unusedVariables false
namespace Go.Proofs.YtdaimeaofgbfpaaGreat.Bo
open Go.RowKit Go.Maps
open Mem Rf
theorem box3 {w : World} {t u v : TypeId} {a b c : Array Value} : Blk (((w.alloc (.cells a t)).alloc (.cells b u)).alloc (.cells c v)) w.heap.size t a ∧ Blk (((w.alloc (.cells a t)).alloc (.cells b u)).alloc (.cells c v)) (w.heap.size + 1) u b ∧ Blk (((w.alloc (.cells a t)).alloc (.cells b u)).alloc (.cells c v)) (w.heap.size + 1 + 1) v c := by
 refine ⟨((Blk.new _ _ _).alloc _).alloc _, ?_, ?_⟩
 ·have := (Blk.new (w.alloc (.cells a t)) u b).alloc (.cells c v)
  rwa [World.size_alloc] at this
 ·have := Blk.new ((w.alloc (.cells a t)).alloc (.cells b u)) v c
  rwa [World.size_alloc, World.size_alloc] at this
def SpA (B : Nat) (w : World) (fn dn : Nat) (e : Ending) (w' : World) : Prop := ∃ P' : Pgm, e = .returned (pgV P') ∧ PgL w' B P' ∧ Below B w w' ∧ (P'.fn = fn ∧ P'.dn = dn) ∧ (∀ b t vs, Blk w b t vs → t ≠ 3 → Blk w' b t vs) ∧ w.heap.size ≤ w'.heap.size
theorem SpA.drew {B : Nat} {w W : World} {fn dn : Nat} {e : Ending} (h : SpA B w fn dn e W) : SpA B w fn dn e W.drew := by
 obtain ⟨P', e1, h1, h2, h3, h4, h5⟩ := h
 exact ⟨P', e1, h1.on (Below.refl _ _).drew, below_drewN h2 1, h3, fun b t vs hb ht => h4 b t vs hb ht, h5⟩
theorem spoil_end {w wn : World} {B fn dn : Nat} {P : Pgm} (h : PgL wn B P) (hr : Blk wn (w.heap.size + 1 + 1) 29 #[.slice none 0 0, .slice none 0 0, .int .i64 0]) (hB : B ≤ w.heap.size + 1 + 1) (hb : Below B w wn) (hk : ∀ b t vs, Blk w b t vs → t ≠ 3 → Blk wn b t vs) (hs : w.heap.size ≤ wn.heap.size) (hf : P.fn = fn ∧ P.dn = dn) (v0 v1 v2 : Value) :
  ((((wn.setCell ⟨w.heap.size + 1 + 1, 0, none⟩ v0).setCell ⟨w.heap.size + 1 + 1, 1, none⟩ v1).setCell ⟨w.heap.size + 1 + 1, 2, none⟩ v2).cell? ⟨w.heap.size + 1 + 1, 0, none⟩ = some v0 ∧ (((wn.setCell ⟨w.heap.size + 1 + 1, 0, none⟩ v0).setCell ⟨w.heap.size + 1 + 1, 1, none⟩ v1).setCell ⟨w.heap.size + 1 + 1, 2, none⟩ v2).cell? ⟨w.heap.size + 1 + 1, 1, none⟩ = some v1 ∧ (((wn.setCell ⟨w.heap.size + 1 + 1, 0, none⟩ v0).setCell ⟨w.heap.size + 1 + 1, 1, none⟩ v1).setCell ⟨w.heap.size + 1 + 1, 2, none⟩ v2).cell? ⟨w.heap.size + 1 + 1, 2, none⟩ = some v2) ∧
  SpA B w fn dn (.returned (pgV P)) (((wn.setCell ⟨w.heap.size + 1 + 1, 0, none⟩ v0).setCell ⟨w.heap.size + 1 + 1, 1, none⟩ v1).setCell ⟨w.heap.size + 1 + 1, 2, none⟩ v2) := by
 have hq := ((hr.stored 0 v0).stored 1 v1).stored 2 v2
 refine ⟨⟨(hq.cell 0).trans (by simp), (hq.cell 1).trans (by simp), (hq.cell 2).trans (by simp)⟩, P, rfl, ((h.cell2 hr hB 0 _).cell2 (hr.stored 0 _) hB 1 _).cell2 ((hr.stored 0 _).stored 1 _) hB 2 _, far_below (far_below (far_below hb hB) hB) hB, hf, fun b9 t9 vs9 h9 ht9 => ?_, by simp [World.setCell]; exact hs⟩
 have hl9 := h9.lt
 exact far_blk (far_blk (far_blk (hk b9 t9 vs9 h9 ht9) (by omega)) (by omega)) (by omega)
set_option maxRecDepth 100000 in
set_option maxHeartbeats 8000000 in
theorem spoil_any (w : World) (B : Nat) (P : Pgm) (h : PgL w B P) (x y z : Int) (is : Bool) (hfn : P.fn ≤ 9223372036854775807) (hdn : P.dn ≤ 9223372036854775807) :
  Calls Tryz.prog 12 #[pgV P, .agg #[.int .i64 x, .int .i64 y], .int .i64 z, .bool is] w (SpA B w P.fn P.dn) := by
 have HBB0 := Hd h.base
 have HBB := Hd (show B ≤ w.heap.size + 1 + 1 from by have := h.base; omega)
 have HPL := Hd (fun W (hb : Below w.heap.size w W) => h.on hb)
 have HGF := Hd (fun W (hb : Below w.heap.size w W) a (ha : a < P.fn) => gf_at (h.on hb).fr ha)
 have HGD := Hd (fun W (hb : Below w.heap.size w W) a (ha : a < P.dn) => gd_at (h.on hb).dr ha)
 have HSTF := Hd (fun W (hb : Below w.heap.size w W) a (ha : a < P.fn) b (hb' : b < (gfAt P.fs a).refs.length) => (h.on hb).setF ha hb' z)
 have HSTD := Hd (fun W (hb : Below w.heap.size w W) a (ha : a < P.dn) b (hb' : b < (gdAt P.ds a).refs.length) => (h.on hb).setD ha hb' z)
 have HLF := Hd (show ∀ a, a < P.fn → (gfAt P.fs a).R.2.1 = (gfAt P.fs a).refs.length from fun a ha => (own_slV (h.own.fref (gfAt P.fs a) (List.mem_of_getElem? (gfAt_some (by rw [h.fr.1]; exact ha))))).1)
 have HLD := Hd (show ∀ a, a < P.dn → (gdAt P.ds a).R.2.1 = (gdAt P.ds a).refs.length from fun a ha => (own_slV (h.own.dref (gdAt P.ds a) (List.mem_of_getElem? (gdAt_some (by rw [h.dr.1]; exact ha))))).1)
 have HLM := Hd (show (∀ a, a < P.fn → (gfAt P.fs a).R.2.1 ≤ 9223372036854775807) ∧ ∀ a, a < P.dn → (gdAt P.ds a).R.2.1 ≤ 9223372036854775807 from ⟨fun a ha => wd_few (own_slV (h.own.fref (gfAt P.fs a) (List.mem_of_getElem? (gfAt_some (by rw [h.fr.1]; exact ha))))).2, fun a ha => wd_few (own_slV (h.own.dref (gdAt P.ds a) (List.mem_of_getElem? (gdAt_some (by rw [h.dr.1]; exact ha))))).2⟩)
 clear h
 obtain ⟨fA, fn, fc, fs, dA, dn, dc, ds, en, cs⟩ := P
 unfold pgV
 dsimp only at HPL HGF HGD HSTF HSTD HLF HLD HLM hfn hdn ⊢
 obtain ⟨W0, hW0⟩ : ∃ W0, ((w.alloc (.cells #[.slice fA fn fc, .slice dA dn dc, .int .i64 en] 29)).alloc (.cells #[.int .i64 x, .int .i64 y] 23)).alloc (.cells #[.slice none 0 0, .slice none 0 0, .int .i64 0] 29) = W0 := ⟨_, rfl⟩
 have HB0 := Hd (show Below w.heap.size w W0 from by rw [← hW0]; exact to_ (alloc_ _ _) (to_ (alloc_ _ _) (alloc_ _ _)))
 have HPB := Hd (show Blk W0 w.heap.size 29 #[.slice fA fn fc, .slice dA dn dc, .int .i64 en] from by rw [← hW0]; exact box3.1)
 have HAB := Hd (show Blk W0 (w.heap.size + 1) 23 #[.int .i64 x, .int .i64 y] from by rw [← hW0]; exact box3.2.1)
 have HRB := Hd (show Blk W0 (w.heap.size + 1 + 1) 29 #[.slice none 0 0, .slice none 0 0, .int .i64 0] from by rw [← hW0]; exact box3.2.2)
 have HC0 := Hd (show W0.cell? ⟨w.heap.size, 0, none⟩ = some (.slice fA fn fc) from HPB.out.cell 0)
 have HC1 := Hd (show W0.cell? ⟨w.heap.size, 1, none⟩ = some (.slice dA dn dc) from HPB.out.cell 1)
 have HC3 := Hd (show W0.cell? ⟨w.heap.size + 1, 0, none⟩ = some (.int .i64 x) from HAB.out.cell 0)
 have HC4 := Hd (show W0.cell? ⟨w.heap.size + 1, 1, none⟩ = some (.int .i64 y) from HAB.out.cell 1)
 have HKP := Hd (show ∀ b t vs, Blk w b t vs → t ≠ 3 → Blk W0 b t vs from fun b t vs h9 _ => h9.below HB0.out h9.lt)
 have HKS := Hd HB0.out.size
 cases is with
 | false =>
  obtain ⟨b0, b1, b2⟩ := q3Z HPB.out
  have s0 : W0.cell? ⟨w.heap.size + 1 + 1, 0, none⟩ = some (.slice none 0 0) := HRB.out.cell 0
  have s1 : W0.cell? ⟨w.heap.size + 1 + 1, 1, none⟩ = some (.slice none 0 0) := HRB.out.cell 1
  have s2 : W0.cell? ⟨w.heap.size + 1 + 1, 2, none⟩ = some (.int .i64 0) := HRB.out.cell 2
  have r0 := HRB.out.frozen 0
  have r1 := HRB.out.frozen 1
  have r2 := HRB.out.frozen 2
  have HEND := Hd (spoil_end (w := w) (P := ⟨fA, fn, fc, fs, dA, dn, dc, ds, en, cs⟩) (HPL.out W0 HB0.out) HRB.out HBB.out (HB0.out.mono HBB0.out) HKP.out HKS.out (fn := fn) (dn := dn) ⟨rfl, rfl⟩ (.slice fA fn fc) (.slice dA dn dc) (.int .i64 en))
  go_enter Tryz.func12, Tryz.ntmps12
  go_wp2_with fail
  refine bodyPost_ret (v := .agg #[.slice fA fn fc, .slice dA dn dc, .int .i64 en]) (by simp [results, Tryz.results12, go_sem, HEND.out.1.1, HEND.out.1.2.1, HEND.out.1.2.2]) rfl ?_
  exact HEND.out.2
 | true =>
  go_enter Tryz.func12, Tryz.ntmps12
  go_wp2_with fail
  clear hW0
  by_cases hxn : x < 0
  ·have dxn : ¬ (0 : Int) ≤ x := by omega
   have k1 : ¬ (0 : Int) ≤ x := by omega
   refine wp_region_noPanic ?_
   refine wp_region_held_drew (S := fun W => W.cell? ⟨w.heap.size, 0, none⟩ = some (.slice fA fn fc) ∧ W.cell? ⟨w.heap.size, 1, none⟩ = some (.slice dA dn dc) ∧ W.cell? ⟨w.heap.size + 1, 0, none⟩ = some (.int .i64 x) ∧ W.cell? ⟨w.heap.size + 1, 1, none⟩ = some (.int .i64 y)) (by kernel_rfl) (⟨HC0.out, HC1.out, HC3.out, HC4.out⟩) (fun hHeld => ?_)
   refine tk4Z 0 1 2 3 hHeld ?_
   refine tf6Z 4 5 6 7 8 9 hHeld ?_
   refine tk2Z 10 11 hHeld ?_
   refine tf3Z 12 13 14 hHeld ?_
   refine tk2Z 15 16 hHeld ?_
   refine tf8Z 17 18 19 20 21 22 23 24 hHeld ?_
   refine tf3Z 25 26 27 hHeld ?_
   refine tk1Z 28 hHeld ?_
   refine wpAnyH_done (by kernel_rfl) ?_ _
   refine NoPanic.normal ?_
   clear hHeld
   go_wp2_with fail
   have k1 : ¬ (0 : Int) ≤ x := by omega
   refine wp_region_noPanic ?_
   refine wp_region_held_drew (S := fun W => W.cell? ⟨w.heap.size, 0, none⟩ = some (.slice fA fn fc) ∧ W.cell? ⟨w.heap.size, 1, none⟩ = some (.slice dA dn dc) ∧ W.cell? ⟨w.heap.size + 1, 0, none⟩ = some (.int .i64 x) ∧ W.cell? ⟨w.heap.size + 1, 1, none⟩ = some (.int .i64 y)) (by kernel_rfl) (⟨HC0.out, HC1.out, HC3.out, HC4.out⟩) (fun hHeld => ?_)
   refine tk4Z 0 1 2 3 hHeld ?_
   refine tf6Z 4 5 6 7 8 9 hHeld ?_
   refine tk2Z 10 11 hHeld ?_
   refine tf3Z 12 13 14 hHeld ?_
   refine tk2Z 15 16 hHeld ?_
   refine tf8Z 17 18 19 20 21 22 23 24 hHeld ?_
   refine tf3Z 25 26 27 hHeld ?_
   refine tk1Z 28 hHeld ?_
   refine wpAnyH_done (by kernel_rfl) ?_ _
   refine NoPanic.normal ?_
   clear hHeld
   have b2 : W0.cell? ⟨w.heap.size, 2, none⟩ = some (.int .i64 en) := HPB.out.cell 2
   have r9 := HPB.out.frozen 2
   obtain ⟨wB, hwB⟩ : ∃ x, W0.setCell ⟨w.heap.size, 2, none⟩ (.int .i64 z) = x := ⟨_, rfl⟩
   have HPF := Hd (show PgL wB B (setE ⟨fA, fn, fc, fs, dA, dn, dc, ds, en, cs⟩ z) ∧ Below B w wB from by rw [← hwB]; exact ⟨((HPL.out W0 HB0.out).cell2 HPB.out HBB0.out 2 _).setE z, far_below (HB0.out.mono HBB0.out) HBB0.out⟩)
   have HRB := Hd (show Blk wB (w.heap.size + 1 + 1) 29 #[.slice none 0 0, .slice none 0 0, .int .i64 0] from by rw [← hwB]; exact far_blk HRB.out (by omega))
   have HKP := Hd (show ∀ b t vs, Blk w b t vs → t ≠ 3 → Blk wB b t vs from fun b t vs h9 ht => by have hl9 := h9.lt; rw [← hwB]; exact far_blk (HKP.out b t vs h9 ht) (by omega))
   have HKS := Hd (show w.heap.size ≤ wB.heap.size from by rw [← hwB]; simp [World.setCell]; exact HKS.out)
   have HPB := Hd (show Blk wB w.heap.size 29 #[.slice fA fn fc, .slice dA dn dc, .int .i64 z] from by rw [← hwB]; exact HPB.out.stored 2 (.int .i64 z))
   have b0 : wB.cell? ⟨w.heap.size, 0, none⟩ = some (.slice fA fn fc) := HPB.out.cell 0
   have b1 : wB.cell? ⟨w.heap.size, 1, none⟩ = some (.slice dA dn dc) := HPB.out.cell 1
   have b2 : wB.cell? ⟨w.heap.size, 2, none⟩ = some (.int .i64 z) := HPB.out.cell 2
   have s0 : wB.cell? ⟨w.heap.size + 1 + 1, 0, none⟩ = some (.slice none 0 0) := HRB.out.cell 0
   have s1 : wB.cell? ⟨w.heap.size + 1 + 1, 1, none⟩ = some (.slice none 0 0) := HRB.out.cell 1
   have s2 : wB.cell? ⟨w.heap.size + 1 + 1, 2, none⟩ = some (.int .i64 0) := HRB.out.cell 2
   have r0 := HRB.out.frozen 0
   have r1 := HRB.out.frozen 1
   have r2 := HRB.out.frozen 2
   have HEND := Hd (spoil_end (w := w) (P := (setE ⟨fA, fn, fc, fs, dA, dn, dc, ds, en, cs⟩ z)) (HPF.out.1) HRB.out HBB.out HPF.out.2 HKP.out HKS.out (fn := fn) (dn := dn) ⟨rfl, rfl⟩ (.slice fA fn fc) (.slice dA dn dc) (.int .i64 z))
   go_wp2_with fail
   refine bodyPost_ret (v := .agg #[.slice fA fn fc, .slice dA dn dc, .int .i64 z]) (by simp [results, Tryz.results12, go_sem, HEND.out.1.1, HEND.out.1.2.1, HEND.out.1.2.2]) rfl ?_
   exact HEND.out.2.drew.drew
  ·obtain ⟨a, rfl⟩ := Int.eq_ofNat_of_zero_le (show 0 ≤ x by omega)
   have dxn : (0 : Int) ≤ (a : Int) := by omega
   clear hxn
   by_cases hlt : a < fn
   ·have dxf : (a : Int) < (fn : Int) := by omega
    by_cases hyn : y < 0
    ·have dyn : ¬ (0 : Int) ≤ y := by omega
     have k1 : (0 : Int) ≤ (a : Int) := by omega
     have k2 : (a : Int) < (fn : Int) := by omega
     have k3 : ¬ (0 : Int) ≤ y := by omega
     refine wp_region_noPanic ?_
     refine wp_region_held_drew (S := fun W => W.cell? ⟨w.heap.size, 0, none⟩ = some (.slice fA fn fc) ∧ W.cell? ⟨w.heap.size, 1, none⟩ = some (.slice dA dn dc) ∧ W.cell? ⟨w.heap.size + 1, 0, none⟩ = some (.int .i64 (a : Int)) ∧ W.cell? ⟨w.heap.size + 1, 1, none⟩ = some (.int .i64 y)) (by kernel_rfl) (⟨HC0.out, HC1.out, HC3.out, HC4.out⟩) (fun hHeld => ?_)
     refine tk8Z 0 1 2 3 4 5 6 7 hHeld ?_
     refine tk8Z 8 9 10 11 12 13 14 15 hHeld ?_
     refine tk1Z 16 hHeld ?_
     refine tf8Z 17 18 19 20 21 22 23 24 hHeld ?_
     refine tf3Z 25 26 27 hHeld ?_
     refine tk1Z 28 hHeld ?_
     refine wpAnyH_done (by kernel_rfl) ?_ _
     refine NoPanic.normal ?_
     clear hHeld
     go_wp2_with fail
     by_cases hxd : a < dn
     focus
      have dxd : (a : Int) < (dn : Int) := by omega
      have k1 : (0 : Int) ≤ (a : Int) := by omega
      have k2 : (a : Int) < (dn : Int) := by omega
      have k3 : ¬ (0 : Int) ≤ y := by omega
      refine wp_region_noPanic ?_
      refine wp_region_held_drew (S := fun W => W.cell? ⟨w.heap.size, 0, none⟩ = some (.slice fA fn fc) ∧ W.cell? ⟨w.heap.size, 1, none⟩ = some (.slice dA dn dc) ∧ W.cell? ⟨w.heap.size + 1, 0, none⟩ = some (.int .i64 (a : Int)) ∧ W.cell? ⟨w.heap.size + 1, 1, none⟩ = some (.int .i64 y)) (by kernel_rfl) (⟨HC0.out, HC1.out, HC3.out, HC4.out⟩) (fun hHeld => ?_)
      refine tk8Z 0 1 2 3 4 5 6 7 hHeld ?_
      refine tk8Z 8 9 10 11 12 13 14 15 hHeld ?_
      refine tk1Z 16 hHeld ?_
     rotate_left
     focus
      have dxd : ¬ (a : Int) < (dn : Int) := by omega
      have k1 : (0 : Int) ≤ (a : Int) := by omega
      have k2 : ¬ (a : Int) < (dn : Int) := by omega
      refine wp_region_noPanic ?_
      refine wp_region_held_drew (S := fun W => W.cell? ⟨w.heap.size, 0, none⟩ = some (.slice fA fn fc) ∧ W.cell? ⟨w.heap.size, 1, none⟩ = some (.slice dA dn dc) ∧ W.cell? ⟨w.heap.size + 1, 0, none⟩ = some (.int .i64 (a : Int)) ∧ W.cell? ⟨w.heap.size + 1, 1, none⟩ = some (.int .i64 y)) (by kernel_rfl) (⟨HC0.out, HC1.out, HC3.out, HC4.out⟩) (fun hHeld => ?_)
      refine tk8Z 0 1 2 3 4 5 6 7 hHeld ?_
      refine tk4Z 8 9 10 11 hHeld ?_
      refine tf3Z 12 13 14 hHeld ?_
      refine tk2Z 15 16 hHeld ?_
     rotate_left
     all_goals
      refine tf8Z 17 18 19 20 21 22 23 24 hHeld ?_
      refine tf3Z 25 26 27 hHeld ?_
      refine tk1Z 28 hHeld ?_
      refine wpAnyH_done (by kernel_rfl) ?_ _
      refine NoPanic.normal ?_
      clear hHeld
      have b2 : W0.cell? ⟨w.heap.size, 2, none⟩ = some (.int .i64 en) := HPB.out.cell 2
      have r9 := HPB.out.frozen 2
      obtain ⟨wB, hwB⟩ : ∃ x, W0.setCell ⟨w.heap.size, 2, none⟩ (.int .i64 z) = x := ⟨_, rfl⟩
      have HPF := Hd (show PgL wB B (setE ⟨fA, fn, fc, fs, dA, dn, dc, ds, en, cs⟩ z) ∧ Below B w wB from by rw [← hwB]; exact ⟨((HPL.out W0 HB0.out).cell2 HPB.out HBB0.out 2 _).setE z, far_below (HB0.out.mono HBB0.out) HBB0.out⟩)
      have HRB := Hd (show Blk wB (w.heap.size + 1 + 1) 29 #[.slice none 0 0, .slice none 0 0, .int .i64 0] from by rw [← hwB]; exact far_blk HRB.out (by omega))
      have HKP := Hd (show ∀ b t vs, Blk w b t vs → t ≠ 3 → Blk wB b t vs from fun b t vs h9 ht => by have hl9 := h9.lt; rw [← hwB]; exact far_blk (HKP.out b t vs h9 ht) (by omega))
      have HKS := Hd (show w.heap.size ≤ wB.heap.size from by rw [← hwB]; simp [World.setCell]; exact HKS.out)
      have HPB := Hd (show Blk wB w.heap.size 29 #[.slice fA fn fc, .slice dA dn dc, .int .i64 z] from by rw [← hwB]; exact HPB.out.stored 2 (.int .i64 z))
      have b0 : wB.cell? ⟨w.heap.size, 0, none⟩ = some (.slice fA fn fc) := HPB.out.cell 0
      have b1 : wB.cell? ⟨w.heap.size, 1, none⟩ = some (.slice dA dn dc) := HPB.out.cell 1
      have b2 : wB.cell? ⟨w.heap.size, 2, none⟩ = some (.int .i64 z) := HPB.out.cell 2
      have s0 : wB.cell? ⟨w.heap.size + 1 + 1, 0, none⟩ = some (.slice none 0 0) := HRB.out.cell 0
      have s1 : wB.cell? ⟨w.heap.size + 1 + 1, 1, none⟩ = some (.slice none 0 0) := HRB.out.cell 1
      have s2 : wB.cell? ⟨w.heap.size + 1 + 1, 2, none⟩ = some (.int .i64 0) := HRB.out.cell 2
      have r0 := HRB.out.frozen 0
      have r1 := HRB.out.frozen 1
      have r2 := HRB.out.frozen 2
      have HEND := Hd (spoil_end (w := w) (P := (setE ⟨fA, fn, fc, fs, dA, dn, dc, ds, en, cs⟩ z)) (HPF.out.1) HRB.out HBB.out HPF.out.2 HKP.out HKS.out (fn := fn) (dn := dn) ⟨rfl, rfl⟩ (.slice fA fn fc) (.slice dA dn dc) (.int .i64 z))
      go_wp2_with fail
      refine bodyPost_ret (v := .agg #[.slice fA fn fc, .slice dA dn dc, .int .i64 z]) (by simp [results, Tryz.results12, go_sem, HEND.out.1.1, HEND.out.1.2.1, HEND.out.1.2.2]) rfl ?_
      exact HEND.out.2.drew.drew
    ·obtain ⟨b, rfl⟩ := Int.eq_ofNat_of_zero_le (show 0 ≤ y by omega)
     have dyn : (0 : Int) ≤ (b : Int) := by omega
     clear hyn
     obtain ⟨ad, hda, hz9, -, hfc⟩ := HGF.out W0 HB0.out a hlt
     subst hda
     have hle := HLF.out a hlt
     have hlm := HLM.out.1 a hlt
     obtain ⟨R, hR⟩ : ∃ R, (gfAt fs a).R = R := ⟨_, rfl⟩
     obtain ⟨qA, qn, qc⟩ := R
     have HQE := Hd hR
     have HQ := Hd (show W0.cell? ⟨(ad.add (a * 13)).block, (ad.add (a * 13)).off + 12, none⟩ = some (.slice qA qn qc) from by have := hfc 11 _ rfl; rw [hR] at this; exact this)
     rw [hR] at hle hlm
     dsimp only at hle hlm
     clear hfc hz9 hR
     by_cases hbl : b < (gfAt fs a).refs.length
     ·have dyl : (b : Int) < (qn : Int) := by omega
      have k1 : (0 : Int) ≤ (a : Int) := by omega
      have k2 : (a : Int) < (fn : Int) := by omega
      have k3 : (0 : Int) ≤ (b : Int) := by omega
      have k4 : (b : Int) < (qn : Int) := by omega
      refine wp_region_noPanic ?_
      refine wp_region_held_drew (S := fun W => W.cell? ⟨w.heap.size, 0, none⟩ = some (.slice (some ad) fn fc) ∧ W.cell? ⟨w.heap.size, 1, none⟩ = some (.slice dA dn dc) ∧ W.cell? ⟨w.heap.size + 1, 0, none⟩ = some (.int .i64 (a : Int)) ∧ W.cell? ⟨w.heap.size + 1, 1, none⟩ = some (.int .i64 (b : Int)) ∧ W.cell? ⟨(ad.add (a * 13)).block, (ad.add (a * 13)).off + 12, none⟩ = some (.slice qA qn qc)) (by kernel_rfl) (⟨HC0.out, HC1.out, HC3.out, HC4.out, HQ.out⟩) (fun hHeld => ?_)
      refine tk8Z 0 1 2 3 4 5 6 7 hHeld ?_
      refine tk8Z 8 9 10 11 12 13 14 15 hHeld ?_
      refine tk8Z 16 17 18 19 20 21 22 23 hHeld ?_
      refine tk5Z 24 25 26 27 28 hHeld ?_
      refine wpAnyH_done (by kernel_rfl) ?_ _
      refine NoPanic.normal ?_
      clear hHeld
      go_wp2_with fail
      obtain ⟨g, e1, k1, -⟩ := HSTF.out w (Below.refl _ _) a hlt b hbl
      have HGL := Hd (World.block_lt_of_cell? w _ k1)
      obtain ⟨g2, e2, j1, j2, j5, j6, j3, j4⟩ := HSTF.out W0 HB0.out a hlt b hbl
      have e3 : g2 = g := by rw [e1] at e2; injection e2 with e2; injection e2 with e2; exact e2.symm
      subst e3
      have HQ := Hd (show W0.cell? ⟨(ad.add (a * 13)).block, (ad.add (a * 13)).off + 12, none⟩ = some (.slice (some ⟨g2, 0, none⟩) qn qc) from by rw [HQ.out]; rw [HQE.out] at e1; dsimp only at e1; rw [e1])
      have eqA : qA = some ⟨g2, 0, none⟩ := by rw [HQE.out] at e1; exact e1
      subst eqA
      obtain ⟨old, hold⟩ : ∃ old, (gfAt fs a).refs.getD b 0 = old := ⟨_, rfl⟩
      have HG1 := Hd (show W0.cell? ⟨g2, b, none⟩ = some (.int .i64 old) from by rw [← hold]; exact j1)
      have HG2 := Hd j2
      have HG3 := Hd j3
      have HG4 := Hd j4
      have HG5 := Hd (j5 ad rfl)
      have HG6 := Hd j6
      clear e1 e2 k1 j1 j2 j3 j4 j5 j6 hold
      obtain ⟨g, hg⟩ : ∃ g, g = g2 := ⟨_, rfl⟩
      subst hg
      refine wp_region_noPanic ?_
      refine wp_region_held_drew (S := fun W => W.cell? ⟨w.heap.size, 0, none⟩ = some (.slice (some ad) fn fc) ∧ W.cell? ⟨w.heap.size, 1, none⟩ = some (.slice dA dn dc) ∧ W.cell? ⟨w.heap.size + 1, 0, none⟩ = some (.int .i64 (a : Int)) ∧ W.cell? ⟨w.heap.size + 1, 1, none⟩ = some (.int .i64 (b : Int)) ∧ W.cell? ⟨(ad.add (a * 13)).block, (ad.add (a * 13)).off + 12, none⟩ = some (.slice (some ⟨g, 0, none⟩) qn qc)) (by kernel_rfl) (⟨HC0.out, HC1.out, HC3.out, HC4.out, HQ.out⟩) (fun hHeld => ?_)
      refine tk8Z 0 1 2 3 4 5 6 7 hHeld ?_
      refine tk3Z 8 9 10 hHeld ?_
      have q1 : W0.cell? ⟨g, b, none⟩ = some (.int .i64 old) := HG1.out
      have q2 : W0.frozen? ⟨g, b, none⟩ = false := HG2.out
      obtain ⟨wB, hwB⟩ : ∃ x, W0.setCell ⟨g, b, none⟩ (.int .i64 z) = x := ⟨_, rfl⟩
      have HWB := Hd hwB
      refine rd1Z 11 (fun K hK => ?_)
      go_simp
      try go_wp2_with fail
      refine hK.out _ _ (by first | exact ⟨far_cell hHeld.1 (by have := HGL.out; omega), far_cell hHeld.2.1 (by have := HGL.out; omega), far_cell hHeld.2.2.1 (by have := HGL.out; omega), far_cell hHeld.2.2.2.1 (by have := HGL.out; omega), far_cell hHeld.2.2.2.2 (by rw [add_block]; exact HG5.out)⟩ | (rw [← HWB.out]; exact ⟨far_cell hHeld.1 (by have := HGL.out; omega), far_cell hHeld.2.1 (by have := HGL.out; omega), far_cell hHeld.2.2.1 (by have := HGL.out; omega), far_cell hHeld.2.2.2.1 (by have := HGL.out; omega), far_cell hHeld.2.2.2.2 (by rw [add_block]; exact HG5.out)⟩)) ?_
      clear hK K hHeld q1 q2
      intro hHeld
      try simp only [Act.put, nmZ]
      refine wpAnyH_done (by kernel_rfl) ?_ _
      refine NoPanic.normal ?_
      clear hHeld
      have HPB := Hd (show Blk wB w.heap.size 29 #[.slice (some ad) fn fc, .slice dA dn dc, .int .i64 en] from by rw [← HWB.out]; exact far_blk HPB.out (by have := HGL.out; omega))
      have HRB := Hd (show Blk wB (w.heap.size + 1 + 1) 29 #[.slice none 0 0, .slice none 0 0, .int .i64 0] from by rw [← HWB.out]; exact far_blk HRB.out (by have := HGL.out; omega))
      have HPF := Hd (show PgL wB B (setF ⟨some ad, fn, fc, fs, dA, dn, dc, ds, en, cs⟩ a b z) ∧ Below B w wB from by rw [← HWB.out]; exact ⟨HG4.out, (HB0.out.mono HBB0.out).trans HG3.out⟩)
      have HKP := Hd (show ∀ b t vs, Blk w b t vs → t ≠ 3 → Blk wB b t vs from fun b t vs h9 ht => by rw [← HWB.out]; exact far_blk (HKP.out b t vs h9 ht) (HG6.out b t vs (HKP.out b t vs h9 ht) ht))
      have HKS := Hd (show w.heap.size ≤ wB.heap.size from by rw [← HWB.out]; simp [World.setCell]; exact HKS.out)
      clear hwB
      have b0 : wB.cell? ⟨w.heap.size, 0, none⟩ = some (.slice (some ad) fn fc) := HPB.out.cell 0
      have b1 : wB.cell? ⟨w.heap.size, 1, none⟩ = some (.slice dA dn dc) := HPB.out.cell 1
      have b2 : wB.cell? ⟨w.heap.size, 2, none⟩ = some (.int .i64 en) := HPB.out.cell 2
      have s0 : wB.cell? ⟨w.heap.size + 1 + 1, 0, none⟩ = some (.slice none 0 0) := HRB.out.cell 0
      have s1 : wB.cell? ⟨w.heap.size + 1 + 1, 1, none⟩ = some (.slice none 0 0) := HRB.out.cell 1
      have s2 : wB.cell? ⟨w.heap.size + 1 + 1, 2, none⟩ = some (.int .i64 0) := HRB.out.cell 2
      have r0 := HRB.out.frozen 0
      have r1 := HRB.out.frozen 1
      have r2 := HRB.out.frozen 2
      have HEND := Hd (spoil_end (w := w) (P := (setF ⟨some ad, fn, fc, fs, dA, dn, dc, ds, en, cs⟩ a b z)) (HPF.out.1) HRB.out HBB.out HPF.out.2 HKP.out HKS.out (fn := fn) (dn := dn) ⟨rfl, rfl⟩ (.slice (some ad) fn fc) (.slice dA dn dc) (.int .i64 en))
      go_wp2_with fail
      refine bodyPost_ret (v := .agg #[.slice (some ad) fn fc, .slice dA dn dc, .int .i64 en]) (by simp [results, Tryz.results12, go_sem, HEND.out.1.1, HEND.out.1.2.1, HEND.out.1.2.2]) rfl ?_
      exact HEND.out.2.drew.drew
     ·have dyl : ¬ (b : Int) < (qn : Int) := by omega
      have k1 : (0 : Int) ≤ (a : Int) := by omega
      have k2 : (a : Int) < (fn : Int) := by omega
      have k3 : (0 : Int) ≤ (b : Int) := by omega
      have k4 : ¬ (b : Int) < (qn : Int) := by omega
      refine wp_region_noPanic ?_
      refine wp_region_held_drew (S := fun W => W.cell? ⟨w.heap.size, 0, none⟩ = some (.slice (some ad) fn fc) ∧ W.cell? ⟨w.heap.size, 1, none⟩ = some (.slice dA dn dc) ∧ W.cell? ⟨w.heap.size + 1, 0, none⟩ = some (.int .i64 (a : Int)) ∧ W.cell? ⟨w.heap.size + 1, 1, none⟩ = some (.int .i64 (b : Int)) ∧ W.cell? ⟨(ad.add (a * 13)).block, (ad.add (a * 13)).off + 12, none⟩ = some (.slice qA qn qc)) (by kernel_rfl) (⟨HC0.out, HC1.out, HC3.out, HC4.out, HQ.out⟩) (fun hHeld => ?_)
      refine tk8Z 0 1 2 3 4 5 6 7 hHeld ?_
      refine tk8Z 8 9 10 11 12 13 14 15 hHeld ?_
      refine tk8Z 16 17 18 19 20 21 22 23 hHeld ?_
      refine tk5Z 24 25 26 27 28 hHeld ?_
      refine wpAnyH_done (by kernel_rfl) ?_ _
      refine NoPanic.normal ?_
      clear hHeld
      go_wp2_with fail
      clear HQ HQE dyl hle hlm hbl
      by_cases hxd : a < dn
      ·have dxd : (a : Int) < (dn : Int) := by omega
       obtain ⟨ae, hda, hz9, -, hfc⟩ := HGD.out W0 HB0.out a hxd
       subst hda
       have hle := HLD.out a hxd
       have hlm := HLM.out.2 a hxd
       obtain ⟨R, hR⟩ : ∃ R, (gdAt ds a).R = R := ⟨_, rfl⟩
       obtain ⟨qA, qn, qc⟩ := R
       have HQE := Hd hR
       have HQ := Hd (show W0.cell? ⟨(ae.add (a * 7)).block, (ae.add (a * 7)).off + 6, none⟩ = some (.slice qA qn qc) from by have := hfc 5 _ rfl; rw [hR] at this; exact this)
       rw [hR] at hle hlm
       dsimp only at hle hlm
       clear hfc hz9 hR
       by_cases hbl : b < (gdAt ds a).refs.length
       ·have dyl : (b : Int) < (qn : Int) := by omega
        have hlt := hxd
        have k1 : (0 : Int) ≤ (a : Int) := by omega
        have k2 : (a : Int) < (dn : Int) := by omega
        have k3 : (0 : Int) ≤ (b : Int) := by omega
        have k4 : (b : Int) < (qn : Int) := by omega
        refine wp_region_noPanic ?_
        refine wp_region_held_drew (S := fun W => W.cell? ⟨w.heap.size, 0, none⟩ = some (.slice (some ad) fn fc) ∧ W.cell? ⟨w.heap.size, 1, none⟩ = some (.slice (some ae) dn dc) ∧ W.cell? ⟨w.heap.size + 1, 0, none⟩ = some (.int .i64 (a : Int)) ∧ W.cell? ⟨w.heap.size + 1, 1, none⟩ = some (.int .i64 (b : Int)) ∧ W.cell? ⟨(ae.add (a * 7)).block, (ae.add (a * 7)).off + 6, none⟩ = some (.slice qA qn qc)) (by kernel_rfl) (⟨HC0.out, HC1.out, HC3.out, HC4.out, HQ.out⟩) (fun hHeld => ?_)
        refine tk8Z 0 1 2 3 4 5 6 7 hHeld ?_
        refine tk8Z 8 9 10 11 12 13 14 15 hHeld ?_
        refine tk8Z 16 17 18 19 20 21 22 23 hHeld ?_
        refine tk5Z 24 25 26 27 28 hHeld ?_
        refine wpAnyH_done (by kernel_rfl) ?_ _
        refine NoPanic.normal ?_
        clear hHeld
        go_wp2_with fail
        obtain ⟨g, e1, k1, -⟩ := HSTD.out w (Below.refl _ _) a hlt b hbl
        have HGL := Hd (World.block_lt_of_cell? w _ k1)
        obtain ⟨g2, e2, j1, j2, j5, j6, j3, j4⟩ := HSTD.out W0 HB0.out a hlt b hbl
        have e3 : g2 = g := by rw [e1] at e2; injection e2 with e2; injection e2 with e2; exact e2.symm
        subst e3
        have HQ := Hd (show W0.cell? ⟨(ae.add (a * 7)).block, (ae.add (a * 7)).off + 6, none⟩ = some (.slice (some ⟨g2, 0, none⟩) qn qc) from by rw [HQ.out]; rw [HQE.out] at e1; dsimp only at e1; rw [e1])
        have eqA : qA = some ⟨g2, 0, none⟩ := by rw [HQE.out] at e1; exact e1
        subst eqA
        obtain ⟨old, hold⟩ : ∃ old, (gdAt ds a).refs.getD b 0 = old := ⟨_, rfl⟩
        have HG1 := Hd (show W0.cell? ⟨g2, b, none⟩ = some (.int .i64 old) from by rw [← hold]; exact j1)
        have HG2 := Hd j2
        have HG3 := Hd j3
        have HG4 := Hd j4
        have HG5 := Hd (j5 ae rfl)
        have HG6 := Hd j6
        clear e1 e2 k1 j1 j2 j3 j4 j5 j6 hold
        obtain ⟨g, hg⟩ : ∃ g, g = g2 := ⟨_, rfl⟩
        subst hg
        refine wp_region_noPanic ?_
        refine wp_region_held_drew (S := fun W => W.cell? ⟨w.heap.size, 0, none⟩ = some (.slice (some ad) fn fc) ∧ W.cell? ⟨w.heap.size, 1, none⟩ = some (.slice (some ae) dn dc) ∧ W.cell? ⟨w.heap.size + 1, 0, none⟩ = some (.int .i64 (a : Int)) ∧ W.cell? ⟨w.heap.size + 1, 1, none⟩ = some (.int .i64 (b : Int)) ∧ W.cell? ⟨(ae.add (a * 7)).block, (ae.add (a * 7)).off + 6, none⟩ = some (.slice (some ⟨g, 0, none⟩) qn qc)) (by kernel_rfl) (⟨HC0.out, HC1.out, HC3.out, HC4.out, HQ.out⟩) (fun hHeld => ?_)
        refine tk8Z 0 1 2 3 4 5 6 7 hHeld ?_
        refine tk3Z 8 9 10 hHeld ?_
        have q1 : W0.cell? ⟨g, b, none⟩ = some (.int .i64 old) := HG1.out
        have q2 : W0.frozen? ⟨g, b, none⟩ = false := HG2.out
        obtain ⟨wB, hwB⟩ : ∃ x, W0.setCell ⟨g, b, none⟩ (.int .i64 z) = x := ⟨_, rfl⟩
        have HWB := Hd hwB
        refine rd1Z 11 (fun K hK => ?_)
        go_simp
        try go_wp2_with fail
        refine hK.out _ _ (by first | exact ⟨far_cell hHeld.1 (by have := HGL.out; omega), far_cell hHeld.2.1 (by have := HGL.out; omega), far_cell hHeld.2.2.1 (by have := HGL.out; omega), far_cell hHeld.2.2.2.1 (by have := HGL.out; omega), far_cell hHeld.2.2.2.2 (by rw [add_block]; exact HG5.out)⟩ | (rw [← HWB.out]; exact ⟨far_cell hHeld.1 (by have := HGL.out; omega), far_cell hHeld.2.1 (by have := HGL.out; omega), far_cell hHeld.2.2.1 (by have := HGL.out; omega), far_cell hHeld.2.2.2.1 (by have := HGL.out; omega), far_cell hHeld.2.2.2.2 (by rw [add_block]; exact HG5.out)⟩)) ?_
        clear hK K hHeld q1 q2
        intro hHeld
        try simp only [Act.put, nmZ]
        refine wpAnyH_done (by kernel_rfl) ?_ _
        refine NoPanic.normal ?_
        clear hHeld
        have HPB := Hd (show Blk wB w.heap.size 29 #[.slice (some ad) fn fc, .slice (some ae) dn dc, .int .i64 en] from by rw [← HWB.out]; exact far_blk HPB.out (by have := HGL.out; omega))
        have HRB := Hd (show Blk wB (w.heap.size + 1 + 1) 29 #[.slice none 0 0, .slice none 0 0, .int .i64 0] from by rw [← HWB.out]; exact far_blk HRB.out (by have := HGL.out; omega))
        have HPF := Hd (show PgL wB B (setD ⟨some ad, fn, fc, fs, some ae, dn, dc, ds, en, cs⟩ a b z) ∧ Below B w wB from by rw [← HWB.out]; exact ⟨HG4.out, (HB0.out.mono HBB0.out).trans HG3.out⟩)
        have HKP := Hd (show ∀ b t vs, Blk w b t vs → t ≠ 3 → Blk wB b t vs from fun b t vs h9 ht => by rw [← HWB.out]; exact far_blk (HKP.out b t vs h9 ht) (HG6.out b t vs (HKP.out b t vs h9 ht) ht))
        have HKS := Hd (show w.heap.size ≤ wB.heap.size from by rw [← HWB.out]; simp [World.setCell]; exact HKS.out)
        clear hwB
        have b0 : wB.cell? ⟨w.heap.size, 0, none⟩ = some (.slice (some ad) fn fc) := HPB.out.cell 0
        have b1 : wB.cell? ⟨w.heap.size, 1, none⟩ = some (.slice (some ae) dn dc) := HPB.out.cell 1
        have b2 : wB.cell? ⟨w.heap.size, 2, none⟩ = some (.int .i64 en) := HPB.out.cell 2
        have s0 : wB.cell? ⟨w.heap.size + 1 + 1, 0, none⟩ = some (.slice none 0 0) := HRB.out.cell 0
        have s1 : wB.cell? ⟨w.heap.size + 1 + 1, 1, none⟩ = some (.slice none 0 0) := HRB.out.cell 1
        have s2 : wB.cell? ⟨w.heap.size + 1 + 1, 2, none⟩ = some (.int .i64 0) := HRB.out.cell 2
        have r0 := HRB.out.frozen 0
        have r1 := HRB.out.frozen 1
        have r2 := HRB.out.frozen 2
        have HEND := Hd (spoil_end (w := w) (P := (setD ⟨some ad, fn, fc, fs, some ae, dn, dc, ds, en, cs⟩ a b z)) (HPF.out.1) HRB.out HBB.out HPF.out.2 HKP.out HKS.out (fn := fn) (dn := dn) ⟨rfl, rfl⟩ (.slice (some ad) fn fc) (.slice (some ae) dn dc) (.int .i64 en))
        go_wp2_with fail
        refine bodyPost_ret (v := .agg #[.slice (some ad) fn fc, .slice (some ae) dn dc, .int .i64 en]) (by simp [results, Tryz.results12, go_sem, HEND.out.1.1, HEND.out.1.2.1, HEND.out.1.2.2]) rfl ?_
        exact HEND.out.2.drew.drew.drew
       ·have dyl : ¬ (b : Int) < (qn : Int) := by omega
        have k1 : (0 : Int) ≤ (a : Int) := by omega
        have k2 : (a : Int) < (dn : Int) := by omega
        have k3 : (0 : Int) ≤ (b : Int) := by omega
        have k4 : ¬ (b : Int) < (qn : Int) := by omega
        refine wp_region_noPanic ?_
        refine wp_region_held_drew (S := fun W => W.cell? ⟨w.heap.size, 0, none⟩ = some (.slice (some ad) fn fc) ∧ W.cell? ⟨w.heap.size, 1, none⟩ = some (.slice (some ae) dn dc) ∧ W.cell? ⟨w.heap.size + 1, 0, none⟩ = some (.int .i64 (a : Int)) ∧ W.cell? ⟨w.heap.size + 1, 1, none⟩ = some (.int .i64 (b : Int)) ∧ W.cell? ⟨(ae.add (a * 7)).block, (ae.add (a * 7)).off + 6, none⟩ = some (.slice qA qn qc)) (by kernel_rfl) (⟨HC0.out, HC1.out, HC3.out, HC4.out, HQ.out⟩) (fun hHeld => ?_)
        refine tk8Z 0 1 2 3 4 5 6 7 hHeld ?_
        refine tk8Z 8 9 10 11 12 13 14 15 hHeld ?_
        refine tk8Z 16 17 18 19 20 21 22 23 hHeld ?_
        refine tk5Z 24 25 26 27 28 hHeld ?_
        refine wpAnyH_done (by kernel_rfl) ?_ _
        refine NoPanic.normal ?_
        clear hHeld
        have b2 : W0.cell? ⟨w.heap.size, 2, none⟩ = some (.int .i64 en) := HPB.out.cell 2
        have r9 := HPB.out.frozen 2
        obtain ⟨wB, hwB⟩ : ∃ x, W0.setCell ⟨w.heap.size, 2, none⟩ (.int .i64 z) = x := ⟨_, rfl⟩
        have HPF := Hd (show PgL wB B (setE ⟨some ad, fn, fc, fs, some ae, dn, dc, ds, en, cs⟩ z) ∧ Below B w wB from by rw [← hwB]; exact ⟨((HPL.out W0 HB0.out).cell2 HPB.out HBB0.out 2 _).setE z, far_below (HB0.out.mono HBB0.out) HBB0.out⟩)
        have HRB := Hd (show Blk wB (w.heap.size + 1 + 1) 29 #[.slice none 0 0, .slice none 0 0, .int .i64 0] from by rw [← hwB]; exact far_blk HRB.out (by omega))
        have HKP := Hd (show ∀ b t vs, Blk w b t vs → t ≠ 3 → Blk wB b t vs from fun b t vs h9 ht => by have hl9 := h9.lt; rw [← hwB]; exact far_blk (HKP.out b t vs h9 ht) (by omega))
        have HKS := Hd (show w.heap.size ≤ wB.heap.size from by rw [← hwB]; simp [World.setCell]; exact HKS.out)
        have HPB := Hd (show Blk wB w.heap.size 29 #[.slice (some ad) fn fc, .slice (some ae) dn dc, .int .i64 z] from by rw [← hwB]; exact HPB.out.stored 2 (.int .i64 z))
        have b0 : wB.cell? ⟨w.heap.size, 0, none⟩ = some (.slice (some ad) fn fc) := HPB.out.cell 0
        have b1 : wB.cell? ⟨w.heap.size, 1, none⟩ = some (.slice (some ae) dn dc) := HPB.out.cell 1
        have b2 : wB.cell? ⟨w.heap.size, 2, none⟩ = some (.int .i64 z) := HPB.out.cell 2
        have s0 : wB.cell? ⟨w.heap.size + 1 + 1, 0, none⟩ = some (.slice none 0 0) := HRB.out.cell 0
        have s1 : wB.cell? ⟨w.heap.size + 1 + 1, 1, none⟩ = some (.slice none 0 0) := HRB.out.cell 1
        have s2 : wB.cell? ⟨w.heap.size + 1 + 1, 2, none⟩ = some (.int .i64 0) := HRB.out.cell 2
        have r0 := HRB.out.frozen 0
        have r1 := HRB.out.frozen 1
        have r2 := HRB.out.frozen 2
        have HEND := Hd (spoil_end (w := w) (P := (setE ⟨some ad, fn, fc, fs, some ae, dn, dc, ds, en, cs⟩ z)) (HPF.out.1) HRB.out HBB.out HPF.out.2 HKP.out HKS.out (fn := fn) (dn := dn) ⟨rfl, rfl⟩ (.slice (some ad) fn fc) (.slice (some ae) dn dc) (.int .i64 z))
        go_wp2_with fail
        refine bodyPost_ret (v := .agg #[.slice (some ad) fn fc, .slice (some ae) dn dc, .int .i64 z]) (by simp [results, Tryz.results12, go_sem, HEND.out.1.1, HEND.out.1.2.1, HEND.out.1.2.2]) rfl ?_
        exact HEND.out.2.drew.drew
      ·have dxd : ¬ (a : Int) < (dn : Int) := by omega
       have k1 : (0 : Int) ≤ (a : Int) := by omega
       have k2 : ¬ (a : Int) < (dn : Int) := by omega
       refine wp_region_noPanic ?_
       refine wp_region_held_drew (S := fun W => W.cell? ⟨w.heap.size, 0, none⟩ = some (.slice (some ad) fn fc) ∧ W.cell? ⟨w.heap.size, 1, none⟩ = some (.slice dA dn dc) ∧ W.cell? ⟨w.heap.size + 1, 0, none⟩ = some (.int .i64 (a : Int)) ∧ W.cell? ⟨w.heap.size + 1, 1, none⟩ = some (.int .i64 (b : Int))) (by kernel_rfl) (⟨HC0.out, HC1.out, HC3.out, HC4.out⟩) (fun hHeld => ?_)
       refine tk8Z 0 1 2 3 4 5 6 7 hHeld ?_
       refine tk4Z 8 9 10 11 hHeld ?_
       refine tf3Z 12 13 14 hHeld ?_
       refine tk2Z 15 16 hHeld ?_
       refine tf8Z 17 18 19 20 21 22 23 24 hHeld ?_
       refine tf3Z 25 26 27 hHeld ?_
       refine tk1Z 28 hHeld ?_
       refine wpAnyH_done (by kernel_rfl) ?_ _
       refine NoPanic.normal ?_
       clear hHeld
       have b2 : W0.cell? ⟨w.heap.size, 2, none⟩ = some (.int .i64 en) := HPB.out.cell 2
       have r9 := HPB.out.frozen 2
       obtain ⟨wB, hwB⟩ : ∃ x, W0.setCell ⟨w.heap.size, 2, none⟩ (.int .i64 z) = x := ⟨_, rfl⟩
       have HPF := Hd (show PgL wB B (setE ⟨some ad, fn, fc, fs, dA, dn, dc, ds, en, cs⟩ z) ∧ Below B w wB from by rw [← hwB]; exact ⟨((HPL.out W0 HB0.out).cell2 HPB.out HBB0.out 2 _).setE z, far_below (HB0.out.mono HBB0.out) HBB0.out⟩)
       have HRB := Hd (show Blk wB (w.heap.size + 1 + 1) 29 #[.slice none 0 0, .slice none 0 0, .int .i64 0] from by rw [← hwB]; exact far_blk HRB.out (by omega))
       have HKP := Hd (show ∀ b t vs, Blk w b t vs → t ≠ 3 → Blk wB b t vs from fun b t vs h9 ht => by have hl9 := h9.lt; rw [← hwB]; exact far_blk (HKP.out b t vs h9 ht) (by omega))
       have HKS := Hd (show w.heap.size ≤ wB.heap.size from by rw [← hwB]; simp [World.setCell]; exact HKS.out)
       have HPB := Hd (show Blk wB w.heap.size 29 #[.slice (some ad) fn fc, .slice dA dn dc, .int .i64 z] from by rw [← hwB]; exact HPB.out.stored 2 (.int .i64 z))
       have b0 : wB.cell? ⟨w.heap.size, 0, none⟩ = some (.slice (some ad) fn fc) := HPB.out.cell 0
       have b1 : wB.cell? ⟨w.heap.size, 1, none⟩ = some (.slice dA dn dc) := HPB.out.cell 1
       have b2 : wB.cell? ⟨w.heap.size, 2, none⟩ = some (.int .i64 z) := HPB.out.cell 2
       have s0 : wB.cell? ⟨w.heap.size + 1 + 1, 0, none⟩ = some (.slice none 0 0) := HRB.out.cell 0
       have s1 : wB.cell? ⟨w.heap.size + 1 + 1, 1, none⟩ = some (.slice none 0 0) := HRB.out.cell 1
       have s2 : wB.cell? ⟨w.heap.size + 1 + 1, 2, none⟩ = some (.int .i64 0) := HRB.out.cell 2
       have r0 := HRB.out.frozen 0
       have r1 := HRB.out.frozen 1
       have r2 := HRB.out.frozen 2
       have HEND := Hd (spoil_end (w := w) (P := (setE ⟨some ad, fn, fc, fs, dA, dn, dc, ds, en, cs⟩ z)) (HPF.out.1) HRB.out HBB.out HPF.out.2 HKP.out HKS.out (fn := fn) (dn := dn) ⟨rfl, rfl⟩ (.slice (some ad) fn fc) (.slice dA dn dc) (.int .i64 z))
       go_wp2_with fail
       refine bodyPost_ret (v := .agg #[.slice (some ad) fn fc, .slice dA dn dc, .int .i64 z]) (by simp [results, Tryz.results12, go_sem, HEND.out.1.1, HEND.out.1.2.1, HEND.out.1.2.2]) rfl ?_
       exact HEND.out.2.drew.drew
   ·have dxf : ¬ (a : Int) < (fn : Int) := by omega
    have k1 : (0 : Int) ≤ (a : Int) := by omega
    have k2 : ¬ (a : Int) < (fn : Int) := by omega
    refine wp_region_noPanic ?_
    refine wp_region_held_drew (S := fun W => W.cell? ⟨w.heap.size, 0, none⟩ = some (.slice fA fn fc) ∧ W.cell? ⟨w.heap.size, 1, none⟩ = some (.slice dA dn dc) ∧ W.cell? ⟨w.heap.size + 1, 0, none⟩ = some (.int .i64 (a : Int)) ∧ W.cell? ⟨w.heap.size + 1, 1, none⟩ = some (.int .i64 y)) (by kernel_rfl) (⟨HC0.out, HC1.out, HC3.out, HC4.out⟩) (fun hHeld => ?_)
    refine tk8Z 0 1 2 3 4 5 6 7 hHeld ?_
    refine tk4Z 8 9 10 11 hHeld ?_
    refine tf3Z 12 13 14 hHeld ?_
    refine tk2Z 15 16 hHeld ?_
    refine tf8Z 17 18 19 20 21 22 23 24 hHeld ?_
    refine tf3Z 25 26 27 hHeld ?_
    refine tk1Z 28 hHeld ?_
    refine wpAnyH_done (by kernel_rfl) ?_ _
    refine NoPanic.normal ?_
    clear hHeld
    go_wp2_with fail
    by_cases hxd : a < dn
    ·have dxd : (a : Int) < (dn : Int) := by omega
     by_cases hyn : y < 0
     ·have dyn : ¬ (0 : Int) ≤ y := by omega
      have k1 : (0 : Int) ≤ (a : Int) := by omega
      have k2 : (a : Int) < (dn : Int) := by omega
      have k3 : ¬ (0 : Int) ≤ y := by omega
      refine wp_region_noPanic ?_
      refine wp_region_held_drew (S := fun W => W.cell? ⟨w.heap.size, 0, none⟩ = some (.slice fA fn fc) ∧ W.cell? ⟨w.heap.size, 1, none⟩ = some (.slice dA dn dc) ∧ W.cell? ⟨w.heap.size + 1, 0, none⟩ = some (.int .i64 (a : Int)) ∧ W.cell? ⟨w.heap.size + 1, 1, none⟩ = some (.int .i64 y)) (by kernel_rfl) (⟨HC0.out, HC1.out, HC3.out, HC4.out⟩) (fun hHeld => ?_)
      refine tk8Z 0 1 2 3 4 5 6 7 hHeld ?_
      refine tk8Z 8 9 10 11 12 13 14 15 hHeld ?_
      refine tk1Z 16 hHeld ?_
      refine tf8Z 17 18 19 20 21 22 23 24 hHeld ?_
      refine tf3Z 25 26 27 hHeld ?_
      refine tk1Z 28 hHeld ?_
      refine wpAnyH_done (by kernel_rfl) ?_ _
      refine NoPanic.normal ?_
      clear hHeld
      have b2 : W0.cell? ⟨w.heap.size, 2, none⟩ = some (.int .i64 en) := HPB.out.cell 2
      have r9 := HPB.out.frozen 2
      obtain ⟨wB, hwB⟩ : ∃ x, W0.setCell ⟨w.heap.size, 2, none⟩ (.int .i64 z) = x := ⟨_, rfl⟩
      have HPF := Hd (show PgL wB B (setE ⟨fA, fn, fc, fs, dA, dn, dc, ds, en, cs⟩ z) ∧ Below B w wB from by rw [← hwB]; exact ⟨((HPL.out W0 HB0.out).cell2 HPB.out HBB0.out 2 _).setE z, far_below (HB0.out.mono HBB0.out) HBB0.out⟩)
      have HRB := Hd (show Blk wB (w.heap.size + 1 + 1) 29 #[.slice none 0 0, .slice none 0 0, .int .i64 0] from by rw [← hwB]; exact far_blk HRB.out (by omega))
      have HKP := Hd (show ∀ b t vs, Blk w b t vs → t ≠ 3 → Blk wB b t vs from fun b t vs h9 ht => by have hl9 := h9.lt; rw [← hwB]; exact far_blk (HKP.out b t vs h9 ht) (by omega))
      have HKS := Hd (show w.heap.size ≤ wB.heap.size from by rw [← hwB]; simp [World.setCell]; exact HKS.out)
      have HPB := Hd (show Blk wB w.heap.size 29 #[.slice fA fn fc, .slice dA dn dc, .int .i64 z] from by rw [← hwB]; exact HPB.out.stored 2 (.int .i64 z))
      have b0 : wB.cell? ⟨w.heap.size, 0, none⟩ = some (.slice fA fn fc) := HPB.out.cell 0
      have b1 : wB.cell? ⟨w.heap.size, 1, none⟩ = some (.slice dA dn dc) := HPB.out.cell 1
      have b2 : wB.cell? ⟨w.heap.size, 2, none⟩ = some (.int .i64 z) := HPB.out.cell 2
      have s0 : wB.cell? ⟨w.heap.size + 1 + 1, 0, none⟩ = some (.slice none 0 0) := HRB.out.cell 0
      have s1 : wB.cell? ⟨w.heap.size + 1 + 1, 1, none⟩ = some (.slice none 0 0) := HRB.out.cell 1
      have s2 : wB.cell? ⟨w.heap.size + 1 + 1, 2, none⟩ = some (.int .i64 0) := HRB.out.cell 2
      have r0 := HRB.out.frozen 0
      have r1 := HRB.out.frozen 1
      have r2 := HRB.out.frozen 2
      have HEND := Hd (spoil_end (w := w) (P := (setE ⟨fA, fn, fc, fs, dA, dn, dc, ds, en, cs⟩ z)) (HPF.out.1) HRB.out HBB.out HPF.out.2 HKP.out HKS.out (fn := fn) (dn := dn) ⟨rfl, rfl⟩ (.slice fA fn fc) (.slice dA dn dc) (.int .i64 z))
      go_wp2_with fail
      refine bodyPost_ret (v := .agg #[.slice fA fn fc, .slice dA dn dc, .int .i64 z]) (by simp [results, Tryz.results12, go_sem, HEND.out.1.1, HEND.out.1.2.1, HEND.out.1.2.2]) rfl ?_
      exact HEND.out.2.drew.drew
     ·obtain ⟨b, rfl⟩ := Int.eq_ofNat_of_zero_le (show 0 ≤ y by omega)
      have dyn : (0 : Int) ≤ (b : Int) := by omega
      obtain ⟨ad, hda, hz9, -, hfc⟩ := HGD.out W0 HB0.out a hxd
      subst hda
      have hle := HLD.out a hxd
      have hlm := HLM.out.2 a hxd
      obtain ⟨R, hR⟩ : ∃ R, (gdAt ds a).R = R := ⟨_, rfl⟩
      obtain ⟨qA, qn, qc⟩ := R
      have HQE := Hd hR
      have HQ := Hd (show W0.cell? ⟨(ad.add (a * 7)).block, (ad.add (a * 7)).off + 6, none⟩ = some (.slice qA qn qc) from by have := hfc 5 _ rfl; rw [hR] at this; exact this)
      rw [hR] at hle hlm
      dsimp only at hle hlm
      clear hfc hz9 hR
      by_cases hbl : b < (gdAt ds a).refs.length
      ·have dyl : (b : Int) < (qn : Int) := by omega
       have hlt := hxd
       have k1 : (0 : Int) ≤ (a : Int) := by omega
       have k2 : (a : Int) < (dn : Int) := by omega
       have k3 : (0 : Int) ≤ (b : Int) := by omega
       have k4 : (b : Int) < (qn : Int) := by omega
       refine wp_region_noPanic ?_
       refine wp_region_held_drew (S := fun W => W.cell? ⟨w.heap.size, 0, none⟩ = some (.slice fA fn fc) ∧ W.cell? ⟨w.heap.size, 1, none⟩ = some (.slice (some ad) dn dc) ∧ W.cell? ⟨w.heap.size + 1, 0, none⟩ = some (.int .i64 (a : Int)) ∧ W.cell? ⟨w.heap.size + 1, 1, none⟩ = some (.int .i64 (b : Int)) ∧ W.cell? ⟨(ad.add (a * 7)).block, (ad.add (a * 7)).off + 6, none⟩ = some (.slice qA qn qc)) (by kernel_rfl) (⟨HC0.out, HC1.out, HC3.out, HC4.out, HQ.out⟩) (fun hHeld => ?_)
       refine tk8Z 0 1 2 3 4 5 6 7 hHeld ?_
       refine tk8Z 8 9 10 11 12 13 14 15 hHeld ?_
       refine tk8Z 16 17 18 19 20 21 22 23 hHeld ?_
       refine tk5Z 24 25 26 27 28 hHeld ?_
       refine wpAnyH_done (by kernel_rfl) ?_ _
       refine NoPanic.normal ?_
       clear hHeld
       go_wp2_with fail
       obtain ⟨g, e1, k1, -⟩ := HSTD.out w (Below.refl _ _) a hlt b hbl
       have HGL := Hd (World.block_lt_of_cell? w _ k1)
       obtain ⟨g2, e2, j1, j2, j5, j6, j3, j4⟩ := HSTD.out W0 HB0.out a hlt b hbl
       have e3 : g2 = g := by rw [e1] at e2; injection e2 with e2; injection e2 with e2; exact e2.symm
       subst e3
       have HQ := Hd (show W0.cell? ⟨(ad.add (a * 7)).block, (ad.add (a * 7)).off + 6, none⟩ = some (.slice (some ⟨g2, 0, none⟩) qn qc) from by rw [HQ.out]; rw [HQE.out] at e1; dsimp only at e1; rw [e1])
       have eqA : qA = some ⟨g2, 0, none⟩ := by rw [HQE.out] at e1; exact e1
       subst eqA
       obtain ⟨old, hold⟩ : ∃ old, (gdAt ds a).refs.getD b 0 = old := ⟨_, rfl⟩
       have HG1 := Hd (show W0.cell? ⟨g2, b, none⟩ = some (.int .i64 old) from by rw [← hold]; exact j1)
       have HG2 := Hd j2
       have HG3 := Hd j3
       have HG4 := Hd j4
       have HG5 := Hd (j5 ad rfl)
       have HG6 := Hd j6
       clear e1 e2 k1 j1 j2 j3 j4 j5 j6 hold
       obtain ⟨g, hg⟩ : ∃ g, g = g2 := ⟨_, rfl⟩
       subst hg
       refine wp_region_noPanic ?_
       refine wp_region_held_drew (S := fun W => W.cell? ⟨w.heap.size, 0, none⟩ = some (.slice fA fn fc) ∧ W.cell? ⟨w.heap.size, 1, none⟩ = some (.slice (some ad) dn dc) ∧ W.cell? ⟨w.heap.size + 1, 0, none⟩ = some (.int .i64 (a : Int)) ∧ W.cell? ⟨w.heap.size + 1, 1, none⟩ = some (.int .i64 (b : Int)) ∧ W.cell? ⟨(ad.add (a * 7)).block, (ad.add (a * 7)).off + 6, none⟩ = some (.slice (some ⟨g, 0, none⟩) qn qc)) (by kernel_rfl) (⟨HC0.out, HC1.out, HC3.out, HC4.out, HQ.out⟩) (fun hHeld => ?_)
       refine tk8Z 0 1 2 3 4 5 6 7 hHeld ?_
       refine tk3Z 8 9 10 hHeld ?_
       have q1 : W0.cell? ⟨g, b, none⟩ = some (.int .i64 old) := HG1.out
       have q2 : W0.frozen? ⟨g, b, none⟩ = false := HG2.out
       obtain ⟨wB, hwB⟩ : ∃ x, W0.setCell ⟨g, b, none⟩ (.int .i64 z) = x := ⟨_, rfl⟩
       have HWB := Hd hwB
       refine rd1Z 11 (fun K hK => ?_)
       go_simp
       try go_wp2_with fail
       refine hK.out _ _ (by first | exact ⟨far_cell hHeld.1 (by have := HGL.out; omega), far_cell hHeld.2.1 (by have := HGL.out; omega), far_cell hHeld.2.2.1 (by have := HGL.out; omega), far_cell hHeld.2.2.2.1 (by have := HGL.out; omega), far_cell hHeld.2.2.2.2 (by rw [add_block]; exact HG5.out)⟩ | (rw [← HWB.out]; exact ⟨far_cell hHeld.1 (by have := HGL.out; omega), far_cell hHeld.2.1 (by have := HGL.out; omega), far_cell hHeld.2.2.1 (by have := HGL.out; omega), far_cell hHeld.2.2.2.1 (by have := HGL.out; omega), far_cell hHeld.2.2.2.2 (by rw [add_block]; exact HG5.out)⟩)) ?_
       clear hK K hHeld q1 q2
       intro hHeld
       try simp only [Act.put, nmZ]
       refine wpAnyH_done (by kernel_rfl) ?_ _
       refine NoPanic.normal ?_
       clear hHeld
       have HPB := Hd (show Blk wB w.heap.size 29 #[.slice fA fn fc, .slice (some ad) dn dc, .int .i64 en] from by rw [← HWB.out]; exact far_blk HPB.out (by have := HGL.out; omega))
       have HRB := Hd (show Blk wB (w.heap.size + 1 + 1) 29 #[.slice none 0 0, .slice none 0 0, .int .i64 0] from by rw [← HWB.out]; exact far_blk HRB.out (by have := HGL.out; omega))
       have HPF := Hd (show PgL wB B (setD ⟨fA, fn, fc, fs, some ad, dn, dc, ds, en, cs⟩ a b z) ∧ Below B w wB from by rw [← HWB.out]; exact ⟨HG4.out, (HB0.out.mono HBB0.out).trans HG3.out⟩)
       have HKP := Hd (show ∀ b t vs, Blk w b t vs → t ≠ 3 → Blk wB b t vs from fun b t vs h9 ht => by rw [← HWB.out]; exact far_blk (HKP.out b t vs h9 ht) (HG6.out b t vs (HKP.out b t vs h9 ht) ht))
       have HKS := Hd (show w.heap.size ≤ wB.heap.size from by rw [← HWB.out]; simp [World.setCell]; exact HKS.out)
       clear hwB
       have b0 : wB.cell? ⟨w.heap.size, 0, none⟩ = some (.slice fA fn fc) := HPB.out.cell 0
       have b1 : wB.cell? ⟨w.heap.size, 1, none⟩ = some (.slice (some ad) dn dc) := HPB.out.cell 1
       have b2 : wB.cell? ⟨w.heap.size, 2, none⟩ = some (.int .i64 en) := HPB.out.cell 2
       have s0 : wB.cell? ⟨w.heap.size + 1 + 1, 0, none⟩ = some (.slice none 0 0) := HRB.out.cell 0
       have s1 : wB.cell? ⟨w.heap.size + 1 + 1, 1, none⟩ = some (.slice none 0 0) := HRB.out.cell 1
       have s2 : wB.cell? ⟨w.heap.size + 1 + 1, 2, none⟩ = some (.int .i64 0) := HRB.out.cell 2
       have r0 := HRB.out.frozen 0
       have r1 := HRB.out.frozen 1
       have r2 := HRB.out.frozen 2
       have HEND := Hd (spoil_end (w := w) (P := (setD ⟨fA, fn, fc, fs, some ad, dn, dc, ds, en, cs⟩ a b z)) (HPF.out.1) HRB.out HBB.out HPF.out.2 HKP.out HKS.out (fn := fn) (dn := dn) ⟨rfl, rfl⟩ (.slice fA fn fc) (.slice (some ad) dn dc) (.int .i64 en))
       go_wp2_with fail
       refine bodyPost_ret (v := .agg #[.slice fA fn fc, .slice (some ad) dn dc, .int .i64 en]) (by simp [results, Tryz.results12, go_sem, HEND.out.1.1, HEND.out.1.2.1, HEND.out.1.2.2]) rfl ?_
       exact HEND.out.2.drew.drew.drew
      ·have dyl : ¬ (b : Int) < (qn : Int) := by omega
       have k1 : (0 : Int) ≤ (a : Int) := by omega
       have k2 : (a : Int) < (dn : Int) := by omega
       have k3 : (0 : Int) ≤ (b : Int) := by omega
       have k4 : ¬ (b : Int) < (qn : Int) := by omega
       refine wp_region_noPanic ?_
       refine wp_region_held_drew (S := fun W => W.cell? ⟨w.heap.size, 0, none⟩ = some (.slice fA fn fc) ∧ W.cell? ⟨w.heap.size, 1, none⟩ = some (.slice (some ad) dn dc) ∧ W.cell? ⟨w.heap.size + 1, 0, none⟩ = some (.int .i64 (a : Int)) ∧ W.cell? ⟨w.heap.size + 1, 1, none⟩ = some (.int .i64 (b : Int)) ∧ W.cell? ⟨(ad.add (a * 7)).block, (ad.add (a * 7)).off + 6, none⟩ = some (.slice qA qn qc)) (by kernel_rfl) (⟨HC0.out, HC1.out, HC3.out, HC4.out, HQ.out⟩) (fun hHeld => ?_)
       refine tk8Z 0 1 2 3 4 5 6 7 hHeld ?_
       refine tk8Z 8 9 10 11 12 13 14 15 hHeld ?_
       refine tk8Z 16 17 18 19 20 21 22 23 hHeld ?_
       refine tk5Z 24 25 26 27 28 hHeld ?_
       refine wpAnyH_done (by kernel_rfl) ?_ _
       refine NoPanic.normal ?_
       clear hHeld
       have b2 : W0.cell? ⟨w.heap.size, 2, none⟩ = some (.int .i64 en) := HPB.out.cell 2
       have r9 := HPB.out.frozen 2
       obtain ⟨wB, hwB⟩ : ∃ x, W0.setCell ⟨w.heap.size, 2, none⟩ (.int .i64 z) = x := ⟨_, rfl⟩
       have HPF := Hd (show PgL wB B (setE ⟨fA, fn, fc, fs, some ad, dn, dc, ds, en, cs⟩ z) ∧ Below B w wB from by rw [← hwB]; exact ⟨((HPL.out W0 HB0.out).cell2 HPB.out HBB0.out 2 _).setE z, far_below (HB0.out.mono HBB0.out) HBB0.out⟩)
       have HRB := Hd (show Blk wB (w.heap.size + 1 + 1) 29 #[.slice none 0 0, .slice none 0 0, .int .i64 0] from by rw [← hwB]; exact far_blk HRB.out (by omega))
       have HKP := Hd (show ∀ b t vs, Blk w b t vs → t ≠ 3 → Blk wB b t vs from fun b t vs h9 ht => by have hl9 := h9.lt; rw [← hwB]; exact far_blk (HKP.out b t vs h9 ht) (by omega))
       have HKS := Hd (show w.heap.size ≤ wB.heap.size from by rw [← hwB]; simp [World.setCell]; exact HKS.out)
       have HPB := Hd (show Blk wB w.heap.size 29 #[.slice fA fn fc, .slice (some ad) dn dc, .int .i64 z] from by rw [← hwB]; exact HPB.out.stored 2 (.int .i64 z))
       have b0 : wB.cell? ⟨w.heap.size, 0, none⟩ = some (.slice fA fn fc) := HPB.out.cell 0
       have b1 : wB.cell? ⟨w.heap.size, 1, none⟩ = some (.slice (some ad) dn dc) := HPB.out.cell 1
       have b2 : wB.cell? ⟨w.heap.size, 2, none⟩ = some (.int .i64 z) := HPB.out.cell 2
       have s0 : wB.cell? ⟨w.heap.size + 1 + 1, 0, none⟩ = some (.slice none 0 0) := HRB.out.cell 0
       have s1 : wB.cell? ⟨w.heap.size + 1 + 1, 1, none⟩ = some (.slice none 0 0) := HRB.out.cell 1
       have s2 : wB.cell? ⟨w.heap.size + 1 + 1, 2, none⟩ = some (.int .i64 0) := HRB.out.cell 2
       have r0 := HRB.out.frozen 0
       have r1 := HRB.out.frozen 1
       have r2 := HRB.out.frozen 2
       have HEND := Hd (spoil_end (w := w) (P := (setE ⟨fA, fn, fc, fs, some ad, dn, dc, ds, en, cs⟩ z)) (HPF.out.1) HRB.out HBB.out HPF.out.2 HKP.out HKS.out (fn := fn) (dn := dn) ⟨rfl, rfl⟩ (.slice fA fn fc) (.slice (some ad) dn dc) (.int .i64 z))
       go_wp2_with fail
       refine bodyPost_ret (v := .agg #[.slice fA fn fc, .slice (some ad) dn dc, .int .i64 z]) (by simp [results, Tryz.results12, go_sem, HEND.out.1.1, HEND.out.1.2.1, HEND.out.1.2.2]) rfl ?_
       exact HEND.out.2.drew.drew
    ·have dxd : ¬ (a : Int) < (dn : Int) := by omega
     have k1 : (0 : Int) ≤ (a : Int) := by omega
     have k2 : ¬ (a : Int) < (dn : Int) := by omega
     refine wp_region_noPanic ?_
     refine wp_region_held_drew (S := fun W => W.cell? ⟨w.heap.size, 0, none⟩ = some (.slice fA fn fc) ∧ W.cell? ⟨w.heap.size, 1, none⟩ = some (.slice dA dn dc) ∧ W.cell? ⟨w.heap.size + 1, 0, none⟩ = some (.int .i64 (a : Int)) ∧ W.cell? ⟨w.heap.size + 1, 1, none⟩ = some (.int .i64 y)) (by kernel_rfl) (⟨HC0.out, HC1.out, HC3.out, HC4.out⟩) (fun hHeld => ?_)
     refine tk8Z 0 1 2 3 4 5 6 7 hHeld ?_
     refine tk4Z 8 9 10 11 hHeld ?_
     refine tf3Z 12 13 14 hHeld ?_
     refine tk2Z 15 16 hHeld ?_
     refine tf8Z 17 18 19 20 21 22 23 24 hHeld ?_
     refine tf3Z 25 26 27 hHeld ?_
     refine tk1Z 28 hHeld ?_
     refine wpAnyH_done (by kernel_rfl) ?_ _
     refine NoPanic.normal ?_
     clear hHeld
     have b2 : W0.cell? ⟨w.heap.size, 2, none⟩ = some (.int .i64 en) := HPB.out.cell 2
     have r9 := HPB.out.frozen 2
     obtain ⟨wB, hwB⟩ : ∃ x, W0.setCell ⟨w.heap.size, 2, none⟩ (.int .i64 z) = x := ⟨_, rfl⟩
     have HPF := Hd (show PgL wB B (setE ⟨fA, fn, fc, fs, dA, dn, dc, ds, en, cs⟩ z) ∧ Below B w wB from by rw [← hwB]; exact ⟨((HPL.out W0 HB0.out).cell2 HPB.out HBB0.out 2 _).setE z, far_below (HB0.out.mono HBB0.out) HBB0.out⟩)
     have HRB := Hd (show Blk wB (w.heap.size + 1 + 1) 29 #[.slice none 0 0, .slice none 0 0, .int .i64 0] from by rw [← hwB]; exact far_blk HRB.out (by omega))
     have HKP := Hd (show ∀ b t vs, Blk w b t vs → t ≠ 3 → Blk wB b t vs from fun b t vs h9 ht => by have hl9 := h9.lt; rw [← hwB]; exact far_blk (HKP.out b t vs h9 ht) (by omega))
     have HKS := Hd (show w.heap.size ≤ wB.heap.size from by rw [← hwB]; simp [World.setCell]; exact HKS.out)
     have HPB := Hd (show Blk wB w.heap.size 29 #[.slice fA fn fc, .slice dA dn dc, .int .i64 z] from by rw [← hwB]; exact HPB.out.stored 2 (.int .i64 z))
     have b0 : wB.cell? ⟨w.heap.size, 0, none⟩ = some (.slice fA fn fc) := HPB.out.cell 0
     have b1 : wB.cell? ⟨w.heap.size, 1, none⟩ = some (.slice dA dn dc) := HPB.out.cell 1
     have b2 : wB.cell? ⟨w.heap.size, 2, none⟩ = some (.int .i64 z) := HPB.out.cell 2
     have s0 : wB.cell? ⟨w.heap.size + 1 + 1, 0, none⟩ = some (.slice none 0 0) := HRB.out.cell 0
     have s1 : wB.cell? ⟨w.heap.size + 1 + 1, 1, none⟩ = some (.slice none 0 0) := HRB.out.cell 1
     have s2 : wB.cell? ⟨w.heap.size + 1 + 1, 2, none⟩ = some (.int .i64 0) := HRB.out.cell 2
     have r0 := HRB.out.frozen 0
     have r1 := HRB.out.frozen 1
     have r2 := HRB.out.frozen 2
     have HEND := Hd (spoil_end (w := w) (P := (setE ⟨fA, fn, fc, fs, dA, dn, dc, ds, en, cs⟩ z)) (HPF.out.1) HRB.out HBB.out HPF.out.2 HKP.out HKS.out (fn := fn) (dn := dn) ⟨rfl, rfl⟩ (.slice fA fn fc) (.slice dA dn dc) (.int .i64 z))
     go_wp2_with fail
     refine bodyPost_ret (v := .agg #[.slice fA fn fc, .slice dA dn dc, .int .i64 z]) (by simp [results, Tryz.results12, go_sem, HEND.out.1.1, HEND.out.1.2.1, HEND.out.1.2.2]) rfl ?_
     exact HEND.out.2.drew.drew
end Go.Proofs.YtdaimeaofgbfpaaGreat.Bo
