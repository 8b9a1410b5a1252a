/-
  WALK of layer 16: Check.
-/
import Derived.Test.YtbknmapkdjmcjaaGreatDoorJm
import Derived.Laws.EntriesVeiled
namespace Go.Proofs.YtbknmapkdjmcjaaGreatDoor.By
open Go.RowKit
open Mem Gm Rf
set_option linter.unusedSimpArgs false
set_option linter.unusedVariables false

theorem blk5 {w : World} {g : Nat} {t : TypeId} {x0 x1 x2 x3 x4 : Value} (h : Blk w g t #[x0, x1, x2, x3, x4]) : w.cell? ⟨g, 0, none⟩ = some x0 ∧ w.cell? ⟨g, 1, none⟩ = some x1 ∧ w.cell? ⟨g, 2, none⟩ = some x2 ∧ w.cell? ⟨g, 3, none⟩ = some x3 ∧ w.cell? ⟨g, 4, none⟩ = some x4 :=
  ⟨h.cell 0, h.cell 1, h.cell 2, h.cell 3, h.cell 4⟩

set_option maxRecDepth 100000 in
set_option maxHeartbeats 8000000 in
theorem chkF_any (w : World) (AK AL AC AR : Option Addr) (nK cK nL cL nC cC nR cR : Nat) (x : Fn) (hF : FnW w AK nK cK AL nL cL AC nC cC AR nR cR x) (hT : TX3 w) (hnn : nK ≤ 1000000 ∧ nL ≤ 1000000 ∧ nC ≤ 1000000 ∧ nR ≤ 1000000) :
    Calls Tryz.prog 16 #[.agg #[.int .i64 x.k, .slice AK nK cK, .int .i64 x.pd, .bool x.ns, .int .i64 x.f, .int .i64 x.t, .slice AL nL cL, .slice AC nC cC, .slice AR nR cR]] w (CAns w (chF x)) := by
  obtain ⟨k0, ks, pd, ns, f0, t0, ls, cs, rs⟩ := x
  dsimp only
  obtain ⟨W1, hW1⟩ : ∃ W1, (w.alloc (.cells #[.int .i64 k0, .slice AK nK cK, .int .i64 pd, .bool ns, .int .i64 f0, .int .i64 t0, .slice AL nL cL, .slice AC nC cC, .slice AR nR cR] 27)).alloc (.cells #[.func (.func 58) #[] #[], .func (.func 59) #[] #[], .func (.func 60) #[] #[], .func (.func 61) #[] #[], .func (.func 62) #[] #[]] 31) = W1 := ⟨_, rfl⟩
  have hsz1 : w.heap.size + 1 < W1.heap.size := by rw [← hW1]; simp
  have HB0 := Lib.hid (show Below w.heap.size w W1 by rw [← hW1]; exact to_ (alloc_ _ _) (alloc_ _ _))
  have HX := Lib.hid (show ∀ W, Below W1.heap.size W1 W → Blk W w.heap.size 27 #[.int .i64 k0, .slice AK nK cK, .int .i64 pd, .bool ns, .int .i64 f0, .int .i64 t0, .slice AL nL cL, .slice AC nC cC, .slice AR nR cR] from fun W hb => (hb.block _ (by omega)).trans (by rw [← hW1]; exact (Blk.new w _ _).alloc _))
  have HY := Lib.hid (show ∀ W, Below W1.heap.size W1 W → Blk W (w.heap.size + 1) 31 #[.func (.func 58) #[] #[], .func (.func 59) #[] #[], .func (.func 60) #[] #[], .func (.func 61) #[] #[], .func (.func 62) #[] #[]] from fun W hb => (hb.block _ hsz1).trans (by rw [← hW1]; have := Blk.new (w.alloc (.cells #[.int .i64 k0, .slice AK nK cK, .int .i64 pd, .bool ns, .int .i64 f0, .int .i64 t0, .slice AL nL cL, .slice AC nC cC, .slice AR nR cR] 27)) 31 #[.func (.func 58) #[] #[], .func (.func 59) #[] #[], .func (.func 60) #[] #[], .func (.func 61) #[] #[], .func (.func 62) #[] #[]]; rwa [World.size_alloc] at this))
  have H0 := Lib.hid (fun W (hb : Below W1.heap.size W1 W) => chkFrame_any W AK AL AC AR nK cK nL cL nC cC nR cR ⟨k0, ks, pd, ns, f0, t0, ls, cs, rs⟩ (hF.on (to_ HB0.out hb)) (hT.on (to_ HB0.out hb)) hnn)
  have H1 := Lib.hid (fun W (hb : Below W1.heap.size W1 W) => chkCode_any W AK AL AC AR nK cK nL cL nC cC nR cR ⟨k0, ks, pd, ns, f0, t0, ls, cs, rs⟩ (hF.on (to_ HB0.out hb)) (hT.on (to_ HB0.out hb)) hnn)
  have H2 := Lib.hid (fun W (hb : Below W1.heap.size W1 W) => chkRange_any W AK AL AC AR nK cK nL cL nC cC nR cR ⟨k0, ks, pd, ns, f0, t0, ls, cs, rs⟩ (hF.on (to_ HB0.out hb)) (hT.on (to_ HB0.out hb)) hnn)
  have H3 := Lib.hid (fun W (hb : Below W1.heap.size W1 W) => chkLines_any W AK AL AC AR nK cK nL cL nC cC nR cR ⟨k0, ks, pd, ns, f0, t0, ls, cs, rs⟩ (hF.on (to_ HB0.out hb)) (hT.on (to_ HB0.out hb)) hnn)
  have H4 := Lib.hid (fun W (hb : Below W1.heap.size W1 W) => chkRefs_any W AK AL AC AR nK cK nL cL nC cC nR cR ⟨k0, ks, pd, ns, f0, t0, ls, cs, rs⟩ (hF.on (to_ HB0.out hb)) (hT.on (to_ HB0.out hb)) hnn)
  have HV := Lib.hid (show chF ⟨k0, ks, pd, ns, f0, t0, ls, cs, rs⟩ = firN [frV ⟨k0, ks, pd, ns, f0, t0, ls, cs, rs⟩, cdV ⟨k0, ks, pd, ns, f0, t0, ls, cs, rs⟩, rgV ⟨k0, ks, pd, ns, f0, t0, ls, cs, rs⟩, lnV9 ⟨k0, ks, pd, ns, f0, t0, ls, cs, rs⟩, rfV9 ⟨k0, ks, pd, ns, f0, t0, ls, cs, rs⟩] from rfl)
  rw [HV.out]
  generalize frV ⟨k0, ks, pd, ns, f0, t0, ls, cs, rs⟩ = r0 at H0 ⊢
  generalize cdV ⟨k0, ks, pd, ns, f0, t0, ls, cs, rs⟩ = r1 at H1 ⊢
  generalize rgV ⟨k0, ks, pd, ns, f0, t0, ls, cs, rs⟩ = r2 at H2 ⊢
  generalize lnV9 ⟨k0, ks, pd, ns, f0, t0, ls, cs, rs⟩ = r3 at H3 ⊢
  generalize rfV9 ⟨k0, ks, pd, ns, f0, t0, ls, cs, rs⟩ = r4 at H4 ⊢
  dsimp only at H0 H1 H2 H3 H4
  clear HV hF hT hnn hsz1
  obtain ⟨c0, c1, c2, c3, c4, c5, c6, c7, c8⟩ := blk9 (HX.out W1 (Below.refl _ _))
  obtain ⟨g0, g1, g2, g3, g4⟩ := blk5 (HY.out W1 (Below.refl _ _))
  by_cases hz : r0 = 0
  · subst hz
    by_cases hz : r1 = 0
    · subst hz
      by_cases hz : r2 = 0
      · subst hz
        by_cases hz : r3 = 0
        · subst hz
          by_cases hz : r4 = 0
          · subst hz
            go_enter Tryz.func16, Tryz.ntmps16
            go_wp2_with fail
            clear hW1
            refine wp_loop_rounds 6 ?_
            rw [rounds_succ]
            go_wp2_with (go_at_call 58; refine (H0.out W1 (Below.refl _ _)).mono ?_; rintro e w0x ⟨rfl, b⟩; have HB0x := Lib.hid (show Below W1.heap.size W1 w0x from b); clear b c0 c1 c2 c3 c4 c5 c6 c7 c8 g0 g1 g2 g3 g4; obtain ⟨c0, c1, c2, c3, c4, c5, c6, c7, c8⟩ := blk9 (HX.out w0x HB0x.out); obtain ⟨g0, g1, g2, g3, g4⟩ := blk5 (HY.out w0x HB0x.out))
            rw [rounds_succ]
            go_wp2_with (go_at_call 59; refine (H1.out w0x HB0x.out).mono ?_; rintro e w1x ⟨rfl, b⟩; have HB1x := Lib.hid (show Below W1.heap.size W1 w1x from to_ HB0x.out b); clear b c0 c1 c2 c3 c4 c5 c6 c7 c8 g0 g1 g2 g3 g4; obtain ⟨c0, c1, c2, c3, c4, c5, c6, c7, c8⟩ := blk9 (HX.out w1x HB1x.out); obtain ⟨g0, g1, g2, g3, g4⟩ := blk5 (HY.out w1x HB1x.out))
            rw [rounds_succ]
            go_wp2_with (go_at_call 60; refine (H2.out w1x HB1x.out).mono ?_; rintro e w2x ⟨rfl, b⟩; have HB2x := Lib.hid (show Below W1.heap.size W1 w2x from to_ HB1x.out b); clear b c0 c1 c2 c3 c4 c5 c6 c7 c8 g0 g1 g2 g3 g4; obtain ⟨c0, c1, c2, c3, c4, c5, c6, c7, c8⟩ := blk9 (HX.out w2x HB2x.out); obtain ⟨g0, g1, g2, g3, g4⟩ := blk5 (HY.out w2x HB2x.out))
            rw [rounds_succ]
            go_wp2_with (go_at_call 61; refine (H3.out w2x HB2x.out).mono ?_; rintro e w3x ⟨rfl, b⟩; have HB3x := Lib.hid (show Below W1.heap.size W1 w3x from to_ HB2x.out b); clear b c0 c1 c2 c3 c4 c5 c6 c7 c8 g0 g1 g2 g3 g4; obtain ⟨c0, c1, c2, c3, c4, c5, c6, c7, c8⟩ := blk9 (HX.out w3x HB3x.out); obtain ⟨g0, g1, g2, g3, g4⟩ := blk5 (HY.out w3x HB3x.out))
            rw [rounds_succ]
            go_wp2_with (go_at_call 62; refine (H4.out w3x HB3x.out).mono ?_; rintro e w4x ⟨rfl, b⟩; have HB4x := Lib.hid (show Below W1.heap.size W1 w4x from to_ HB3x.out b); clear b c0 c1 c2 c3 c4 c5 c6 c7 c8 g0 g1 g2 g3 g4; obtain ⟨c0, c1, c2, c3, c4, c5, c6, c7, c8⟩ := blk9 (HX.out w4x HB4x.out); obtain ⟨g0, g1, g2, g3, g4⟩ := blk5 (HY.out w4x HB4x.out))
            rw [rounds_succ]
            go_wp2_with fail
            go_ret
            exact ⟨ret_int (by simp [firN]), to_ HB0.out HB4x.out⟩
          · have hz2 : (r4 == 0) = false := by simp [hz]
            go_enter Tryz.func16, Tryz.ntmps16
            go_wp2_with fail
            clear hW1
            refine wp_loop_rounds 5 ?_
            rw [rounds_succ]
            go_wp2_with (go_at_call 58; refine (H0.out W1 (Below.refl _ _)).mono ?_; rintro e w0x ⟨rfl, b⟩; have HB0x := Lib.hid (show Below W1.heap.size W1 w0x from b); clear b c0 c1 c2 c3 c4 c5 c6 c7 c8 g0 g1 g2 g3 g4; obtain ⟨c0, c1, c2, c3, c4, c5, c6, c7, c8⟩ := blk9 (HX.out w0x HB0x.out); obtain ⟨g0, g1, g2, g3, g4⟩ := blk5 (HY.out w0x HB0x.out))
            rw [rounds_succ]
            go_wp2_with (go_at_call 59; refine (H1.out w0x HB0x.out).mono ?_; rintro e w1x ⟨rfl, b⟩; have HB1x := Lib.hid (show Below W1.heap.size W1 w1x from to_ HB0x.out b); clear b c0 c1 c2 c3 c4 c5 c6 c7 c8 g0 g1 g2 g3 g4; obtain ⟨c0, c1, c2, c3, c4, c5, c6, c7, c8⟩ := blk9 (HX.out w1x HB1x.out); obtain ⟨g0, g1, g2, g3, g4⟩ := blk5 (HY.out w1x HB1x.out))
            rw [rounds_succ]
            go_wp2_with (go_at_call 60; refine (H2.out w1x HB1x.out).mono ?_; rintro e w2x ⟨rfl, b⟩; have HB2x := Lib.hid (show Below W1.heap.size W1 w2x from to_ HB1x.out b); clear b c0 c1 c2 c3 c4 c5 c6 c7 c8 g0 g1 g2 g3 g4; obtain ⟨c0, c1, c2, c3, c4, c5, c6, c7, c8⟩ := blk9 (HX.out w2x HB2x.out); obtain ⟨g0, g1, g2, g3, g4⟩ := blk5 (HY.out w2x HB2x.out))
            rw [rounds_succ]
            go_wp2_with (go_at_call 61; refine (H3.out w2x HB2x.out).mono ?_; rintro e w3x ⟨rfl, b⟩; have HB3x := Lib.hid (show Below W1.heap.size W1 w3x from to_ HB2x.out b); clear b c0 c1 c2 c3 c4 c5 c6 c7 c8 g0 g1 g2 g3 g4; obtain ⟨c0, c1, c2, c3, c4, c5, c6, c7, c8⟩ := blk9 (HX.out w3x HB3x.out); obtain ⟨g0, g1, g2, g3, g4⟩ := blk5 (HY.out w3x HB3x.out))
            rw [rounds_succ]
            go_wp2_with (go_at_call 62; refine (H4.out w3x HB3x.out).mono ?_; rintro e w4x ⟨rfl, b⟩; have HB4x := Lib.hid (show Below W1.heap.size W1 w4x from to_ HB3x.out b); clear b c0 c1 c2 c3 c4 c5 c6 c7 c8 g0 g1 g2 g3 g4; obtain ⟨c0, c1, c2, c3, c4, c5, c6, c7, c8⟩ := blk9 (HX.out w4x HB4x.out); obtain ⟨g0, g1, g2, g3, g4⟩ := blk5 (HY.out w4x HB4x.out))
            go_ret
            exact ⟨ret_int (by simp [firN, hz]), to_ HB0.out HB4x.out⟩
        · have hz2 : (r3 == 0) = false := by simp [hz]
          go_enter Tryz.func16, Tryz.ntmps16
          go_wp2_with fail
          clear hW1
          refine wp_loop_rounds 4 ?_
          rw [rounds_succ]
          go_wp2_with (go_at_call 58; refine (H0.out W1 (Below.refl _ _)).mono ?_; rintro e w0x ⟨rfl, b⟩; have HB0x := Lib.hid (show Below W1.heap.size W1 w0x from b); clear b c0 c1 c2 c3 c4 c5 c6 c7 c8 g0 g1 g2 g3 g4; obtain ⟨c0, c1, c2, c3, c4, c5, c6, c7, c8⟩ := blk9 (HX.out w0x HB0x.out); obtain ⟨g0, g1, g2, g3, g4⟩ := blk5 (HY.out w0x HB0x.out))
          rw [rounds_succ]
          go_wp2_with (go_at_call 59; refine (H1.out w0x HB0x.out).mono ?_; rintro e w1x ⟨rfl, b⟩; have HB1x := Lib.hid (show Below W1.heap.size W1 w1x from to_ HB0x.out b); clear b c0 c1 c2 c3 c4 c5 c6 c7 c8 g0 g1 g2 g3 g4; obtain ⟨c0, c1, c2, c3, c4, c5, c6, c7, c8⟩ := blk9 (HX.out w1x HB1x.out); obtain ⟨g0, g1, g2, g3, g4⟩ := blk5 (HY.out w1x HB1x.out))
          rw [rounds_succ]
          go_wp2_with (go_at_call 60; refine (H2.out w1x HB1x.out).mono ?_; rintro e w2x ⟨rfl, b⟩; have HB2x := Lib.hid (show Below W1.heap.size W1 w2x from to_ HB1x.out b); clear b c0 c1 c2 c3 c4 c5 c6 c7 c8 g0 g1 g2 g3 g4; obtain ⟨c0, c1, c2, c3, c4, c5, c6, c7, c8⟩ := blk9 (HX.out w2x HB2x.out); obtain ⟨g0, g1, g2, g3, g4⟩ := blk5 (HY.out w2x HB2x.out))
          rw [rounds_succ]
          go_wp2_with (go_at_call 61; refine (H3.out w2x HB2x.out).mono ?_; rintro e w3x ⟨rfl, b⟩; have HB3x := Lib.hid (show Below W1.heap.size W1 w3x from to_ HB2x.out b); clear b c0 c1 c2 c3 c4 c5 c6 c7 c8 g0 g1 g2 g3 g4; obtain ⟨c0, c1, c2, c3, c4, c5, c6, c7, c8⟩ := blk9 (HX.out w3x HB3x.out); obtain ⟨g0, g1, g2, g3, g4⟩ := blk5 (HY.out w3x HB3x.out))
          go_ret
          exact ⟨ret_int (by simp [firN, hz]), to_ HB0.out HB3x.out⟩
      · have hz2 : (r2 == 0) = false := by simp [hz]
        go_enter Tryz.func16, Tryz.ntmps16
        go_wp2_with fail
        clear hW1
        refine wp_loop_rounds 3 ?_
        rw [rounds_succ]
        go_wp2_with (go_at_call 58; refine (H0.out W1 (Below.refl _ _)).mono ?_; rintro e w0x ⟨rfl, b⟩; have HB0x := Lib.hid (show Below W1.heap.size W1 w0x from b); clear b c0 c1 c2 c3 c4 c5 c6 c7 c8 g0 g1 g2 g3 g4; obtain ⟨c0, c1, c2, c3, c4, c5, c6, c7, c8⟩ := blk9 (HX.out w0x HB0x.out); obtain ⟨g0, g1, g2, g3, g4⟩ := blk5 (HY.out w0x HB0x.out))
        rw [rounds_succ]
        go_wp2_with (go_at_call 59; refine (H1.out w0x HB0x.out).mono ?_; rintro e w1x ⟨rfl, b⟩; have HB1x := Lib.hid (show Below W1.heap.size W1 w1x from to_ HB0x.out b); clear b c0 c1 c2 c3 c4 c5 c6 c7 c8 g0 g1 g2 g3 g4; obtain ⟨c0, c1, c2, c3, c4, c5, c6, c7, c8⟩ := blk9 (HX.out w1x HB1x.out); obtain ⟨g0, g1, g2, g3, g4⟩ := blk5 (HY.out w1x HB1x.out))
        rw [rounds_succ]
        go_wp2_with (go_at_call 60; refine (H2.out w1x HB1x.out).mono ?_; rintro e w2x ⟨rfl, b⟩; have HB2x := Lib.hid (show Below W1.heap.size W1 w2x from to_ HB1x.out b); clear b c0 c1 c2 c3 c4 c5 c6 c7 c8 g0 g1 g2 g3 g4; obtain ⟨c0, c1, c2, c3, c4, c5, c6, c7, c8⟩ := blk9 (HX.out w2x HB2x.out); obtain ⟨g0, g1, g2, g3, g4⟩ := blk5 (HY.out w2x HB2x.out))
        go_ret
        exact ⟨ret_int (by simp [firN, hz]), to_ HB0.out HB2x.out⟩
    · have hz2 : (r1 == 0) = false := by simp [hz]
      go_enter Tryz.func16, Tryz.ntmps16
      go_wp2_with fail
      clear hW1
      refine wp_loop_rounds 2 ?_
      rw [rounds_succ]
      go_wp2_with (go_at_call 58; refine (H0.out W1 (Below.refl _ _)).mono ?_; rintro e w0x ⟨rfl, b⟩; have HB0x := Lib.hid (show Below W1.heap.size W1 w0x from b); clear b c0 c1 c2 c3 c4 c5 c6 c7 c8 g0 g1 g2 g3 g4; obtain ⟨c0, c1, c2, c3, c4, c5, c6, c7, c8⟩ := blk9 (HX.out w0x HB0x.out); obtain ⟨g0, g1, g2, g3, g4⟩ := blk5 (HY.out w0x HB0x.out))
      rw [rounds_succ]
      go_wp2_with (go_at_call 59; refine (H1.out w0x HB0x.out).mono ?_; rintro e w1x ⟨rfl, b⟩; have HB1x := Lib.hid (show Below W1.heap.size W1 w1x from to_ HB0x.out b); clear b c0 c1 c2 c3 c4 c5 c6 c7 c8 g0 g1 g2 g3 g4; obtain ⟨c0, c1, c2, c3, c4, c5, c6, c7, c8⟩ := blk9 (HX.out w1x HB1x.out); obtain ⟨g0, g1, g2, g3, g4⟩ := blk5 (HY.out w1x HB1x.out))
      go_ret
      exact ⟨ret_int (by simp [firN, hz]), to_ HB0.out HB1x.out⟩
  · have hz2 : (r0 == 0) = false := by simp [hz]
    go_enter Tryz.func16, Tryz.ntmps16
    go_wp2_with fail
    clear hW1
    refine wp_loop_rounds 1 ?_
    rw [rounds_succ]
    go_wp2_with (go_at_call 58; refine (H0.out W1 (Below.refl _ _)).mono ?_; rintro e w0x ⟨rfl, b⟩; have HB0x := Lib.hid (show Below W1.heap.size W1 w0x from b); clear b c0 c1 c2 c3 c4 c5 c6 c7 c8 g0 g1 g2 g3 g4; obtain ⟨c0, c1, c2, c3, c4, c5, c6, c7, c8⟩ := blk9 (HX.out w0x HB0x.out); obtain ⟨g0, g1, g2, g3, g4⟩ := blk5 (HY.out w0x HB0x.out))
    go_ret
    exact ⟨ret_int (by simp [firN, hz]), to_ HB0.out HB0x.out⟩
end Go.Proofs.YtbknmapkdjmcjaaGreatDoor.By
