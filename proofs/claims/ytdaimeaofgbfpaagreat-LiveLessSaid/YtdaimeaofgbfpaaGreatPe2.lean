/-
 Pe2
-/
import Derived.Test.YtdaimeaofgbfpaaGreatZa2
import Derived.Test.YtdaimeaofgbfpaaGreatPc2
import Derived.Test.YtdaimeaofgbfpaaGreatPd2
set_option linter.unusedSimpArgs false
set_option linter.unusedVariables false
namespace Go.Proofs.YtdaimeaofgbfpaaGreat.By
open Go.RowKit
open Mem Gm Rf
theorem dvo_any (w : World) (AK AL AC AR : Option Addr) (nK cK nL cL nC cC nR cR : Nat) (x : Fn) (hF : FnW w AK nK cK AL nL cL AC nC cC AR nR cR x) (hn : nR ≤ 1000000) (hnK : nK ≤ 1000000) (AS : Option Addr) (nS cS : Nat) (l : List Sy) (hS : SyL w AS nS cS l) (hb : ∀ k, -9223372036854775808 ≤ (syAt l k).2.2.2.1 ∧ (syAt l k).2.2.2.1 ≤ 9223372036854775807) (hB : (∀ z ∈ x.ks, -9223372036854775808 ≤ z ∧ z ≤ 9223372036854775807) ∧ ∀ k, k < x.cs.length → -9223372036854775808 ≤ (inAt x.cs k).1 ∧ (inAt x.cs k).1 ≤ 9223372036854775807) (i : Int) :
  Calls Tryz.prog 158 #[.agg #[.int .i64 x.k, .slice AK nK cK, .int .i64 x.pd, .bool x.ns, .int .i64 x.f, .int .i64 x.t, .slice AL nL cL, .slice AC nC cC, .slice AR nR cR], .slice AS nS cS, .int .i64 i] w fun e w' => e = .returned (.int .i64 (veI x l i)) ∧ Below w.heap.size w w' := by
 have h := dvi_any w AK AL AC AR nK cK nL cL nC cC nR cR x hF hn hnK AS nS cS l hS hB.2 i
 rw [ve_alike x l i hb] at h
 exact h
set_option maxHeartbeats 4000000 in
theorem dch_any (w : World) (AK AL AC AR : Option Addr) (nK cK nL cL nC cC nR cR : Nat) (x : Fn) (hF : FnW w AK nK cK AL nL cL AC nC cC AR nR cR x) (hnn : nK ≤ 1000000 ∧ nL ≤ 1000000 ∧ nC ≤ 1000000 ∧ nR ≤ 1000000) (AS : Option Addr) (nS cS : Nat) (l : List Sy) (hS : SyL w AS nS cS l) (hb : ∀ k, -9223372036854775808 ≤ (syAt l k).2.2.2.1 ∧ (syAt l k).2.2.2.1 ≤ 9223372036854775807) (hB : (∀ z ∈ x.ks, -9223372036854775808 ≤ z ∧ z ≤ 9223372036854775807) ∧ ∀ k, k < x.cs.length → -9223372036854775808 ≤ (inAt x.cs k).1 ∧ (inAt x.cs k).1 ≤ 9223372036854775807) :
  Calls Tryz.prog 121 #[.agg #[.int .i64 x.k, .slice AK nK cK, .int .i64 x.pd, .bool x.ns, .int .i64 x.f, .int .i64 x.t, .slice AL nL cL, .slice AC nC cC, .slice AR nR cR], .slice AS nS cS] w fun e w' => e = .returned (.tuple #[.int .i64 (veF x l).1, .int .i64 (veF x l).2]) ∧ Below w.heap.size w w' := by
 obtain ⟨W1, hW1⟩ : ∃ W1, w.alloc (.cells #[.int .i64 x.k, .slice AK nK cK, .int .i64 x.pd, .bool x.ns, .int .i64 x.f, .int .i64 x.t, .slice AL nL cL, .slice AC nC cC, .slice AR nR cR] 49) = W1 := ⟨_, rfl⟩
 have HB1 := Hd (show Below w.heap.size w W1 from by rw [← hW1]; exact alloc_ _ _)
 have HX := Hd (show Blk W1 w.heap.size 49 #[.int .i64 x.k, .slice AK nK cK, .int .i64 x.pd, .bool x.ns, .int .i64 x.f, .int .i64 x.t, .slice AL nL cL, .slice AC nC cC, .slice AR nR cR] from by rw [← hW1]; exact Blk.new w _ _)
 obtain ⟨p0, p1, p2, p3, p4, p5, p6, p7, p8⟩ := blk9 HX.out
 have HC := Hd (rchkF_any W1 AK AL AC AR nK cK nL cL nC cC nR cR x (hF.on HB1.out) hnn hB)
 have HV := Hd (fun W (hw : Below W1.heap.size W1 W) i => dvo_any W AK AL AC AR nK cK nL cL nC cC nR cR x (hF.on (to_ HB1.out hw)) hnn.2.2.2 hnn.1 AS nS cS l (hS.on (to_ HB1.out hw)) hb hB i)
 have hcl : x.cs.length = nC := hF.hc.1
 have HVF := Hd (show (chF x ≠ 0 → veF x l = (chF x, -1)) ∧ (chF x = 0 → veF x l = veL x l nC) from ⟨fun h => by unfold veF; rw [if_neg h], fun h => by unfold veF; rw [if_pos h, hcl]⟩)
 have HLN := Hd (fun n h => veL_next (x := x) (l := l) (n := n) h)
 have HLO := Hd (fun n h => veL_ok (x := x) (l := l) n h)
 have HL0 := Hd (show (veL x l 0).1 = 0 from rfl)
 have HN := Hd hnn.2.2.1
 generalize veF x l = vf at HVF ⊢
 generalize veL x l = vl at HVF HLN HLO HL0
 generalize chF x = ch at HC HVF
 clear hF hS hb hcl hnn hB
 by_cases hc : ch = 0
 ·subst hc
  go_enter Tryz.func121, Tryz.ntmps121
  go_wp2_with fail
  clear hW1 p0 p1 p2 p3 p4 p5 p6 p7 p8
  refine HC.out.mono ?_
  rintro e w1 ⟨rfl, b1⟩
  have HB2 := Hd b1
  have HX2 := Hd (HX.out.below b1 HX.out.lt)
  clear b1
  obtain ⟨p0, p1, p2, p3, p4, p5, p6, p7, p8⟩ := blk9 HX2.out
  go_wp2_with fail
  clear p0 p1 p2 p3 p4 p5 p6 p7 p8
  go_loopw [7] (fun i9 wr => ∃ q : Nat, q ≤ nC ∧ i9 = .int .i64 (q : Int) ∧ Hid (Below W1.heap.size W1 wr) ∧ Hid ((vl q).1 = 0)) (fun i9 _ => nC - (intOf i9).toNat)
  case atStart => exact ⟨0, Nat.zero_le _, rfl, HB2, HL0⟩
  case round =>
   obtain ⟨q, hq, rfl, HBR, HE⟩ := hrel
   have hn9 : nC ≤ 1000000 := HN.out
   obtain ⟨p0, p1, p2, p3, p4, p5, p6, p7, p8⟩ := blk9 (HX.out.below HBR.out HX.out.lt)
   by_cases hlt : q < nC
   ·have hqI : (q : Int) < (nC : Int) := by omega
    have HLT := Hd hlt
    have HVQ := Hd (HV.out wr HBR.out (q : Int))
    have HNX := Hd (HLN.out q HE.out)
    generalize veI x l (q : Int) = y at HVQ HNX
    by_cases hy : y = 0
    ·subst hy
     have HN1 := Hd (HNX.out.1 rfl)
     go_wp2_with fail
     clear p0 p1 p2 p3 p4 p5 p6 p7 p8
     refine HVQ.out.mono ?_
     rintro e w4 ⟨rfl, b4⟩
     have HB4 := Hd (to_ HBR.out b4)
     clear b4
     go_wp2_with fail
     go_roundw
     case rel => exact ⟨q + 1, by have := HLT.out; omega, by go_num, HB4, HN1⟩
     case measure => have := HLT.out; simp [intOf]; omega
    ·have hy1 : (y != 0) = true := by simpa using hy
     have hy2 : (y == 0) = false := by simpa using hy
     have HF := Hd (show vf = (y, (q : Int)) from (HVF.out.2 (by simp)).trans (HNX.out.2 hy nC (by omega)))
     clear hy
     go_wp2_with fail
     clear p0 p1 p2 p3 p4 p5 p6 p7 p8
     refine HVQ.out.mono ?_
     rintro e w4 ⟨rfl, b4⟩
     have HB4 := Hd (to_ HB1.out (to_ HBR.out b4))
     clear b4
     go_wp2_with fail
     refine bodyPost_ret (results_tmp2 rfl _ _ _) rfl ?_
     rw [HF.out]
     exact ⟨rfl, HB4.out⟩
   ·have HF := Hd (show vf = (0, -1) from (HVF.out.2 (by simp)).trans (by rw [show nC = q from by omega]; exact HLO.out q HE.out))
    obtain rfl : q = nC := by omega
    go_wp2_with fail
    refine bodyPost_ret (results_tmp2 rfl _ _ _) rfl ?_
    rw [HF.out]
    exact ⟨rfl, to_ HB1.out HBR.out⟩
 ·have hc1 : (ch != 0) = true := by simpa using hc
  have hc2 : (ch == 0) = false := by simpa using hc
  have HF := Hd (HVF.out.1 hc)
  clear hc
  go_enter Tryz.func121, Tryz.ntmps121
  go_wp2_with fail
  clear hW1 p0 p1 p2 p3 p4 p5 p6 p7 p8
  refine HC.out.mono ?_
  rintro e w1 ⟨rfl, b1⟩
  have HB2 := Hd (to_ HB1.out b1)
  clear b1
  go_wp2_with fail
  refine bodyPost_ret (results_tmp2 rfl _ _ _) rfl ?_
  rw [HF.out]
  exact ⟨rfl, HB2.out⟩
end Go.Proofs.YtdaimeaofgbfpaaGreat.By
