/-
 Pc2
-/
import Derived.Test.YtdaimeaofgbfpaaGreatZa2
import Derived.Test.YtdaimeaofgbfpaaGreatPb2
set_option linter.unusedSimpArgs false
set_option linter.unusedVariables false
namespace Go.Proofs.YtdaimeaofgbfpaaGreat.By
open Go.RowKit
open Mem Gm Rf
theorem beq_dcd (a b : Int) : (a == b) = decide (a = b) := by by_cases h : a = b <;> simp [h]
set_option maxHeartbeats 4000000 in
theorem dsym_any (w : World) (AK AL AC AR : Option Addr) (nK cK nL cL nC cC nR cR : Nat) (x : Fn) (hF : FnW w AK nK cK AL nL cL AC nC cC AR nR cR x) (hn : nR ≤ 1000000) (i : Int) : Calls Tryz.prog 78 #[.agg #[.int .i64 x.k, .slice AK nK cK, .int .i64 x.pd, .bool x.ns, .int .i64 x.f, .int .i64 x.t, .slice AL nL cL, .slice AC nC cC, .slice AR nR cR], .int .i64 i] w fun e w' => e = .returned (.int .i64 (veS x i)) ∧ Below w.heap.size w w' := by
 obtain ⟨W1, hW1⟩ : ∃ W1, w.alloc (.cells #[.int .i64 x.k, .slice AK nK cK, .int .i64 x.pd, .bool x.ns, .int .i64 x.f, .int .i64 x.t, .slice AL nL cL, .slice AC nC cC, .slice AR nR cR] 49) = W1 := ⟨_, rfl⟩
 have HB1 := Hd (show Below w.heap.size w W1 from by rw [← hW1]; exact alloc_ _ _)
 have HX := Hd (show Blk W1 w.heap.size 49 #[.int .i64 x.k, .slice AK nK cK, .int .i64 x.pd, .bool x.ns, .int .i64 x.f, .int .i64 x.t, .slice AL nL cL, .slice AC nC cC, .slice AR nR cR] from by rw [← hW1]; exact Blk.new w _ _)
 obtain ⟨p0, p1, p2, p3, p4, p5, p6, p7, p8⟩ := blk9 HX.out
 have HR := Hd (show RlL W1 AR nR cR x.rs from hF.hr.on HB1.out)
 have HRL := Hd (show x.rs.length = nR from hF.hr.1)
 have HD := Hd (fun q hq => refA_drop x.rs i q hq)
 have HD0 := Hd (show refA x.rs i = refA (x.rs.drop 0) i from rfl)
 have HDE := Hd (show refA (x.rs.drop nR) i = none from by rw [List.drop_of_length_le (by rw [HRL.out]; exact Nat.le_refl _)]; rfl)
 unfold veS
 obtain ⟨ro, hro⟩ : ∃ r, refA x.rs i = r := ⟨_, rfl⟩
 rw [hro] at HD0 ⊢
 clear hro
 have HN := Hd hn
 clear hF hn
 go_enter Tryz.func78, Tryz.ntmps78
 go_wp2_with fail
 clear hW1 p0 p1 p2 p3 p4 p5 p6 p7 p8
 go_loopw [5] (fun i9 wr => ∃ q : Nat, q ≤ nR ∧ i9 = .int .i64 (q : Int) ∧ wr = W1 ∧ Hid (ro = refA (x.rs.drop q) i)) (fun i9 _ => nR - (intOf i9).toNat)
 case atStart => exact ⟨0, Nat.zero_le _, rfl, rfl, HD0⟩
 case round =>
  obtain ⟨q, hq, rfl, rfl, HE⟩ := hrel
  have hn9 : nR ≤ 1000000 := HN.out
  obtain ⟨p0, p1, p2, p3, p4, p5, p6, p7, p8⟩ := blk9 HX.out
  by_cases hlt : q < nR
  ·have hqI : (q : Int) < (nR : Int) := by omega
   have HLT := Hd hlt
   obtain ⟨ad, rfl, hadb, k0, k1, k2⟩ := HR.out.at_ hlt
   have HDQ := Hd (HD.out q (by rw [HRL.out]; exact hlt))
   generalize rlAt x.rs q = r at k0 k1 k2 HDQ
   obtain ⟨r1, r2, r3⟩ := r
   dsimp only at k0 k1 k2
   by_cases hr : r1 = i
   ·subst hr
    have HF := HE.out.trans (HDQ.out.trans (if_pos rfl))
    subst HF
    go_wp2_with fail
    go_ret
    exact ⟨rfl, HB1.out⟩
   ·have hr1 : (r1 == i) = false := by simpa using hr
    have HNX := Hd (HE.out.trans (HDQ.out.trans (if_neg hr)))
    clear hr
    go_wp2_with fail
    clear k0 k1 k2 p0 p1 p2 p3 p4 p5 p6 p7 p8
    go_roundw
    case rel => exact ⟨q + 1, by have := HLT.out; omega, by go_num, by first | rfl | trivial, HNX⟩
    case measure => have := HLT.out; simp [intOf]; omega
  ·obtain rfl : q = nR := by omega
   have HF := HE.out.trans HDE.out
   subst HF
   go_wp2_with fail
   go_ret
   exact ⟨rfl, HB1.out⟩
set_option maxHeartbeats 4000000 in
theorem has_any (w : World) (AK AL AC AR : Option Addr) (nK cK nL cL nC cC nR cR : Nat) (x : Fn) (hF : FnW w AK nK cK AL nL cL AC nC cC AR nR cR x) (hn : nR ≤ 1000000) (i : Int) : Calls Tryz.prog 209 #[.agg #[.int .i64 x.k, .slice AK nK cK, .int .i64 x.pd, .bool x.ns, .int .i64 x.f, .int .i64 x.t, .slice AL nL cL, .slice AC nC cC, .slice AR nR cR], .int .i64 i] w fun e w' => e = .returned (.bool (refA x.rs i).isSome) ∧ Below w.heap.size w w' := by
 obtain ⟨W1, hW1⟩ : ∃ W1, w.alloc (.cells #[.int .i64 x.k, .slice AK nK cK, .int .i64 x.pd, .bool x.ns, .int .i64 x.f, .int .i64 x.t, .slice AL nL cL, .slice AC nC cC, .slice AR nR cR] 49) = W1 := ⟨_, rfl⟩
 have HB1 := Hd (show Below w.heap.size w W1 from by rw [← hW1]; exact alloc_ _ _)
 have HX := Hd (show Blk W1 w.heap.size 49 #[.int .i64 x.k, .slice AK nK cK, .int .i64 x.pd, .bool x.ns, .int .i64 x.f, .int .i64 x.t, .slice AL nL cL, .slice AC nC cC, .slice AR nR cR] from by rw [← hW1]; exact Blk.new w _ _)
 obtain ⟨p0, p1, p2, p3, p4, p5, p6, p7, p8⟩ := blk9 HX.out
 have HR := Hd (show RlL W1 AR nR cR x.rs from hF.hr.on HB1.out)
 have HRL := Hd (show x.rs.length = nR from hF.hr.1)
 have HD := Hd (fun q hq => refA_drop x.rs i q hq)
 have HD0 := Hd (show refA x.rs i = refA (x.rs.drop 0) i from rfl)
 have HDE := Hd (show refA (x.rs.drop nR) i = none from by rw [List.drop_of_length_le (by rw [HRL.out]; exact Nat.le_refl _)]; rfl)
 skip
 obtain ⟨ro, hro⟩ : ∃ r, refA x.rs i = r := ⟨_, rfl⟩
 rw [hro] at HD0 ⊢
 clear hro
 have HN := Hd hn
 clear hF hn
 go_enter Tryz.func209, Tryz.ntmps209
 go_wp2_with fail
 clear hW1 p0 p1 p2 p3 p4 p5 p6 p7 p8
 go_loopw [5] (fun i9 wr => ∃ q : Nat, q ≤ nR ∧ i9 = .int .i64 (q : Int) ∧ wr = W1 ∧ Hid (ro = refA (x.rs.drop q) i)) (fun i9 _ => nR - (intOf i9).toNat)
 case atStart => exact ⟨0, Nat.zero_le _, rfl, rfl, HD0⟩
 case round =>
  obtain ⟨q, hq, rfl, rfl, HE⟩ := hrel
  have hn9 : nR ≤ 1000000 := HN.out
  obtain ⟨p0, p1, p2, p3, p4, p5, p6, p7, p8⟩ := blk9 HX.out
  by_cases hlt : q < nR
  ·have hqI : (q : Int) < (nR : Int) := by omega
   have HLT := Hd hlt
   obtain ⟨ad, rfl, hadb, k0, k1, k2⟩ := HR.out.at_ hlt
   have HDQ := Hd (HD.out q (by rw [HRL.out]; exact hlt))
   generalize rlAt x.rs q = r at k0 k1 k2 HDQ
   obtain ⟨r1, r2, r3⟩ := r
   dsimp only at k0 k1 k2
   by_cases hr : r1 = i
   ·subst hr
    have HF := HE.out.trans (HDQ.out.trans (if_pos rfl))
    subst HF
    go_wp2_with fail
    go_ret
    exact ⟨rfl, HB1.out⟩
   ·have hr1 : (r1 == i) = false := by simpa using hr
    have HNX := Hd (HE.out.trans (HDQ.out.trans (if_neg hr)))
    clear hr
    go_wp2_with fail
    clear k0 k1 k2 p0 p1 p2 p3 p4 p5 p6 p7 p8
    go_roundw
    case rel => exact ⟨q + 1, by have := HLT.out; omega, by go_num, by first | rfl | trivial, HNX⟩
    case measure => have := HLT.out; simp [intOf]; omega
  ·obtain rfl : q = nR := by omega
   have HF := HE.out.trans HDE.out
   subst HF
   go_wp2_with fail
   go_ret
   exact ⟨rfl, HB1.out⟩
set_option maxHeartbeats 4000000 in
theorem dsl_any (w : World) (AK AL AC AR : Option Addr) (nK cK nL cL nC cC nR cR : Nat) (x : Fn) (hF : FnW w AK nK cK AL nL cL AC nC cC AR nR cR x) (hm : nK ≤ 1000000) (i k : Int) : Calls Tryz.prog 211 #[.agg #[.int .i64 x.k, .slice AK nK cK, .int .i64 x.pd, .bool x.ns, .int .i64 x.f, .int .i64 x.t, .slice AL nL cL, .slice AC nC cC, .slice AR nR cR], .int .i64 i, .int .i64 k] w fun e w' => e = .returned (.int .i64 (slE x.ks i k)) ∧ Below w.heap.size w w' := by
 obtain ⟨W1, hW1⟩ : ∃ W1, w.alloc (.cells #[.int .i64 x.k, .slice AK nK cK, .int .i64 x.pd, .bool x.ns, .int .i64 x.f, .int .i64 x.t, .slice AL nL cL, .slice AC nC cC, .slice AR nR cR] 49) = W1 := ⟨_, rfl⟩
 have HB1 := Hd (show Below w.heap.size w W1 from by rw [← hW1]; exact alloc_ _ _)
 have HX := Hd (show Blk W1 w.heap.size 49 #[.int .i64 x.k, .slice AK nK cK, .int .i64 x.pd, .bool x.ns, .int .i64 x.f, .int .i64 x.t, .slice AL nL cL, .slice AC nC cC, .slice AR nR cR] from by rw [← hW1]; exact Blk.new w _ _)
 obtain ⟨p0, p1, p2, p3, p4, p5, p6, p7, p8⟩ := blk9 HX.out
 have hkk := hF.hk.on HB1.out
 have hl := hF.hkl
 unfold slE
 rw [hl]
 cases hin : inL i nK with
 | false =>
  rw [if_neg (by decide)]
  have h9 : i < 0 ∨ (nK : Int) ≤ i := by unfold inL at hin; simp at hin; omega
  clear hin hkk hl hF
  by_cases h0 : i < 0
  ·have d0 : decide (i < 0) = true := by simpa using h0
   go_enter Tryz.func211, Tryz.ntmps211
   go_wp2_with fail
   go_ret
   exact ⟨rfl, HB1.out⟩
  ·have d0 : decide (i < 0) = false := by simpa using h0
   have d1 : decide ((nK : Int) ≤ i) = true := by simp; omega
   go_enter Tryz.func211, Tryz.ntmps211
   go_wp2_with fail
   go_ret
   exact ⟨rfl, HB1.out⟩
 | true =>
  rw [if_pos rfl]
  have hi : 0 ≤ i ∧ i < (nK : Int) := by unfold inL at hin; exact of_decide_eq_true hin
  obtain ⟨q, rfl⟩ := Int.eq_ofNat_of_zero_le hi.1
  have hq : q < nK := by omega
  have hqI : (q : Int) < (nK : Int) := by omega
  obtain ⟨ad, rfl, hc⟩ : ∃ ad, AK = some ad ∧ W1.cell? (ad.add q) = some (.int .i64 (el x.ks q)) := by
   rcases ints_row (A := AK) (c := cK) (l := x.ks) (by rw [hl]; exact hkk) with ⟨h0, _⟩ | ⟨ad, e, _, hc⟩
   ·rw [h0] at hl; simp at hl; omega
   ·exact ⟨ad, e, hc q (by omega)⟩
  rw [show ((q : Int).toNat) = q from by simp]
  generalize el x.ks q = z at hc
  have d0 : ¬ (q : Int) < 0 := by omega
  by_cases hz : z = k
  ·rw [if_pos hz]
   subst hz
   clear hin hkk hl hF
   go_enter Tryz.func211, Tryz.ntmps211
   go_wp2_with fail
   go_ret
   exact ⟨rfl, HB1.out⟩
  ·rw [if_neg hz]
   have hz1 : (z != k) = true := by simpa using hz
   have hz2 : (z == k) = false := by simpa using hz
   clear hin hkk hl hz hF
   go_enter Tryz.func211, Tryz.ntmps211
   go_wp2_with fail
   go_ret
   exact ⟨rfl, HB1.out⟩
set_option maxHeartbeats 4000000 in
theorem dpe_any (w : World) (AK AL AC AR : Option Addr) (nK cK nL cL nC cC nR cR : Nat) (x : Fn) (hF : FnW w AK nK cK AL nL cL AC nC cC AR nR cR x) (hm : nK ≤ 1000000) (i : Int) (b : Bool) : Calls Tryz.prog 213 #[.agg #[.int .i64 x.k, .slice AK nK cK, .int .i64 x.pd, .bool x.ns, .int .i64 x.f, .int .i64 x.t, .slice AL nL cL, .slice AC nC cC, .slice AR nR cR], .int .i64 i, .bool b] w fun e w' => e = .returned (.int .i64 (if b = true then slE x.ks i 0 else unE i)) ∧ Below w.heap.size w w' := by
 obtain ⟨W1, hW1⟩ : ∃ W1, w.alloc (.cells #[.int .i64 x.k, .slice AK nK cK, .int .i64 x.pd, .bool x.ns, .int .i64 x.f, .int .i64 x.t, .slice AL nL cL, .slice AC nC cC, .slice AR nR cR] 49) = W1 := ⟨_, rfl⟩
 have HB1 := Hd (show Below w.heap.size w W1 from by rw [← hW1]; exact alloc_ _ _)
 have HX := Hd (show Blk W1 w.heap.size 49 #[.int .i64 x.k, .slice AK nK cK, .int .i64 x.pd, .bool x.ns, .int .i64 x.f, .int .i64 x.t, .slice AL nL cL, .slice AC nC cC, .slice AR nR cR] from by rw [← hW1]; exact Blk.new w _ _)
 obtain ⟨p0, p1, p2, p3, p4, p5, p6, p7, p8⟩ := blk9 HX.out
 have HS := Hd (dsl_any W1 AK AL AC AR nK cK nL cL nC cC nR cR x (hF.on HB1.out) hm i 0)
 clear hF
 cases b with
 | true =>
  rw [if_pos rfl]
  go_enter Tryz.func213, Tryz.ntmps213
  go_wp2_with fail
  clear hW1 p0 p1 p2 p3 p4 p5 p6 p7 p8
  refine HS.out.mono ?_
  rintro e w1 ⟨rfl, b1⟩
  have HB2 := Hd (to_ HB1.out b1)
  clear b1
  go_wp2_with fail
  go_ret
  exact ⟨rfl, HB2.out⟩
 | false =>
  rw [if_neg (by decide)]
  unfold unE
  by_cases h : i = 0
  ·subst h
   go_enter Tryz.func213, Tryz.ntmps213
   go_wp2_with fail
   go_ret
   exact ⟨rfl, HB1.out⟩
  ·rw [if_neg h]
   have h1 : (i != 0) = true := by simpa using h
   have h2 : (i == 0) = false := by simpa using h
   clear h
   go_enter Tryz.func213, Tryz.ntmps213
   go_wp2_with fail
   go_ret
   exact ⟨rfl, HB1.out⟩
set_option maxHeartbeats 4000000 in
theorem dfi_any (need : Int) (nm : ByteArray) (loc : Bool) (so kd df : Int) (w : World) : Calls Tryz.prog 210 #[.int .i64 need, .agg #[.string nm, .bool loc, .int .i64 so, .int .i64 kd, .int .i64 df]] w fun e w' => e = .returned (.bool (dfits need so kd)) ∧ Below w.heap.size w w' := by
 obtain ⟨W1, hW1⟩ : ∃ W1, w.alloc (.cells #[.string nm, .bool loc, .int .i64 so, .int .i64 kd, .int .i64 df] 79) = W1 := ⟨_, rfl⟩
 have HB1 := Hd (show Below w.heap.size w W1 from by rw [← hW1]; exact alloc_ _ _)
 obtain ⟨x0, x1, x2, x3, x4⟩ := blk5 (show Blk W1 w.heap.size 79 #[.string nm, .bool loc, .int .i64 so, .int .i64 kd, .int .i64 df] from by rw [← hW1]; exact Blk.new w _ _)
 have HC := Hd (fun W => Si.ris_any (wrap64 (kd - 1)) W)
 unfold dfits
 obtain ⟨bb, hbb⟩ : ∃ b, (so == 1) = b := ⟨_, rfl⟩
 have hb1 : decide (so = 1) = bb := by rw [← hbb, beq_dcd]
 by_cases h125 : need = 1 ∨ need = 2 ∨ need = 5
 ·rw [if_pos h125, hb1]
  rcases h125 with rfl | rfl | rfl
  all_goals
   go_enter Tryz.func210, Tryz.ntmps210
   go_wp2_with fail
   go_ret
   exact ⟨rfl, HB1.out⟩
 rw [if_neg h125]
 have d1 : (need == 1) = false := by simp; omega
 have d2 : (need == 2) = false := by simp; omega
 have d5 : (need == 5) = false := by simp; omega
 clear hb1 hbb
 by_cases h3 : need = 3
 ·subst h3
  rw [if_pos rfl]
  by_cases e2 : so = 2
  ·subst e2
   by_cases k0 : kd = 0
   ·subst k0
    go_enter Tryz.func210, Tryz.ntmps210
    go_wp2_with fail
    go_ret
    exact ⟨by simp, HB1.out⟩
   ·have dk : (kd == 0) = false := by simpa using k0
    have hf : decide ((2 : Int) = 2 ∧ kd = 0) = false := by simp [k0]
    rw [hf]
    clear k0 hf h125
    go_enter Tryz.func210, Tryz.ntmps210
    go_wp2_with fail
    go_ret
    exact ⟨rfl, HB1.out⟩
  ·have ds : (so == 2) = false := by simpa using e2
   have hf : decide (so = 2 ∧ kd = 0) = false := by simp [e2]
   rw [hf]
   clear e2 hf h125
   go_enter Tryz.func210, Tryz.ntmps210
   go_wp2_with fail
   go_ret
   exact ⟨rfl, HB1.out⟩
 rw [if_neg h3]
 have d3 : (need == 3) = false := by simpa using h3
 clear h125 h3
 by_cases e2 : so = 2
 ·subst e2
  rw [show decide ((2 : Int) = 2) = true from rfl, Bool.true_and]
  go_enter Tryz.func210, Tryz.ntmps210
  go_wp2_with fail
  refine (HC.out _).mono ?_
  rintro e w2 ⟨rfl, rfl⟩
  go_wp2_with fail
  go_ret
  exact ⟨rfl, HB1.out⟩
 ·have ds : (so == 2) = false := by simpa using e2
  rw [show decide (so = 2) = false from by simpa using e2, Bool.false_and]
  clear e2
  go_enter Tryz.func210, Tryz.ntmps210
  go_wp2_with fail
  go_ret
  exact ⟨rfl, HB1.out⟩
set_option maxHeartbeats 8000000 in
theorem dca_any (w : World) (AK AL AC AR : Option Addr) (nK cK nL cL nC cC nR cR : Nat) (x : Fn) (hF : FnW w AK nK cK AL nL cL AC nC cC AR nR cR x) (hm : nK ≤ 1000000) (i z : Int) : Calls Tryz.prog 212 #[.agg #[.int .i64 x.k, .slice AK nK cK, .int .i64 x.pd, .bool x.ns, .int .i64 x.f, .int .i64 x.t, .slice AL nL cL, .slice AC nC cC, .slice AR nR cR], .int .i64 i, .int .i64 z] w fun e w' => e = .returned (.int .i64 (cdE x.ks z i)) ∧ Below w.heap.size w w' := by
 obtain ⟨W1, hW1⟩ : ∃ W1, w.alloc (.cells #[.int .i64 x.k, .slice AK nK cK, .int .i64 x.pd, .bool x.ns, .int .i64 x.f, .int .i64 x.t, .slice AL nL cL, .slice AC nC cC, .slice AR nR cR] 49) = W1 := ⟨_, rfl⟩
 have HB1 := Hd (show Below w.heap.size w W1 from by rw [← hW1]; exact alloc_ _ _)
 have HX := Hd (show Blk W1 w.heap.size 49 #[.int .i64 x.k, .slice AK nK cK, .int .i64 x.pd, .bool x.ns, .int .i64 x.f, .int .i64 x.t, .slice AL nL cL, .slice AC nC cC, .slice AR nR cR] from by rw [← hW1]; exact Blk.new w _ _)
 obtain ⟨p0, p1, p2, p3, p4, p5, p6, p7, p8⟩ := blk9 HX.out
 have HS := Hd (fun W (hb : Below W1.heap.size W1 W) j => dsl_any W AK AL AC AR nK cK nL cL nC cC nR cR x (hF.on (to_ HB1.out hb)) hm j 0)
 have HP := Hd (fun W => Si.rpar_any z W)
 have HA := Hd (fun W => Si.rans_any z W)
 have hpi := par_in z
 unfold cdE
 generalize Si.parV z = p at HP hpi ⊢
 generalize Si.ansV z = a9 at HA ⊢
 clear hF
 by_cases hp : p = 0
 ·subst hp
  clear hpi
  cases a9 with
  | false =>
   rw [if_pos ⟨rfl, rfl⟩]
   unfold unE
   by_cases h : i = 0
   ·subst h
    go_enter Tryz.func212, Tryz.ntmps212
    go_wp2_with fail
    refine (HP.out _).mono ?_
    rintro e w2 ⟨rfl, rfl⟩
    go_wp2_with fail
    refine (HA.out _).mono ?_
    rintro e w2 ⟨rfl, rfl⟩
    go_wp2_with fail
    go_ret
    exact ⟨rfl, HB1.out⟩
   ·rw [if_neg h]
    have h1 : (i != 0) = true := by simpa using h
    have h2 : (i == 0) = false := by simpa using h
    clear h
    go_enter Tryz.func212, Tryz.ntmps212
    go_wp2_with fail
    refine (HP.out _).mono ?_
    rintro e w2 ⟨rfl, rfl⟩
    go_wp2_with fail
    refine (HA.out _).mono ?_
    rintro e w2 ⟨rfl, rfl⟩
    go_wp2_with fail
    go_ret
    exact ⟨rfl, HB1.out⟩
  | true =>
   rw [if_neg (by simp), if_pos rfl]
   go_enter Tryz.func212, Tryz.ntmps212
   go_wp2_with fail
   refine (HP.out _).mono ?_
   rintro e w2 ⟨rfl, rfl⟩
   go_wp2_with fail
   refine (HA.out _).mono ?_
   rintro e w2 ⟨rfl, rfl⟩
   go_wp2_with fail
   clear hW1 p0 p1 p2 p3 p4 p5 p6 p7 p8
   go_loopw [8] (fun i9 wr => ∃ q : Nat, (q : Int) ≤ (1 : Int) ∧ i9 = .int .i64 (q : Int) ∧ Hid (Below W1.heap.size W1 wr) ∧ Hid (caE x.ks i q = 0)) (fun i9 _ => ((1 : Int)).toNat - (intOf i9).toNat)
   case atStart => exact ⟨0, by omega, rfl, Hd (Below.refl _ _), Hd rfl⟩
   case round =>
    obtain ⟨q, hq, rfl, HBR, HE⟩ := hrel
    obtain ⟨p0, p1, p2, p3, p4, p5, p6, p7, p8⟩ := blk9 (HX.out.below HBR.out HX.out.lt)
    by_cases hlt : (q : Int) < (1 : Int)
    ·have HSQ := Hd (HS.out wr HBR.out (wrap64 (i + q)))
     have HEQ := Hd (show caE x.ks i (q + 1) = slE x.ks (wrap64 (i + q)) 0 from by rw [caE, if_pos HE.out])
     have hwi : IntKind.i64.wrap (i + (q : Int)) = wrap64 (i + q) := IntWalk.i64_left _
     have HLT := Hd hlt
     generalize wrap64 (i + q) = z at HSQ HEQ hwi
     generalize slE x.ks z 0 = y at HSQ HEQ
     by_cases hy : y = 0
     ·subst hy
      go_wp2_with fail
      clear p0 p1 p2 p3 p4 p5 p6 p7 p8
      refine HSQ.out.mono ?_
      rintro e w4 ⟨rfl, b4⟩
      have HB4 := Hd (to_ HBR.out b4)
      clear b4
      go_wp2_with fail
      go_roundw
      case rel => exact ⟨q + 1, by have := HLT.out; omega, by go_num, HB4, Hd HEQ.out⟩
      case measure => have := HLT.out; simp [intOf]; omega
     ·have hy1 : (y != 0) = true := by simpa using hy
      have hy2 : (y == 0) = false := by simpa using hy
      have HF := Hd (show caE x.ks i 1 = y from by rw [← HEQ.out]; exact caE_fix (by rw [HEQ.out]; exact hy) _ (by omega))
      clear hy
      go_wp2_with fail
      clear p0 p1 p2 p3 p4 p5 p6 p7 p8
      refine HSQ.out.mono ?_
      rintro e w4 ⟨rfl, b4⟩
      have HB4 := Hd (to_ HB1.out (to_ HBR.out b4))
      clear b4
      go_wp2_with fail
      go_ret
      exact ⟨by rw [HF.out]; rfl, HB4.out⟩
    ·have HF := Hd (show caE x.ks i 1 = 0 from by rw [show 1 = q from by omega]; exact HE.out)
     clear p0 p1 p2 p3 p4 p5 p6 p7 p8
     go_wp2_with fail
     go_ret
     exact ⟨by rw [HF.out]; rfl, to_ HB1.out HBR.out⟩
 ·have d1 : (p == 0) = false := by simpa using hp
  rw [if_neg (by simp [hp]), if_neg hp]
  obtain ⟨N, rfl⟩ := Int.eq_ofNat_of_zero_le hpi.1
  rw [show ((N : Int).toNat) = N from by simp]
  have hN : N ≤ 3 := by omega
  have hN0 : 0 < N := by omega
  have hmx : max (N : Int) 1 = (N : Int) := by omega
  clear hp hpi
  go_enter Tryz.func212, Tryz.ntmps212
  go_wp2_with fail
  refine (HP.out _).mono ?_
  rintro e w2 ⟨rfl, rfl⟩
  go_wp2_with fail
  clear hW1 p0 p1 p2 p3 p4 p5 p6 p7 p8
  go_loopw [8] (fun i9 wr => ∃ q : Nat, (q : Int) ≤ (N : Int) ∧ i9 = .int .i64 (q : Int) ∧ Hid (Below W1.heap.size W1 wr) ∧ Hid (caE x.ks i q = 0)) (fun i9 _ => ((N : Int)).toNat - (intOf i9).toNat)
  case atStart => exact ⟨0, by omega, rfl, Hd (Below.refl _ _), Hd rfl⟩
  case round =>
   obtain ⟨q, hq, rfl, HBR, HE⟩ := hrel
   obtain ⟨p0, p1, p2, p3, p4, p5, p6, p7, p8⟩ := blk9 (HX.out.below HBR.out HX.out.lt)
   by_cases hlt : (q : Int) < (N : Int)
   ·have HSQ := Hd (HS.out wr HBR.out (wrap64 (i + q)))
    have HEQ := Hd (show caE x.ks i (q + 1) = slE x.ks (wrap64 (i + q)) 0 from by rw [caE, if_pos HE.out])
    have hwi : IntKind.i64.wrap (i + (q : Int)) = wrap64 (i + q) := IntWalk.i64_left _
    have HLT := Hd hlt
    generalize wrap64 (i + q) = z at HSQ HEQ hwi
    generalize slE x.ks z 0 = y at HSQ HEQ
    by_cases hy : y = 0
    ·subst hy
     go_wp2_with fail
     clear p0 p1 p2 p3 p4 p5 p6 p7 p8
     refine HSQ.out.mono ?_
     rintro e w4 ⟨rfl, b4⟩
     have HB4 := Hd (to_ HBR.out b4)
     clear b4
     go_wp2_with fail
     go_roundw
     case rel => exact ⟨q + 1, by have := HLT.out; omega, by go_num, HB4, Hd HEQ.out⟩
     case measure => have := HLT.out; simp [intOf]; omega
    ·have hy1 : (y != 0) = true := by simpa using hy
     have hy2 : (y == 0) = false := by simpa using hy
     have HF := Hd (show caE x.ks i N = y from by rw [← HEQ.out]; exact caE_fix (by rw [HEQ.out]; exact hy) _ (by omega))
     clear hy
     go_wp2_with fail
     clear p0 p1 p2 p3 p4 p5 p6 p7 p8
     refine HSQ.out.mono ?_
     rintro e w4 ⟨rfl, b4⟩
     have HB4 := Hd (to_ HB1.out (to_ HBR.out b4))
     clear b4
     go_wp2_with fail
     go_ret
     exact ⟨by rw [HF.out]; rfl, HB4.out⟩
   ·have HF := Hd (show caE x.ks i N = 0 from by rw [show N = q from by omega]; exact HE.out)
    clear p0 p1 p2 p3 p4 p5 p6 p7 p8
    go_wp2_with fail
    go_ret
    exact ⟨by rw [HF.out]; rfl, to_ HB1.out HBR.out⟩
set_option maxHeartbeats 4000000 in
theorem dlt0_any (w : World) (AK AL AC AR : Option Addr) (nK cK nL cL nC cC nR cR : Nat) (x : Fn) (hF : FnW w AK nK cK AL nL cL AC nC cC AR nR cR x) (hm : nK ≤ 1000000) (yo ya yb yc yn : Int) (s0 : ByteArray) (s1 : Bool) (s2 s3 s4 : Int) (i : Int) (cl : Int) (hcl : dclV yo yc s3 = cl) : Calls Tryz.prog 185 #[.agg #[.int .i64 x.k, .slice AK nK cK, .int .i64 x.pd, .bool x.ns, .int .i64 x.f, .int .i64 x.t, .slice AL nL cL, .slice AC nC cC, .slice AR nR cR], .agg #[.int .i64 yo, .int .i64 ya, .int .i64 yb, .int .i64 yc, .int .i64 yn], .agg #[.string s0, .bool s1, .int .i64 s2, .int .i64 s3, .int .i64 s4], .int .u8 119, .int .i64 i] w fun e w' => e = .returned (.int .i64 (slE x.ks i 0)) ∧ Below w.heap.size w w' := by
 obtain ⟨W1, hW1⟩ : ∃ W1, ((w.alloc (.cells #[.int .i64 x.k, .slice AK nK cK, .int .i64 x.pd, .bool x.ns, .int .i64 x.f, .int .i64 x.t, .slice AL nL cL, .slice AC nC cC, .slice AR nR cR] 49)).alloc (.cells #[.int .i64 yo, .int .i64 ya, .int .i64 yb, .int .i64 yc, .int .i64 yn] 53)).alloc (.cells #[.string s0, .bool s1, .int .i64 s2, .int .i64 s3, .int .i64 s4] 79) = W1 := ⟨_, rfl⟩
 have HB1 := Hd (show Below w.heap.size w W1 from by rw [← hW1]; exact to_ (to_ (alloc_ _ _) (alloc_ _ _)) (alloc_ _ _))
 have HX := Hd (show Blk W1 w.heap.size 49 #[.int .i64 x.k, .slice AK nK cK, .int .i64 x.pd, .bool x.ns, .int .i64 x.f, .int .i64 x.t, .slice AL nL cL, .slice AC nC cC, .slice AR nR cR] from by rw [← hW1]; exact ((Blk.new w _ _).alloc _).alloc _)
 have HY := Hd (show Blk W1 (w.heap.size + 1) 53 #[.int .i64 yo, .int .i64 ya, .int .i64 yb, .int .i64 yc, .int .i64 yn] from by rw [← hW1]; exact (Blk.at_ _ _ (by simp)).alloc _)
 have HS := Hd (show Blk W1 (w.heap.size + 1 + 1) 79 #[.string s0, .bool s1, .int .i64 s2, .int .i64 s3, .int .i64 s4] from by rw [← hW1]; exact Blk.at_ _ _ (by simp))
 obtain ⟨p0, p1, p2, p3, p4, p5, p6, p7, p8⟩ := blk9 HX.out
 obtain ⟨y0, y1, y2, y3, y4⟩ := blk5 HY.out
 obtain ⟨z0, z1, z2, z3, z4⟩ := blk5 HS.out
 have HL := Hd (dsl_any W1 AK AL AC AR nK cK nL cL nC cC nR cR x (hF.on HB1.out) hm i 0)
 generalize slE x.ks i 0 = zz at HL ⊢
 unfold dclV at hcl
 clear hF
 by_cases h18 : yo = 18
 ·subst h18
  rw [if_pos rfl, ← IntWalk.i64_left] at hcl
  go_enter Tryz.func185, Tryz.ntmps185
  go_wp2_with fail
  refine HL.out.mono ?_
  rintro e w3 ⟨rfl, b3⟩
  have HB3 := Hd (to_ HB1.out b3)
  clear b3
  go_wp2_with fail
  go_ret
  exact ⟨rfl, HB3.out⟩
 rw [if_neg h18] at hcl
 have d18 : (yo == 18) = false := by simpa using h18
 by_cases h19 : yo = 19
 ·subst h19
  rw [if_pos (Or.inl rfl)] at hcl
  subst hcl
  clear h18
  go_enter Tryz.func185, Tryz.ntmps185
  go_wp2_with fail
  refine HL.out.mono ?_
  rintro e w3 ⟨rfl, b3⟩
  have HB3 := Hd (to_ HB1.out b3)
  clear b3
  go_wp2_with fail
  go_ret
  exact ⟨rfl, HB3.out⟩
 have d19 : (yo == 19) = false := by simpa using h19
 by_cases h17 : yo = 17
 ·subst h17
  rw [if_pos (Or.inr (Or.inl rfl))] at hcl
  subst hcl
  clear h18 h19
  go_enter Tryz.func185, Tryz.ntmps185
  go_wp2_with fail
  refine HL.out.mono ?_
  rintro e w3 ⟨rfl, b3⟩
  have HB3 := Hd (to_ HB1.out b3)
  clear b3
  go_wp2_with fail
  go_ret
  exact ⟨rfl, HB3.out⟩
 have d17 : (yo == 17) = false := by simpa using h17
 by_cases h21 : yo = 21
 ·subst h21
  rw [if_pos (Or.inr (Or.inr rfl))] at hcl
  subst hcl
  clear h18 h19 h17
  go_enter Tryz.func185, Tryz.ntmps185
  go_wp2_with fail
  refine HL.out.mono ?_
  rintro e w3 ⟨rfl, b3⟩
  have HB3 := Hd (to_ HB1.out b3)
  clear b3
  go_wp2_with fail
  go_ret
  exact ⟨rfl, HB3.out⟩
 have d21 : (yo == 21) = false := by simpa using h21
 rw [if_neg (by simp [h19, h17, h21])] at hcl
 subst hcl
 clear h18 h19 h17 h21
 go_enter Tryz.func185, Tryz.ntmps185
 go_wp2_with fail
 refine HL.out.mono ?_
 rintro e w3 ⟨rfl, b3⟩
 have HB3 := Hd (to_ HB1.out b3)
 clear b3
 go_wp2_with fail
 go_ret
 exact ⟨rfl, HB3.out⟩
set_option maxHeartbeats 4000000 in
theorem dlt1_any (w : World) (AK AL AC AR : Option Addr) (nK cK nL cL nC cC nR cR : Nat) (x : Fn) (hF : FnW w AK nK cK AL nL cL AC nC cC AR nR cR x) (hm : nK ≤ 1000000) (yo ya yb yc yn : Int) (s0 : ByteArray) (s1 : Bool) (s2 s3 s4 : Int) (i : Int) (cl : Int) (hcl : dclV yo yc s3 = cl) : Calls Tryz.prog 185 #[.agg #[.int .i64 x.k, .slice AK nK cK, .int .i64 x.pd, .bool x.ns, .int .i64 x.f, .int .i64 x.t, .slice AL nL cL, .slice AC nC cC, .slice AR nR cR], .agg #[.int .i64 yo, .int .i64 ya, .int .i64 yb, .int .i64 yc, .int .i64 yn], .agg #[.string s0, .bool s1, .int .i64 s2, .int .i64 s3, .int .i64 s4], .int .u8 114, .int .i64 i] w fun e w' => e = .returned (.int .i64 (slE x.ks i 0)) ∧ Below w.heap.size w w' := by
 obtain ⟨W1, hW1⟩ : ∃ W1, ((w.alloc (.cells #[.int .i64 x.k, .slice AK nK cK, .int .i64 x.pd, .bool x.ns, .int .i64 x.f, .int .i64 x.t, .slice AL nL cL, .slice AC nC cC, .slice AR nR cR] 49)).alloc (.cells #[.int .i64 yo, .int .i64 ya, .int .i64 yb, .int .i64 yc, .int .i64 yn] 53)).alloc (.cells #[.string s0, .bool s1, .int .i64 s2, .int .i64 s3, .int .i64 s4] 79) = W1 := ⟨_, rfl⟩
 have HB1 := Hd (show Below w.heap.size w W1 from by rw [← hW1]; exact to_ (to_ (alloc_ _ _) (alloc_ _ _)) (alloc_ _ _))
 have HX := Hd (show Blk W1 w.heap.size 49 #[.int .i64 x.k, .slice AK nK cK, .int .i64 x.pd, .bool x.ns, .int .i64 x.f, .int .i64 x.t, .slice AL nL cL, .slice AC nC cC, .slice AR nR cR] from by rw [← hW1]; exact ((Blk.new w _ _).alloc _).alloc _)
 have HY := Hd (show Blk W1 (w.heap.size + 1) 53 #[.int .i64 yo, .int .i64 ya, .int .i64 yb, .int .i64 yc, .int .i64 yn] from by rw [← hW1]; exact (Blk.at_ _ _ (by simp)).alloc _)
 have HS := Hd (show Blk W1 (w.heap.size + 1 + 1) 79 #[.string s0, .bool s1, .int .i64 s2, .int .i64 s3, .int .i64 s4] from by rw [← hW1]; exact Blk.at_ _ _ (by simp))
 obtain ⟨p0, p1, p2, p3, p4, p5, p6, p7, p8⟩ := blk9 HX.out
 obtain ⟨y0, y1, y2, y3, y4⟩ := blk5 HY.out
 obtain ⟨z0, z1, z2, z3, z4⟩ := blk5 HS.out
 have HL := Hd (dsl_any W1 AK AL AC AR nK cK nL cL nC cC nR cR x (hF.on HB1.out) hm i 0)
 generalize slE x.ks i 0 = zz at HL ⊢
 unfold dclV at hcl
 clear hF
 by_cases h18 : yo = 18
 ·subst h18
  rw [if_pos rfl, ← IntWalk.i64_left] at hcl
  go_enter Tryz.func185, Tryz.ntmps185
  go_wp2_with fail
  refine HL.out.mono ?_
  rintro e w3 ⟨rfl, b3⟩
  have HB3 := Hd (to_ HB1.out b3)
  clear b3
  go_wp2_with fail
  go_ret
  exact ⟨rfl, HB3.out⟩
 rw [if_neg h18] at hcl
 have d18 : (yo == 18) = false := by simpa using h18
 by_cases h19 : yo = 19
 ·subst h19
  rw [if_pos (Or.inl rfl)] at hcl
  subst hcl
  clear h18
  go_enter Tryz.func185, Tryz.ntmps185
  go_wp2_with fail
  refine HL.out.mono ?_
  rintro e w3 ⟨rfl, b3⟩
  have HB3 := Hd (to_ HB1.out b3)
  clear b3
  go_wp2_with fail
  go_ret
  exact ⟨rfl, HB3.out⟩
 have d19 : (yo == 19) = false := by simpa using h19
 by_cases h17 : yo = 17
 ·subst h17
  rw [if_pos (Or.inr (Or.inl rfl))] at hcl
  subst hcl
  clear h18 h19
  go_enter Tryz.func185, Tryz.ntmps185
  go_wp2_with fail
  refine HL.out.mono ?_
  rintro e w3 ⟨rfl, b3⟩
  have HB3 := Hd (to_ HB1.out b3)
  clear b3
  go_wp2_with fail
  go_ret
  exact ⟨rfl, HB3.out⟩
 have d17 : (yo == 17) = false := by simpa using h17
 by_cases h21 : yo = 21
 ·subst h21
  rw [if_pos (Or.inr (Or.inr rfl))] at hcl
  subst hcl
  clear h18 h19 h17
  go_enter Tryz.func185, Tryz.ntmps185
  go_wp2_with fail
  refine HL.out.mono ?_
  rintro e w3 ⟨rfl, b3⟩
  have HB3 := Hd (to_ HB1.out b3)
  clear b3
  go_wp2_with fail
  go_ret
  exact ⟨rfl, HB3.out⟩
 have d21 : (yo == 21) = false := by simpa using h21
 rw [if_neg (by simp [h19, h17, h21])] at hcl
 subst hcl
 clear h18 h19 h17 h21
 go_enter Tryz.func185, Tryz.ntmps185
 go_wp2_with fail
 refine HL.out.mono ?_
 rintro e w3 ⟨rfl, b3⟩
 have HB3 := Hd (to_ HB1.out b3)
 clear b3
 go_wp2_with fail
 go_ret
 exact ⟨rfl, HB3.out⟩
set_option maxHeartbeats 4000000 in
theorem dlt2_any (w : World) (AK AL AC AR : Option Addr) (nK cK nL cL nC cC nR cR : Nat) (x : Fn) (hF : FnW w AK nK cK AL nL cL AC nC cC AR nR cR x) (hm : nK ≤ 1000000) (yo ya yb yc yn : Int) (s0 : ByteArray) (s1 : Bool) (s2 s3 s4 : Int) (i : Int) (cl : Int) (hcl : dclV yo yc s3 = cl) : Calls Tryz.prog 185 #[.agg #[.int .i64 x.k, .slice AK nK cK, .int .i64 x.pd, .bool x.ns, .int .i64 x.f, .int .i64 x.t, .slice AL nL cL, .slice AC nC cC, .slice AR nR cR], .agg #[.int .i64 yo, .int .i64 ya, .int .i64 yb, .int .i64 yc, .int .i64 yn], .agg #[.string s0, .bool s1, .int .i64 s2, .int .i64 s3, .int .i64 s4], .int .u8 103, .int .i64 i] w fun e w' => e = .returned (.int .i64 (slE x.ks i (wrap64 (1 + cl)))) ∧ Below w.heap.size w w' := by
 obtain ⟨W1, hW1⟩ : ∃ W1, ((w.alloc (.cells #[.int .i64 x.k, .slice AK nK cK, .int .i64 x.pd, .bool x.ns, .int .i64 x.f, .int .i64 x.t, .slice AL nL cL, .slice AC nC cC, .slice AR nR cR] 49)).alloc (.cells #[.int .i64 yo, .int .i64 ya, .int .i64 yb, .int .i64 yc, .int .i64 yn] 53)).alloc (.cells #[.string s0, .bool s1, .int .i64 s2, .int .i64 s3, .int .i64 s4] 79) = W1 := ⟨_, rfl⟩
 have HB1 := Hd (show Below w.heap.size w W1 from by rw [← hW1]; exact to_ (to_ (alloc_ _ _) (alloc_ _ _)) (alloc_ _ _))
 have HX := Hd (show Blk W1 w.heap.size 49 #[.int .i64 x.k, .slice AK nK cK, .int .i64 x.pd, .bool x.ns, .int .i64 x.f, .int .i64 x.t, .slice AL nL cL, .slice AC nC cC, .slice AR nR cR] from by rw [← hW1]; exact ((Blk.new w _ _).alloc _).alloc _)
 have HY := Hd (show Blk W1 (w.heap.size + 1) 53 #[.int .i64 yo, .int .i64 ya, .int .i64 yb, .int .i64 yc, .int .i64 yn] from by rw [← hW1]; exact (Blk.at_ _ _ (by simp)).alloc _)
 have HS := Hd (show Blk W1 (w.heap.size + 1 + 1) 79 #[.string s0, .bool s1, .int .i64 s2, .int .i64 s3, .int .i64 s4] from by rw [← hW1]; exact Blk.at_ _ _ (by simp))
 obtain ⟨p0, p1, p2, p3, p4, p5, p6, p7, p8⟩ := blk9 HX.out
 obtain ⟨y0, y1, y2, y3, y4⟩ := blk5 HY.out
 obtain ⟨z0, z1, z2, z3, z4⟩ := blk5 HS.out
 have HL := Hd (dsl_any W1 AK AL AC AR nK cK nL cL nC cC nR cR x (hF.on HB1.out) hm i (IntKind.i64.wrap (1 + cl)))
 rw [IntWalk.i64_left] at HL
 generalize slE x.ks i (wrap64 (1 + cl)) = zz at HL ⊢
 have hwi : IntKind.i64.wrap (1 + cl) = wrap64 (1 + cl) := IntWalk.i64_left _
 unfold dclV at hcl
 clear hF
 by_cases h18 : yo = 18
 ·subst h18
  rw [if_pos rfl, ← IntWalk.i64_left] at hcl
  go_enter Tryz.func185, Tryz.ntmps185
  go_wp2_with fail
  refine HL.out.mono ?_
  rintro e w3 ⟨rfl, b3⟩
  have HB3 := Hd (to_ HB1.out b3)
  clear b3
  go_wp2_with fail
  go_ret
  exact ⟨rfl, HB3.out⟩
 rw [if_neg h18] at hcl
 have d18 : (yo == 18) = false := by simpa using h18
 by_cases h19 : yo = 19
 ·subst h19
  rw [if_pos (Or.inl rfl)] at hcl
  subst hcl
  clear h18
  go_enter Tryz.func185, Tryz.ntmps185
  go_wp2_with fail
  refine HL.out.mono ?_
  rintro e w3 ⟨rfl, b3⟩
  have HB3 := Hd (to_ HB1.out b3)
  clear b3
  go_wp2_with fail
  go_ret
  exact ⟨rfl, HB3.out⟩
 have d19 : (yo == 19) = false := by simpa using h19
 by_cases h17 : yo = 17
 ·subst h17
  rw [if_pos (Or.inr (Or.inl rfl))] at hcl
  subst hcl
  clear h18 h19
  go_enter Tryz.func185, Tryz.ntmps185
  go_wp2_with fail
  refine HL.out.mono ?_
  rintro e w3 ⟨rfl, b3⟩
  have HB3 := Hd (to_ HB1.out b3)
  clear b3
  go_wp2_with fail
  go_ret
  exact ⟨rfl, HB3.out⟩
 have d17 : (yo == 17) = false := by simpa using h17
 by_cases h21 : yo = 21
 ·subst h21
  rw [if_pos (Or.inr (Or.inr rfl))] at hcl
  subst hcl
  clear h18 h19 h17
  go_enter Tryz.func185, Tryz.ntmps185
  go_wp2_with fail
  refine HL.out.mono ?_
  rintro e w3 ⟨rfl, b3⟩
  have HB3 := Hd (to_ HB1.out b3)
  clear b3
  go_wp2_with fail
  go_ret
  exact ⟨rfl, HB3.out⟩
 have d21 : (yo == 21) = false := by simpa using h21
 rw [if_neg (by simp [h19, h17, h21])] at hcl
 subst hcl
 clear h18 h19 h17 h21
 go_enter Tryz.func185, Tryz.ntmps185
 go_wp2_with fail
 refine HL.out.mono ?_
 rintro e w3 ⟨rfl, b3⟩
 have HB3 := Hd (to_ HB1.out b3)
 clear b3
 go_wp2_with fail
 go_ret
 exact ⟨rfl, HB3.out⟩
set_option maxHeartbeats 4000000 in
theorem dlt3_any (w : World) (AK AL AC AR : Option Addr) (nK cK nL cL nC cC nR cR : Nat) (x : Fn) (hF : FnW w AK nK cK AL nL cL AC nC cC AR nR cR x) (hm : nK ≤ 1000000) (yo ya yb yc yn : Int) (s0 : ByteArray) (s1 : Bool) (s2 s3 s4 : Int) (i : Int) (cl : Int) (hcl : dclV yo yc s3 = cl) : Calls Tryz.prog 185 #[.agg #[.int .i64 x.k, .slice AK nK cK, .int .i64 x.pd, .bool x.ns, .int .i64 x.f, .int .i64 x.t, .slice AL nL cL, .slice AC nC cC, .slice AR nR cR], .agg #[.int .i64 yo, .int .i64 ya, .int .i64 yb, .int .i64 yc, .int .i64 yn], .agg #[.string s0, .bool s1, .int .i64 s2, .int .i64 s3, .int .i64 s4], .int .u8 102, .int .i64 i] w fun e w' => e = .returned (.int .i64 (slE x.ks i (wrap64 (1 + cl)))) ∧ Below w.heap.size w w' := by
 obtain ⟨W1, hW1⟩ : ∃ W1, ((w.alloc (.cells #[.int .i64 x.k, .slice AK nK cK, .int .i64 x.pd, .bool x.ns, .int .i64 x.f, .int .i64 x.t, .slice AL nL cL, .slice AC nC cC, .slice AR nR cR] 49)).alloc (.cells #[.int .i64 yo, .int .i64 ya, .int .i64 yb, .int .i64 yc, .int .i64 yn] 53)).alloc (.cells #[.string s0, .bool s1, .int .i64 s2, .int .i64 s3, .int .i64 s4] 79) = W1 := ⟨_, rfl⟩
 have HB1 := Hd (show Below w.heap.size w W1 from by rw [← hW1]; exact to_ (to_ (alloc_ _ _) (alloc_ _ _)) (alloc_ _ _))
 have HX := Hd (show Blk W1 w.heap.size 49 #[.int .i64 x.k, .slice AK nK cK, .int .i64 x.pd, .bool x.ns, .int .i64 x.f, .int .i64 x.t, .slice AL nL cL, .slice AC nC cC, .slice AR nR cR] from by rw [← hW1]; exact ((Blk.new w _ _).alloc _).alloc _)
 have HY := Hd (show Blk W1 (w.heap.size + 1) 53 #[.int .i64 yo, .int .i64 ya, .int .i64 yb, .int .i64 yc, .int .i64 yn] from by rw [← hW1]; exact (Blk.at_ _ _ (by simp)).alloc _)
 have HS := Hd (show Blk W1 (w.heap.size + 1 + 1) 79 #[.string s0, .bool s1, .int .i64 s2, .int .i64 s3, .int .i64 s4] from by rw [← hW1]; exact Blk.at_ _ _ (by simp))
 obtain ⟨p0, p1, p2, p3, p4, p5, p6, p7, p8⟩ := blk9 HX.out
 obtain ⟨y0, y1, y2, y3, y4⟩ := blk5 HY.out
 obtain ⟨z0, z1, z2, z3, z4⟩ := blk5 HS.out
 have HL := Hd (dsl_any W1 AK AL AC AR nK cK nL cL nC cC nR cR x (hF.on HB1.out) hm i (IntKind.i64.wrap (1 + cl)))
 rw [IntWalk.i64_left] at HL
 generalize slE x.ks i (wrap64 (1 + cl)) = zz at HL ⊢
 have hwi : IntKind.i64.wrap (1 + cl) = wrap64 (1 + cl) := IntWalk.i64_left _
 unfold dclV at hcl
 clear hF
 by_cases h18 : yo = 18
 ·subst h18
  rw [if_pos rfl, ← IntWalk.i64_left] at hcl
  go_enter Tryz.func185, Tryz.ntmps185
  go_wp2_with fail
  refine HL.out.mono ?_
  rintro e w3 ⟨rfl, b3⟩
  have HB3 := Hd (to_ HB1.out b3)
  clear b3
  go_wp2_with fail
  go_ret
  exact ⟨rfl, HB3.out⟩
 rw [if_neg h18] at hcl
 have d18 : (yo == 18) = false := by simpa using h18
 by_cases h19 : yo = 19
 ·subst h19
  rw [if_pos (Or.inl rfl)] at hcl
  subst hcl
  clear h18
  go_enter Tryz.func185, Tryz.ntmps185
  go_wp2_with fail
  refine HL.out.mono ?_
  rintro e w3 ⟨rfl, b3⟩
  have HB3 := Hd (to_ HB1.out b3)
  clear b3
  go_wp2_with fail
  go_ret
  exact ⟨rfl, HB3.out⟩
 have d19 : (yo == 19) = false := by simpa using h19
 by_cases h17 : yo = 17
 ·subst h17
  rw [if_pos (Or.inr (Or.inl rfl))] at hcl
  subst hcl
  clear h18 h19
  go_enter Tryz.func185, Tryz.ntmps185
  go_wp2_with fail
  refine HL.out.mono ?_
  rintro e w3 ⟨rfl, b3⟩
  have HB3 := Hd (to_ HB1.out b3)
  clear b3
  go_wp2_with fail
  go_ret
  exact ⟨rfl, HB3.out⟩
 have d17 : (yo == 17) = false := by simpa using h17
 by_cases h21 : yo = 21
 ·subst h21
  rw [if_pos (Or.inr (Or.inr rfl))] at hcl
  subst hcl
  clear h18 h19 h17
  go_enter Tryz.func185, Tryz.ntmps185
  go_wp2_with fail
  refine HL.out.mono ?_
  rintro e w3 ⟨rfl, b3⟩
  have HB3 := Hd (to_ HB1.out b3)
  clear b3
  go_wp2_with fail
  go_ret
  exact ⟨rfl, HB3.out⟩
 have d21 : (yo == 21) = false := by simpa using h21
 rw [if_neg (by simp [h19, h17, h21])] at hcl
 subst hcl
 clear h18 h19 h17 h21
 go_enter Tryz.func185, Tryz.ntmps185
 go_wp2_with fail
 refine HL.out.mono ?_
 rintro e w3 ⟨rfl, b3⟩
 have HB3 := Hd (to_ HB1.out b3)
 clear b3
 go_wp2_with fail
 go_ret
 exact ⟨rfl, HB3.out⟩
set_option maxHeartbeats 4000000 in
theorem dlt4_any (w : World) (AK AL AC AR : Option Addr) (nK cK nL cL nC cC nR cR : Nat) (x : Fn) (hF : FnW w AK nK cK AL nL cL AC nC cC AR nR cR x) (hm : nK ≤ 1000000) (yo ya yb yc yn : Int) (s0 : ByteArray) (s1 : Bool) (s2 s3 s4 : Int) (i : Int) (cl : Int) (hcl : dclV yo yc s3 = cl) : Calls Tryz.prog 185 #[.agg #[.int .i64 x.k, .slice AK nK cK, .int .i64 x.pd, .bool x.ns, .int .i64 x.f, .int .i64 x.t, .slice AL nL cL, .slice AC nC cC, .slice AR nR cR], .agg #[.int .i64 yo, .int .i64 ya, .int .i64 yb, .int .i64 yc, .int .i64 yn], .agg #[.string s0, .bool s1, .int .i64 s2, .int .i64 s3, .int .i64 s4], .int .u8 99, .int .i64 i] w fun e w' => e = .returned (.int .i64 (cdE x.ks cl i)) ∧ Below w.heap.size w w' := by
 obtain ⟨W1, hW1⟩ : ∃ W1, ((w.alloc (.cells #[.int .i64 x.k, .slice AK nK cK, .int .i64 x.pd, .bool x.ns, .int .i64 x.f, .int .i64 x.t, .slice AL nL cL, .slice AC nC cC, .slice AR nR cR] 49)).alloc (.cells #[.int .i64 yo, .int .i64 ya, .int .i64 yb, .int .i64 yc, .int .i64 yn] 53)).alloc (.cells #[.string s0, .bool s1, .int .i64 s2, .int .i64 s3, .int .i64 s4] 79) = W1 := ⟨_, rfl⟩
 have HB1 := Hd (show Below w.heap.size w W1 from by rw [← hW1]; exact to_ (to_ (alloc_ _ _) (alloc_ _ _)) (alloc_ _ _))
 have HX := Hd (show Blk W1 w.heap.size 49 #[.int .i64 x.k, .slice AK nK cK, .int .i64 x.pd, .bool x.ns, .int .i64 x.f, .int .i64 x.t, .slice AL nL cL, .slice AC nC cC, .slice AR nR cR] from by rw [← hW1]; exact ((Blk.new w _ _).alloc _).alloc _)
 have HY := Hd (show Blk W1 (w.heap.size + 1) 53 #[.int .i64 yo, .int .i64 ya, .int .i64 yb, .int .i64 yc, .int .i64 yn] from by rw [← hW1]; exact (Blk.at_ _ _ (by simp)).alloc _)
 have HS := Hd (show Blk W1 (w.heap.size + 1 + 1) 79 #[.string s0, .bool s1, .int .i64 s2, .int .i64 s3, .int .i64 s4] from by rw [← hW1]; exact Blk.at_ _ _ (by simp))
 obtain ⟨p0, p1, p2, p3, p4, p5, p6, p7, p8⟩ := blk9 HX.out
 obtain ⟨y0, y1, y2, y3, y4⟩ := blk5 HY.out
 obtain ⟨z0, z1, z2, z3, z4⟩ := blk5 HS.out
 have HL := Hd (dca_any W1 AK AL AC AR nK cK nL cL nC cC nR cR x (hF.on HB1.out) hm i cl)
 generalize cdE x.ks cl i = zz at HL ⊢
 unfold dclV at hcl
 clear hF
 by_cases h18 : yo = 18
 ·subst h18
  rw [if_pos rfl, ← IntWalk.i64_left] at hcl
  go_enter Tryz.func185, Tryz.ntmps185
  go_wp2_with fail
  refine HL.out.mono ?_
  rintro e w3 ⟨rfl, b3⟩
  have HB3 := Hd (to_ HB1.out b3)
  clear b3
  go_wp2_with fail
  go_ret
  exact ⟨rfl, HB3.out⟩
 rw [if_neg h18] at hcl
 have d18 : (yo == 18) = false := by simpa using h18
 by_cases h19 : yo = 19
 ·subst h19
  rw [if_pos (Or.inl rfl)] at hcl
  subst hcl
  clear h18
  go_enter Tryz.func185, Tryz.ntmps185
  go_wp2_with fail
  refine HL.out.mono ?_
  rintro e w3 ⟨rfl, b3⟩
  have HB3 := Hd (to_ HB1.out b3)
  clear b3
  go_wp2_with fail
  go_ret
  exact ⟨rfl, HB3.out⟩
 have d19 : (yo == 19) = false := by simpa using h19
 by_cases h17 : yo = 17
 ·subst h17
  rw [if_pos (Or.inr (Or.inl rfl))] at hcl
  subst hcl
  clear h18 h19
  go_enter Tryz.func185, Tryz.ntmps185
  go_wp2_with fail
  refine HL.out.mono ?_
  rintro e w3 ⟨rfl, b3⟩
  have HB3 := Hd (to_ HB1.out b3)
  clear b3
  go_wp2_with fail
  go_ret
  exact ⟨rfl, HB3.out⟩
 have d17 : (yo == 17) = false := by simpa using h17
 by_cases h21 : yo = 21
 ·subst h21
  rw [if_pos (Or.inr (Or.inr rfl))] at hcl
  subst hcl
  clear h18 h19 h17
  go_enter Tryz.func185, Tryz.ntmps185
  go_wp2_with fail
  refine HL.out.mono ?_
  rintro e w3 ⟨rfl, b3⟩
  have HB3 := Hd (to_ HB1.out b3)
  clear b3
  go_wp2_with fail
  go_ret
  exact ⟨rfl, HB3.out⟩
 have d21 : (yo == 21) = false := by simpa using h21
 rw [if_neg (by simp [h19, h17, h21])] at hcl
 subst hcl
 clear h18 h19 h17 h21
 go_enter Tryz.func185, Tryz.ntmps185
 go_wp2_with fail
 refine HL.out.mono ?_
 rintro e w3 ⟨rfl, b3⟩
 have HB3 := Hd (to_ HB1.out b3)
 clear b3
 go_wp2_with fail
 go_ret
 exact ⟨rfl, HB3.out⟩
set_option maxHeartbeats 4000000 in
theorem dlt7_any (w : World) (AK AL AC AR : Option Addr) (nK cK nL cL nC cC nR cR : Nat) (x : Fn) (hF : FnW w AK nK cK AL nL cL AC nC cC AR nR cR x) (hm : nK ≤ 1000000) (yo ya yb yc yn : Int) (s0 : ByteArray) (s1 : Bool) (s2 s3 s4 : Int) (i : Int) (c9 : Nat) (h9 : c9 ≠ 119 ∧ c9 ≠ 114 ∧ c9 ≠ 103 ∧ c9 ≠ 102 ∧ c9 ≠ 99 ∧ c9 ≠ 100 ∧ c9 ≠ 118) (cl : Int) (hcl : dclV yo yc s3 = cl) : Calls Tryz.prog 185 #[.agg #[.int .i64 x.k, .slice AK nK cK, .int .i64 x.pd, .bool x.ns, .int .i64 x.f, .int .i64 x.t, .slice AL nL cL, .slice AC nC cC, .slice AR nR cR], .agg #[.int .i64 yo, .int .i64 ya, .int .i64 yb, .int .i64 yc, .int .i64 yn], .agg #[.string s0, .bool s1, .int .i64 s2, .int .i64 s3, .int .i64 s4], .int .u8 (c9 : Int), .int .i64 i] w fun e w' => e = .returned (.int .i64 ((0 : Int))) ∧ Below w.heap.size w w' := by
 obtain ⟨W1, hW1⟩ : ∃ W1, ((w.alloc (.cells #[.int .i64 x.k, .slice AK nK cK, .int .i64 x.pd, .bool x.ns, .int .i64 x.f, .int .i64 x.t, .slice AL nL cL, .slice AC nC cC, .slice AR nR cR] 49)).alloc (.cells #[.int .i64 yo, .int .i64 ya, .int .i64 yb, .int .i64 yc, .int .i64 yn] 53)).alloc (.cells #[.string s0, .bool s1, .int .i64 s2, .int .i64 s3, .int .i64 s4] 79) = W1 := ⟨_, rfl⟩
 have HB1 := Hd (show Below w.heap.size w W1 from by rw [← hW1]; exact to_ (to_ (alloc_ _ _) (alloc_ _ _)) (alloc_ _ _))
 have HX := Hd (show Blk W1 w.heap.size 49 #[.int .i64 x.k, .slice AK nK cK, .int .i64 x.pd, .bool x.ns, .int .i64 x.f, .int .i64 x.t, .slice AL nL cL, .slice AC nC cC, .slice AR nR cR] from by rw [← hW1]; exact ((Blk.new w _ _).alloc _).alloc _)
 have HY := Hd (show Blk W1 (w.heap.size + 1) 53 #[.int .i64 yo, .int .i64 ya, .int .i64 yb, .int .i64 yc, .int .i64 yn] from by rw [← hW1]; exact (Blk.at_ _ _ (by simp)).alloc _)
 have HS := Hd (show Blk W1 (w.heap.size + 1 + 1) 79 #[.string s0, .bool s1, .int .i64 s2, .int .i64 s3, .int .i64 s4] from by rw [← hW1]; exact Blk.at_ _ _ (by simp))
 obtain ⟨p0, p1, p2, p3, p4, p5, p6, p7, p8⟩ := blk9 HX.out
 obtain ⟨y0, y1, y2, y3, y4⟩ := blk5 HY.out
 obtain ⟨z0, z1, z2, z3, z4⟩ := blk5 HS.out
 have d0 : ((c9 : Int) == 119) = false := by simp; omega
 have d1 : ((c9 : Int) == 114) = false := by simp; omega
 have d2 : ((c9 : Int) == 103) = false := by simp; omega
 have d3 : ((c9 : Int) == 102) = false := by simp; omega
 have d4 : ((c9 : Int) == 99) = false := by simp; omega
 have d5 : ((c9 : Int) == 100) = false := by simp; omega
 have d6 : ((c9 : Int) == 118) = false := by simp; omega
 clear h9
 unfold dclV at hcl
 clear hF
 by_cases h18 : yo = 18
 ·subst h18
  rw [if_pos rfl, ← IntWalk.i64_left] at hcl
  go_enter Tryz.func185, Tryz.ntmps185
  go_wp2_with fail
  go_ret
  exact ⟨rfl, HB1.out⟩
 rw [if_neg h18] at hcl
 have d18 : (yo == 18) = false := by simpa using h18
 by_cases h19 : yo = 19
 ·subst h19
  rw [if_pos (Or.inl rfl)] at hcl
  subst hcl
  clear h18
  go_enter Tryz.func185, Tryz.ntmps185
  go_wp2_with fail
  go_ret
  exact ⟨rfl, HB1.out⟩
 have d19 : (yo == 19) = false := by simpa using h19
 by_cases h17 : yo = 17
 ·subst h17
  rw [if_pos (Or.inr (Or.inl rfl))] at hcl
  subst hcl
  clear h18 h19
  go_enter Tryz.func185, Tryz.ntmps185
  go_wp2_with fail
  go_ret
  exact ⟨rfl, HB1.out⟩
 have d17 : (yo == 17) = false := by simpa using h17
 by_cases h21 : yo = 21
 ·subst h21
  rw [if_pos (Or.inr (Or.inr rfl))] at hcl
  subst hcl
  clear h18 h19 h17
  go_enter Tryz.func185, Tryz.ntmps185
  go_wp2_with fail
  go_ret
  exact ⟨rfl, HB1.out⟩
 have d21 : (yo == 21) = false := by simpa using h21
 rw [if_neg (by simp [h19, h17, h21])] at hcl
 subst hcl
 clear h18 h19 h17 h21
 go_enter Tryz.func185, Tryz.ntmps185
 go_wp2_with fail
 go_ret
 exact ⟨rfl, HB1.out⟩
set_option maxHeartbeats 4000000 in
theorem dlt5_any (w : World) (AK AL AC AR : Option Addr) (nK cK nL cL nC cC nR cR : Nat) (x : Fn) (hF : FnW w AK nK cK AL nL cL AC nC cC AR nR cR x) (hm : nK ≤ 1000000) (yo ya yb yc yn : Int) (s0 : ByteArray) (s1 : Bool) (s2 s3 s4 : Int) (i : Int) (cl : Int) (hcl : dclV yo yc s3 = cl) : Calls Tryz.prog 185 #[.agg #[.int .i64 x.k, .slice AK nK cK, .int .i64 x.pd, .bool x.ns, .int .i64 x.f, .int .i64 x.t, .slice AL nL cL, .slice AC nC cC, .slice AR nR cR], .agg #[.int .i64 yo, .int .i64 ya, .int .i64 yb, .int .i64 yc, .int .i64 yn], .agg #[.string s0, .bool s1, .int .i64 s2, .int .i64 s3, .int .i64 s4], .int .u8 100, .int .i64 i] w fun e w' => e = .returned (.int .i64 (dfE x.ks cl i)) ∧ Below w.heap.size w w' := by
 obtain ⟨W1, hW1⟩ : ∃ W1, ((w.alloc (.cells #[.int .i64 x.k, .slice AK nK cK, .int .i64 x.pd, .bool x.ns, .int .i64 x.f, .int .i64 x.t, .slice AL nL cL, .slice AC nC cC, .slice AR nR cR] 49)).alloc (.cells #[.int .i64 yo, .int .i64 ya, .int .i64 yb, .int .i64 yc, .int .i64 yn] 53)).alloc (.cells #[.string s0, .bool s1, .int .i64 s2, .int .i64 s3, .int .i64 s4] 79) = W1 := ⟨_, rfl⟩
 have HB1 := Hd (show Below w.heap.size w W1 from by rw [← hW1]; exact to_ (to_ (alloc_ _ _) (alloc_ _ _)) (alloc_ _ _))
 have HX := Hd (show Blk W1 w.heap.size 49 #[.int .i64 x.k, .slice AK nK cK, .int .i64 x.pd, .bool x.ns, .int .i64 x.f, .int .i64 x.t, .slice AL nL cL, .slice AC nC cC, .slice AR nR cR] from by rw [← hW1]; exact ((Blk.new w _ _).alloc _).alloc _)
 have HY := Hd (show Blk W1 (w.heap.size + 1) 53 #[.int .i64 yo, .int .i64 ya, .int .i64 yb, .int .i64 yc, .int .i64 yn] from by rw [← hW1]; exact (Blk.at_ _ _ (by simp)).alloc _)
 have HS := Hd (show Blk W1 (w.heap.size + 1 + 1) 79 #[.string s0, .bool s1, .int .i64 s2, .int .i64 s3, .int .i64 s4] from by rw [← hW1]; exact Blk.at_ _ _ (by simp))
 obtain ⟨p0, p1, p2, p3, p4, p5, p6, p7, p8⟩ := blk9 HX.out
 obtain ⟨y0, y1, y2, y3, y4⟩ := blk5 HY.out
 obtain ⟨z0, z1, z2, z3, z4⟩ := blk5 HS.out
 have HL := Hd (fun W (hw : Below W1.heap.size W1 W) => dpe_any W AK AL AC AR nK cK nL cL nC cC nR cR x (hF.on (to_ HB1.out hw)) hm i (decide (0 < Si.parV cl)))
 have MK := Hd (show ∀ W, Below W1.heap.size W1 W → (W.cell? ⟨w.heap.size, 0, none⟩ = some (.int .i64 x.k) ∧ W.cell? ⟨w.heap.size, 1, none⟩ = some (.slice AK nK cK) ∧ W.cell? ⟨w.heap.size, 2, none⟩ = some (.int .i64 x.pd) ∧ W.cell? ⟨w.heap.size, 3, none⟩ = some (.bool x.ns) ∧ W.cell? ⟨w.heap.size, 4, none⟩ = some (.int .i64 x.f) ∧ W.cell? ⟨w.heap.size, 5, none⟩ = some (.int .i64 x.t) ∧ W.cell? ⟨w.heap.size, 6, none⟩ = some (.slice AL nL cL) ∧ W.cell? ⟨w.heap.size, 7, none⟩ = some (.slice AC nC cC) ∧ W.cell? ⟨w.heap.size, 8, none⟩ = some (.slice AR nR cR)) ∧ Below W1.heap.size W1 W from fun W hw => ⟨blk9 (HX.out.below hw HX.out.lt), hw⟩)
 have HP := Hd (fun W => Si.rpar_any cl W)
 have hz : (if decide (0 < Si.parV cl) = true then slE x.ks i 0 else unE i) = dfE x.ks cl i := by
  unfold dfE
  have := par_in cl
  by_cases h : Si.parV cl = 0
  ·rw [if_pos h, if_neg (by simp [h])]
  ·rw [if_neg h, if_pos (by simp; omega)]
 simp only [hz] at HL
 generalize dfE x.ks cl i = zz at HL ⊢
 generalize Si.parV cl = pv at HL HP
 clear hz
 unfold dclV at hcl
 clear hF
 by_cases h18 : yo = 18
 ·subst h18
  rw [if_pos rfl, ← IntWalk.i64_left] at hcl
  go_enter Tryz.func185, Tryz.ntmps185
  go_wp2_with fail
  clear p0 p1 p2 p3 p4 p5 p6 p7 p8 y0 y1 y2 y3 y4 z0 z1 z2 z3 z4
  refine wp_region_noPanic ?_
  refine wp_region_held_drew (S := fun W => (W.cell? ⟨w.heap.size, 0, none⟩ = some (.int .i64 x.k) ∧ W.cell? ⟨w.heap.size, 1, none⟩ = some (.slice AK nK cK) ∧ W.cell? ⟨w.heap.size, 2, none⟩ = some (.int .i64 x.pd) ∧ W.cell? ⟨w.heap.size, 3, none⟩ = some (.bool x.ns) ∧ W.cell? ⟨w.heap.size, 4, none⟩ = some (.int .i64 x.f) ∧ W.cell? ⟨w.heap.size, 5, none⟩ = some (.int .i64 x.t) ∧ W.cell? ⟨w.heap.size, 6, none⟩ = some (.slice AL nL cL) ∧ W.cell? ⟨w.heap.size, 7, none⟩ = some (.slice AC nC cC) ∧ W.cell? ⟨w.heap.size, 8, none⟩ = some (.slice AR nR cR)) ∧ Below W1.heap.size W1 W) (by kernel_rfl) (MK.out _ (Below.refl _ _).drew) (fun hHeld => ?_)
  refine tk3Z 0 1 2 hHeld ?_
  refine rd1Z 3 (fun K hK => ?_)
  go_simp
  refine (HP.out _).mono ?_
  rintro e w2 ⟨rfl, rfl⟩
  try go_wp2_with fail
  refine hK.out _ _ (hHeld) ?_
  clear hK K hHeld
  intro hHeld
  try simp only [Act.put, nmZ]
  refine tk1Z 4 hHeld ?_
  refine rd1Z 5 (fun K hK => ?_)
  go_simp
  refine (HL.out _ hHeld.2).mono ?_
  rintro e w3 ⟨rfl, b3⟩
  have q3 := to_ hHeld.2 b3
  try go_wp2_with fail
  refine hK.out _ _ (MK.out _ q3) ?_
  clear hK K hHeld
  intro hHeld
  have HB3 := Hd (to_ HB1.out q3)
  clear b3 q3
  try simp only [Act.put, nmZ]
  refine tk1Z 6 hHeld ?_
  refine wpAnyH_done (by kernel_rfl) ?_ _
  refine NoPanic.normal ?_
  go_wp2_with fail
  go_ret
  exact ⟨rfl, HB3.out⟩
 rw [if_neg h18] at hcl
 have d18 : (yo == 18) = false := by simpa using h18
 by_cases h19 : yo = 19
 ·subst h19
  rw [if_pos (Or.inl rfl)] at hcl
  subst hcl
  clear h18
  go_enter Tryz.func185, Tryz.ntmps185
  go_wp2_with fail
  clear p0 p1 p2 p3 p4 p5 p6 p7 p8 y0 y1 y2 y3 y4 z0 z1 z2 z3 z4
  refine wp_region_noPanic ?_
  refine wp_region_held_drew (S := fun W => (W.cell? ⟨w.heap.size, 0, none⟩ = some (.int .i64 x.k) ∧ W.cell? ⟨w.heap.size, 1, none⟩ = some (.slice AK nK cK) ∧ W.cell? ⟨w.heap.size, 2, none⟩ = some (.int .i64 x.pd) ∧ W.cell? ⟨w.heap.size, 3, none⟩ = some (.bool x.ns) ∧ W.cell? ⟨w.heap.size, 4, none⟩ = some (.int .i64 x.f) ∧ W.cell? ⟨w.heap.size, 5, none⟩ = some (.int .i64 x.t) ∧ W.cell? ⟨w.heap.size, 6, none⟩ = some (.slice AL nL cL) ∧ W.cell? ⟨w.heap.size, 7, none⟩ = some (.slice AC nC cC) ∧ W.cell? ⟨w.heap.size, 8, none⟩ = some (.slice AR nR cR)) ∧ Below W1.heap.size W1 W) (by kernel_rfl) (MK.out _ (Below.refl _ _).drew) (fun hHeld => ?_)
  refine tk3Z 0 1 2 hHeld ?_
  refine rd1Z 3 (fun K hK => ?_)
  go_simp
  refine (HP.out _).mono ?_
  rintro e w2 ⟨rfl, rfl⟩
  try go_wp2_with fail
  refine hK.out _ _ (hHeld) ?_
  clear hK K hHeld
  intro hHeld
  try simp only [Act.put, nmZ]
  refine tk1Z 4 hHeld ?_
  refine rd1Z 5 (fun K hK => ?_)
  go_simp
  refine (HL.out _ hHeld.2).mono ?_
  rintro e w3 ⟨rfl, b3⟩
  have q3 := to_ hHeld.2 b3
  try go_wp2_with fail
  refine hK.out _ _ (MK.out _ q3) ?_
  clear hK K hHeld
  intro hHeld
  have HB3 := Hd (to_ HB1.out q3)
  clear b3 q3
  try simp only [Act.put, nmZ]
  refine tk1Z 6 hHeld ?_
  refine wpAnyH_done (by kernel_rfl) ?_ _
  refine NoPanic.normal ?_
  go_wp2_with fail
  go_ret
  exact ⟨rfl, HB3.out⟩
 have d19 : (yo == 19) = false := by simpa using h19
 by_cases h17 : yo = 17
 ·subst h17
  rw [if_pos (Or.inr (Or.inl rfl))] at hcl
  subst hcl
  clear h18 h19
  go_enter Tryz.func185, Tryz.ntmps185
  go_wp2_with fail
  clear p0 p1 p2 p3 p4 p5 p6 p7 p8 y0 y1 y2 y3 y4 z0 z1 z2 z3 z4
  refine wp_region_noPanic ?_
  refine wp_region_held_drew (S := fun W => (W.cell? ⟨w.heap.size, 0, none⟩ = some (.int .i64 x.k) ∧ W.cell? ⟨w.heap.size, 1, none⟩ = some (.slice AK nK cK) ∧ W.cell? ⟨w.heap.size, 2, none⟩ = some (.int .i64 x.pd) ∧ W.cell? ⟨w.heap.size, 3, none⟩ = some (.bool x.ns) ∧ W.cell? ⟨w.heap.size, 4, none⟩ = some (.int .i64 x.f) ∧ W.cell? ⟨w.heap.size, 5, none⟩ = some (.int .i64 x.t) ∧ W.cell? ⟨w.heap.size, 6, none⟩ = some (.slice AL nL cL) ∧ W.cell? ⟨w.heap.size, 7, none⟩ = some (.slice AC nC cC) ∧ W.cell? ⟨w.heap.size, 8, none⟩ = some (.slice AR nR cR)) ∧ Below W1.heap.size W1 W) (by kernel_rfl) (MK.out _ (Below.refl _ _).drew) (fun hHeld => ?_)
  refine tk3Z 0 1 2 hHeld ?_
  refine rd1Z 3 (fun K hK => ?_)
  go_simp
  refine (HP.out _).mono ?_
  rintro e w2 ⟨rfl, rfl⟩
  try go_wp2_with fail
  refine hK.out _ _ (hHeld) ?_
  clear hK K hHeld
  intro hHeld
  try simp only [Act.put, nmZ]
  refine tk1Z 4 hHeld ?_
  refine rd1Z 5 (fun K hK => ?_)
  go_simp
  refine (HL.out _ hHeld.2).mono ?_
  rintro e w3 ⟨rfl, b3⟩
  have q3 := to_ hHeld.2 b3
  try go_wp2_with fail
  refine hK.out _ _ (MK.out _ q3) ?_
  clear hK K hHeld
  intro hHeld
  have HB3 := Hd (to_ HB1.out q3)
  clear b3 q3
  try simp only [Act.put, nmZ]
  refine tk1Z 6 hHeld ?_
  refine wpAnyH_done (by kernel_rfl) ?_ _
  refine NoPanic.normal ?_
  go_wp2_with fail
  go_ret
  exact ⟨rfl, HB3.out⟩
 have d17 : (yo == 17) = false := by simpa using h17
 by_cases h21 : yo = 21
 ·subst h21
  rw [if_pos (Or.inr (Or.inr rfl))] at hcl
  subst hcl
  clear h18 h19 h17
  go_enter Tryz.func185, Tryz.ntmps185
  go_wp2_with fail
  clear p0 p1 p2 p3 p4 p5 p6 p7 p8 y0 y1 y2 y3 y4 z0 z1 z2 z3 z4
  refine wp_region_noPanic ?_
  refine wp_region_held_drew (S := fun W => (W.cell? ⟨w.heap.size, 0, none⟩ = some (.int .i64 x.k) ∧ W.cell? ⟨w.heap.size, 1, none⟩ = some (.slice AK nK cK) ∧ W.cell? ⟨w.heap.size, 2, none⟩ = some (.int .i64 x.pd) ∧ W.cell? ⟨w.heap.size, 3, none⟩ = some (.bool x.ns) ∧ W.cell? ⟨w.heap.size, 4, none⟩ = some (.int .i64 x.f) ∧ W.cell? ⟨w.heap.size, 5, none⟩ = some (.int .i64 x.t) ∧ W.cell? ⟨w.heap.size, 6, none⟩ = some (.slice AL nL cL) ∧ W.cell? ⟨w.heap.size, 7, none⟩ = some (.slice AC nC cC) ∧ W.cell? ⟨w.heap.size, 8, none⟩ = some (.slice AR nR cR)) ∧ Below W1.heap.size W1 W) (by kernel_rfl) (MK.out _ (Below.refl _ _).drew) (fun hHeld => ?_)
  refine tk3Z 0 1 2 hHeld ?_
  refine rd1Z 3 (fun K hK => ?_)
  go_simp
  refine (HP.out _).mono ?_
  rintro e w2 ⟨rfl, rfl⟩
  try go_wp2_with fail
  refine hK.out _ _ (hHeld) ?_
  clear hK K hHeld
  intro hHeld
  try simp only [Act.put, nmZ]
  refine tk1Z 4 hHeld ?_
  refine rd1Z 5 (fun K hK => ?_)
  go_simp
  refine (HL.out _ hHeld.2).mono ?_
  rintro e w3 ⟨rfl, b3⟩
  have q3 := to_ hHeld.2 b3
  try go_wp2_with fail
  refine hK.out _ _ (MK.out _ q3) ?_
  clear hK K hHeld
  intro hHeld
  have HB3 := Hd (to_ HB1.out q3)
  clear b3 q3
  try simp only [Act.put, nmZ]
  refine tk1Z 6 hHeld ?_
  refine wpAnyH_done (by kernel_rfl) ?_ _
  refine NoPanic.normal ?_
  go_wp2_with fail
  go_ret
  exact ⟨rfl, HB3.out⟩
 have d21 : (yo == 21) = false := by simpa using h21
 rw [if_neg (by simp [h19, h17, h21])] at hcl
 subst hcl
 clear h18 h19 h17 h21
 go_enter Tryz.func185, Tryz.ntmps185
 go_wp2_with fail
 clear p0 p1 p2 p3 p4 p5 p6 p7 p8 y0 y1 y2 y3 y4 z0 z1 z2 z3 z4
 refine wp_region_noPanic ?_
 refine wp_region_held_drew (S := fun W => (W.cell? ⟨w.heap.size, 0, none⟩ = some (.int .i64 x.k) ∧ W.cell? ⟨w.heap.size, 1, none⟩ = some (.slice AK nK cK) ∧ W.cell? ⟨w.heap.size, 2, none⟩ = some (.int .i64 x.pd) ∧ W.cell? ⟨w.heap.size, 3, none⟩ = some (.bool x.ns) ∧ W.cell? ⟨w.heap.size, 4, none⟩ = some (.int .i64 x.f) ∧ W.cell? ⟨w.heap.size, 5, none⟩ = some (.int .i64 x.t) ∧ W.cell? ⟨w.heap.size, 6, none⟩ = some (.slice AL nL cL) ∧ W.cell? ⟨w.heap.size, 7, none⟩ = some (.slice AC nC cC) ∧ W.cell? ⟨w.heap.size, 8, none⟩ = some (.slice AR nR cR)) ∧ Below W1.heap.size W1 W) (by kernel_rfl) (MK.out _ (Below.refl _ _).drew) (fun hHeld => ?_)
 refine tk3Z 0 1 2 hHeld ?_
 refine rd1Z 3 (fun K hK => ?_)
 go_simp
 refine (HP.out _).mono ?_
 rintro e w2 ⟨rfl, rfl⟩
 try go_wp2_with fail
 refine hK.out _ _ (hHeld) ?_
 clear hK K hHeld
 intro hHeld
 try simp only [Act.put, nmZ]
 refine tk1Z 4 hHeld ?_
 refine rd1Z 5 (fun K hK => ?_)
 go_simp
 refine (HL.out _ hHeld.2).mono ?_
 rintro e w3 ⟨rfl, b3⟩
 have q3 := to_ hHeld.2 b3
 try go_wp2_with fail
 refine hK.out _ _ (MK.out _ q3) ?_
 clear hK K hHeld
 intro hHeld
 have HB3 := Hd (to_ HB1.out q3)
 clear b3 q3
 try simp only [Act.put, nmZ]
 refine tk1Z 6 hHeld ?_
 refine wpAnyH_done (by kernel_rfl) ?_ _
 refine NoPanic.normal ?_
 go_wp2_with fail
 go_ret
 exact ⟨rfl, HB3.out⟩
set_option maxHeartbeats 4000000 in
theorem dlt6_any (w : World) (AK AL AC AR : Option Addr) (nK cK nL cL nC cC nR cR : Nat) (x : Fn) (hF : FnW w AK nK cK AL nL cL AC nC cC AR nR cR x) (hm : nK ≤ 1000000) (yo ya yb yc yn : Int) (s0 : ByteArray) (s1 : Bool) (s2 s3 s4 : Int) (i : Int) (cl : Int) (hcl : dclV yo yc s3 = cl) : Calls Tryz.prog 185 #[.agg #[.int .i64 x.k, .slice AK nK cK, .int .i64 x.pd, .bool x.ns, .int .i64 x.f, .int .i64 x.t, .slice AL nL cL, .slice AC nC cC, .slice AR nR cR], .agg #[.int .i64 yo, .int .i64 ya, .int .i64 yb, .int .i64 yc, .int .i64 yn], .agg #[.string s0, .bool s1, .int .i64 s2, .int .i64 s3, .int .i64 s4], .int .u8 118, .int .i64 i] w fun e w' => e = .returned (.int .i64 (anE x.ks x.k i)) ∧ Below w.heap.size w w' := by
 obtain ⟨W1, hW1⟩ : ∃ W1, ((w.alloc (.cells #[.int .i64 x.k, .slice AK nK cK, .int .i64 x.pd, .bool x.ns, .int .i64 x.f, .int .i64 x.t, .slice AL nL cL, .slice AC nC cC, .slice AR nR cR] 49)).alloc (.cells #[.int .i64 yo, .int .i64 ya, .int .i64 yb, .int .i64 yc, .int .i64 yn] 53)).alloc (.cells #[.string s0, .bool s1, .int .i64 s2, .int .i64 s3, .int .i64 s4] 79) = W1 := ⟨_, rfl⟩
 have HB1 := Hd (show Below w.heap.size w W1 from by rw [← hW1]; exact to_ (to_ (alloc_ _ _) (alloc_ _ _)) (alloc_ _ _))
 have HX := Hd (show Blk W1 w.heap.size 49 #[.int .i64 x.k, .slice AK nK cK, .int .i64 x.pd, .bool x.ns, .int .i64 x.f, .int .i64 x.t, .slice AL nL cL, .slice AC nC cC, .slice AR nR cR] from by rw [← hW1]; exact ((Blk.new w _ _).alloc _).alloc _)
 have HY := Hd (show Blk W1 (w.heap.size + 1) 53 #[.int .i64 yo, .int .i64 ya, .int .i64 yb, .int .i64 yc, .int .i64 yn] from by rw [← hW1]; exact (Blk.at_ _ _ (by simp)).alloc _)
 have HS := Hd (show Blk W1 (w.heap.size + 1 + 1) 79 #[.string s0, .bool s1, .int .i64 s2, .int .i64 s3, .int .i64 s4] from by rw [← hW1]; exact Blk.at_ _ _ (by simp))
 obtain ⟨p0, p1, p2, p3, p4, p5, p6, p7, p8⟩ := blk9 HX.out
 obtain ⟨y0, y1, y2, y3, y4⟩ := blk5 HY.out
 obtain ⟨z0, z1, z2, z3, z4⟩ := blk5 HS.out
 have HL := Hd (fun W (hw : Below W1.heap.size W1 W) => dpe_any W AK AL AC AR nK cK nL cL nC cC nR cR x (hF.on (to_ HB1.out hw)) hm i (Si.ansV x.k))
 have MK := Hd (show ∀ W, Below W1.heap.size W1 W → (W.cell? ⟨w.heap.size, 0, none⟩ = some (.int .i64 x.k) ∧ W.cell? ⟨w.heap.size, 1, none⟩ = some (.slice AK nK cK) ∧ W.cell? ⟨w.heap.size, 2, none⟩ = some (.int .i64 x.pd) ∧ W.cell? ⟨w.heap.size, 3, none⟩ = some (.bool x.ns) ∧ W.cell? ⟨w.heap.size, 4, none⟩ = some (.int .i64 x.f) ∧ W.cell? ⟨w.heap.size, 5, none⟩ = some (.int .i64 x.t) ∧ W.cell? ⟨w.heap.size, 6, none⟩ = some (.slice AL nL cL) ∧ W.cell? ⟨w.heap.size, 7, none⟩ = some (.slice AC nC cC) ∧ W.cell? ⟨w.heap.size, 8, none⟩ = some (.slice AR nR cR)) ∧ Below W1.heap.size W1 W from fun W hw => ⟨blk9 (HX.out.below hw HX.out.lt), hw⟩)
 have HP := Hd (fun W => Si.rans_any x.k W)
 have hz : (if Si.ansV x.k = true then slE x.ks i 0 else unE i) = anE x.ks x.k i := by
  unfold anE
  cases Si.ansV x.k <;> simp
 simp only [hz] at HL
 generalize anE x.ks x.k i = zz at HL ⊢
 generalize Si.ansV x.k = pv at HL HP
 clear hz
 unfold dclV at hcl
 clear hF
 by_cases h18 : yo = 18
 ·subst h18
  rw [if_pos rfl, ← IntWalk.i64_left] at hcl
  go_enter Tryz.func185, Tryz.ntmps185
  go_wp2_with fail
  clear p0 p1 p2 p3 p4 p5 p6 p7 p8 y0 y1 y2 y3 y4 z0 z1 z2 z3 z4
  refine wp_region_noPanic ?_
  refine wp_region_held_drew (S := fun W => (W.cell? ⟨w.heap.size, 0, none⟩ = some (.int .i64 x.k) ∧ W.cell? ⟨w.heap.size, 1, none⟩ = some (.slice AK nK cK) ∧ W.cell? ⟨w.heap.size, 2, none⟩ = some (.int .i64 x.pd) ∧ W.cell? ⟨w.heap.size, 3, none⟩ = some (.bool x.ns) ∧ W.cell? ⟨w.heap.size, 4, none⟩ = some (.int .i64 x.f) ∧ W.cell? ⟨w.heap.size, 5, none⟩ = some (.int .i64 x.t) ∧ W.cell? ⟨w.heap.size, 6, none⟩ = some (.slice AL nL cL) ∧ W.cell? ⟨w.heap.size, 7, none⟩ = some (.slice AC nC cC) ∧ W.cell? ⟨w.heap.size, 8, none⟩ = some (.slice AR nR cR)) ∧ Below W1.heap.size W1 W) (by kernel_rfl) (MK.out _ (Below.refl _ _).drew) (fun hHeld => ?_)
  refine tk4Z 0 1 2 3 hHeld ?_
  refine rd1Z 4 (fun K hK => ?_)
  go_simp
  refine (HP.out _).mono ?_
  rintro e w2 ⟨rfl, rfl⟩
  try go_wp2_with fail
  refine hK.out _ _ (hHeld) ?_
  clear hK K hHeld
  intro hHeld
  try simp only [Act.put, nmZ]
  refine rd1Z 5 (fun K hK => ?_)
  go_simp
  refine (HL.out _ hHeld.2).mono ?_
  rintro e w3 ⟨rfl, b3⟩
  have q3 := to_ hHeld.2 b3
  try go_wp2_with fail
  refine hK.out _ _ (MK.out _ q3) ?_
  clear hK K hHeld
  intro hHeld
  have HB3 := Hd (to_ HB1.out q3)
  clear b3 q3
  try simp only [Act.put, nmZ]
  refine tk1Z 6 hHeld ?_
  refine wpAnyH_done (by kernel_rfl) ?_ _
  refine NoPanic.normal ?_
  go_wp2_with fail
  go_ret
  exact ⟨rfl, HB3.out⟩
 rw [if_neg h18] at hcl
 have d18 : (yo == 18) = false := by simpa using h18
 by_cases h19 : yo = 19
 ·subst h19
  rw [if_pos (Or.inl rfl)] at hcl
  subst hcl
  clear h18
  go_enter Tryz.func185, Tryz.ntmps185
  go_wp2_with fail
  clear p0 p1 p2 p3 p4 p5 p6 p7 p8 y0 y1 y2 y3 y4 z0 z1 z2 z3 z4
  refine wp_region_noPanic ?_
  refine wp_region_held_drew (S := fun W => (W.cell? ⟨w.heap.size, 0, none⟩ = some (.int .i64 x.k) ∧ W.cell? ⟨w.heap.size, 1, none⟩ = some (.slice AK nK cK) ∧ W.cell? ⟨w.heap.size, 2, none⟩ = some (.int .i64 x.pd) ∧ W.cell? ⟨w.heap.size, 3, none⟩ = some (.bool x.ns) ∧ W.cell? ⟨w.heap.size, 4, none⟩ = some (.int .i64 x.f) ∧ W.cell? ⟨w.heap.size, 5, none⟩ = some (.int .i64 x.t) ∧ W.cell? ⟨w.heap.size, 6, none⟩ = some (.slice AL nL cL) ∧ W.cell? ⟨w.heap.size, 7, none⟩ = some (.slice AC nC cC) ∧ W.cell? ⟨w.heap.size, 8, none⟩ = some (.slice AR nR cR)) ∧ Below W1.heap.size W1 W) (by kernel_rfl) (MK.out _ (Below.refl _ _).drew) (fun hHeld => ?_)
  refine tk4Z 0 1 2 3 hHeld ?_
  refine rd1Z 4 (fun K hK => ?_)
  go_simp
  refine (HP.out _).mono ?_
  rintro e w2 ⟨rfl, rfl⟩
  try go_wp2_with fail
  refine hK.out _ _ (hHeld) ?_
  clear hK K hHeld
  intro hHeld
  try simp only [Act.put, nmZ]
  refine rd1Z 5 (fun K hK => ?_)
  go_simp
  refine (HL.out _ hHeld.2).mono ?_
  rintro e w3 ⟨rfl, b3⟩
  have q3 := to_ hHeld.2 b3
  try go_wp2_with fail
  refine hK.out _ _ (MK.out _ q3) ?_
  clear hK K hHeld
  intro hHeld
  have HB3 := Hd (to_ HB1.out q3)
  clear b3 q3
  try simp only [Act.put, nmZ]
  refine tk1Z 6 hHeld ?_
  refine wpAnyH_done (by kernel_rfl) ?_ _
  refine NoPanic.normal ?_
  go_wp2_with fail
  go_ret
  exact ⟨rfl, HB3.out⟩
 have d19 : (yo == 19) = false := by simpa using h19
 by_cases h17 : yo = 17
 ·subst h17
  rw [if_pos (Or.inr (Or.inl rfl))] at hcl
  subst hcl
  clear h18 h19
  go_enter Tryz.func185, Tryz.ntmps185
  go_wp2_with fail
  clear p0 p1 p2 p3 p4 p5 p6 p7 p8 y0 y1 y2 y3 y4 z0 z1 z2 z3 z4
  refine wp_region_noPanic ?_
  refine wp_region_held_drew (S := fun W => (W.cell? ⟨w.heap.size, 0, none⟩ = some (.int .i64 x.k) ∧ W.cell? ⟨w.heap.size, 1, none⟩ = some (.slice AK nK cK) ∧ W.cell? ⟨w.heap.size, 2, none⟩ = some (.int .i64 x.pd) ∧ W.cell? ⟨w.heap.size, 3, none⟩ = some (.bool x.ns) ∧ W.cell? ⟨w.heap.size, 4, none⟩ = some (.int .i64 x.f) ∧ W.cell? ⟨w.heap.size, 5, none⟩ = some (.int .i64 x.t) ∧ W.cell? ⟨w.heap.size, 6, none⟩ = some (.slice AL nL cL) ∧ W.cell? ⟨w.heap.size, 7, none⟩ = some (.slice AC nC cC) ∧ W.cell? ⟨w.heap.size, 8, none⟩ = some (.slice AR nR cR)) ∧ Below W1.heap.size W1 W) (by kernel_rfl) (MK.out _ (Below.refl _ _).drew) (fun hHeld => ?_)
  refine tk4Z 0 1 2 3 hHeld ?_
  refine rd1Z 4 (fun K hK => ?_)
  go_simp
  refine (HP.out _).mono ?_
  rintro e w2 ⟨rfl, rfl⟩
  try go_wp2_with fail
  refine hK.out _ _ (hHeld) ?_
  clear hK K hHeld
  intro hHeld
  try simp only [Act.put, nmZ]
  refine rd1Z 5 (fun K hK => ?_)
  go_simp
  refine (HL.out _ hHeld.2).mono ?_
  rintro e w3 ⟨rfl, b3⟩
  have q3 := to_ hHeld.2 b3
  try go_wp2_with fail
  refine hK.out _ _ (MK.out _ q3) ?_
  clear hK K hHeld
  intro hHeld
  have HB3 := Hd (to_ HB1.out q3)
  clear b3 q3
  try simp only [Act.put, nmZ]
  refine tk1Z 6 hHeld ?_
  refine wpAnyH_done (by kernel_rfl) ?_ _
  refine NoPanic.normal ?_
  go_wp2_with fail
  go_ret
  exact ⟨rfl, HB3.out⟩
 have d17 : (yo == 17) = false := by simpa using h17
 by_cases h21 : yo = 21
 ·subst h21
  rw [if_pos (Or.inr (Or.inr rfl))] at hcl
  subst hcl
  clear h18 h19 h17
  go_enter Tryz.func185, Tryz.ntmps185
  go_wp2_with fail
  clear p0 p1 p2 p3 p4 p5 p6 p7 p8 y0 y1 y2 y3 y4 z0 z1 z2 z3 z4
  refine wp_region_noPanic ?_
  refine wp_region_held_drew (S := fun W => (W.cell? ⟨w.heap.size, 0, none⟩ = some (.int .i64 x.k) ∧ W.cell? ⟨w.heap.size, 1, none⟩ = some (.slice AK nK cK) ∧ W.cell? ⟨w.heap.size, 2, none⟩ = some (.int .i64 x.pd) ∧ W.cell? ⟨w.heap.size, 3, none⟩ = some (.bool x.ns) ∧ W.cell? ⟨w.heap.size, 4, none⟩ = some (.int .i64 x.f) ∧ W.cell? ⟨w.heap.size, 5, none⟩ = some (.int .i64 x.t) ∧ W.cell? ⟨w.heap.size, 6, none⟩ = some (.slice AL nL cL) ∧ W.cell? ⟨w.heap.size, 7, none⟩ = some (.slice AC nC cC) ∧ W.cell? ⟨w.heap.size, 8, none⟩ = some (.slice AR nR cR)) ∧ Below W1.heap.size W1 W) (by kernel_rfl) (MK.out _ (Below.refl _ _).drew) (fun hHeld => ?_)
  refine tk4Z 0 1 2 3 hHeld ?_
  refine rd1Z 4 (fun K hK => ?_)
  go_simp
  refine (HP.out _).mono ?_
  rintro e w2 ⟨rfl, rfl⟩
  try go_wp2_with fail
  refine hK.out _ _ (hHeld) ?_
  clear hK K hHeld
  intro hHeld
  try simp only [Act.put, nmZ]
  refine rd1Z 5 (fun K hK => ?_)
  go_simp
  refine (HL.out _ hHeld.2).mono ?_
  rintro e w3 ⟨rfl, b3⟩
  have q3 := to_ hHeld.2 b3
  try go_wp2_with fail
  refine hK.out _ _ (MK.out _ q3) ?_
  clear hK K hHeld
  intro hHeld
  have HB3 := Hd (to_ HB1.out q3)
  clear b3 q3
  try simp only [Act.put, nmZ]
  refine tk1Z 6 hHeld ?_
  refine wpAnyH_done (by kernel_rfl) ?_ _
  refine NoPanic.normal ?_
  go_wp2_with fail
  go_ret
  exact ⟨rfl, HB3.out⟩
 have d21 : (yo == 21) = false := by simpa using h21
 rw [if_neg (by simp [h19, h17, h21])] at hcl
 subst hcl
 clear h18 h19 h17 h21
 go_enter Tryz.func185, Tryz.ntmps185
 go_wp2_with fail
 clear p0 p1 p2 p3 p4 p5 p6 p7 p8 y0 y1 y2 y3 y4 z0 z1 z2 z3 z4
 refine wp_region_noPanic ?_
 refine wp_region_held_drew (S := fun W => (W.cell? ⟨w.heap.size, 0, none⟩ = some (.int .i64 x.k) ∧ W.cell? ⟨w.heap.size, 1, none⟩ = some (.slice AK nK cK) ∧ W.cell? ⟨w.heap.size, 2, none⟩ = some (.int .i64 x.pd) ∧ W.cell? ⟨w.heap.size, 3, none⟩ = some (.bool x.ns) ∧ W.cell? ⟨w.heap.size, 4, none⟩ = some (.int .i64 x.f) ∧ W.cell? ⟨w.heap.size, 5, none⟩ = some (.int .i64 x.t) ∧ W.cell? ⟨w.heap.size, 6, none⟩ = some (.slice AL nL cL) ∧ W.cell? ⟨w.heap.size, 7, none⟩ = some (.slice AC nC cC) ∧ W.cell? ⟨w.heap.size, 8, none⟩ = some (.slice AR nR cR)) ∧ Below W1.heap.size W1 W) (by kernel_rfl) (MK.out _ (Below.refl _ _).drew) (fun hHeld => ?_)
 refine tk4Z 0 1 2 3 hHeld ?_
 refine rd1Z 4 (fun K hK => ?_)
 go_simp
 refine (HP.out _).mono ?_
 rintro e w2 ⟨rfl, rfl⟩
 try go_wp2_with fail
 refine hK.out _ _ (hHeld) ?_
 clear hK K hHeld
 intro hHeld
 try simp only [Act.put, nmZ]
 refine rd1Z 5 (fun K hK => ?_)
 go_simp
 refine (HL.out _ hHeld.2).mono ?_
 rintro e w3 ⟨rfl, b3⟩
 have q3 := to_ hHeld.2 b3
 try go_wp2_with fail
 refine hK.out _ _ (MK.out _ q3) ?_
 clear hK K hHeld
 intro hHeld
 have HB3 := Hd (to_ HB1.out q3)
 clear b3 q3
 try simp only [Act.put, nmZ]
 refine tk1Z 6 hHeld ?_
 refine wpAnyH_done (by kernel_rfl) ?_ _
 refine NoPanic.normal ?_
 go_wp2_with fail
 go_ret
 exact ⟨rfl, HB3.out⟩
theorem dlt_any (w : World) (AK AL AC AR : Option Addr) (nK cK nL cL nC cC nR cR : Nat) (x : Fn) (hF : FnW w AK nK cK AL nL cL AC nC cC AR nR cR x) (hm : nK ≤ 1000000) (yo ya yb yc yn : Int) (s0 : ByteArray) (s1 : Bool) (s2 s3 s4 : Int) (i : Int) (c9 : Nat) : Calls Tryz.prog 185 #[.agg #[.int .i64 x.k, .slice AK nK cK, .int .i64 x.pd, .bool x.ns, .int .i64 x.f, .int .i64 x.t, .slice AL nL cL, .slice AC nC cC, .slice AR nR cR], .agg #[.int .i64 yo, .int .i64 ya, .int .i64 yb, .int .i64 yc, .int .i64 yn], .agg #[.string s0, .bool s1, .int .i64 s2, .int .i64 s3, .int .i64 s4], .int .u8 (c9 : Int), .int .i64 i] w fun e w' => e = .returned (.int .i64 (ltE x.ks x.k (dclV yo yc s3) c9 i)) ∧ Below w.heap.size w w' := by
 by_cases h0 : c9 = 119
 ·subst h0; exact dlt0_any w AK AL AC AR nK cK nL cL nC cC nR cR x hF hm yo ya yb yc yn s0 s1 s2 s3 s4 i _ rfl
 by_cases h1 : c9 = 114
 ·subst h1; exact dlt1_any w AK AL AC AR nK cK nL cL nC cC nR cR x hF hm yo ya yb yc yn s0 s1 s2 s3 s4 i _ rfl
 by_cases h2 : c9 = 103
 ·subst h2; exact dlt2_any w AK AL AC AR nK cK nL cL nC cC nR cR x hF hm yo ya yb yc yn s0 s1 s2 s3 s4 i _ rfl
 by_cases h3 : c9 = 102
 ·subst h3; exact dlt3_any w AK AL AC AR nK cK nL cL nC cC nR cR x hF hm yo ya yb yc yn s0 s1 s2 s3 s4 i _ rfl
 by_cases h4 : c9 = 99
 ·subst h4; exact dlt4_any w AK AL AC AR nK cK nL cL nC cC nR cR x hF hm yo ya yb yc yn s0 s1 s2 s3 s4 i _ rfl
 by_cases h5 : c9 = 100
 ·subst h5; exact dlt5_any w AK AL AC AR nK cK nL cL nC cC nR cR x hF hm yo ya yb yc yn s0 s1 s2 s3 s4 i _ rfl
 by_cases h6 : c9 = 118
 ·subst h6; exact dlt6_any w AK AL AC AR nK cK nL cL nC cC nR cR x hF hm yo ya yb yc yn s0 s1 s2 s3 s4 i _ rfl
 have hz : ltE x.ks x.k (dclV yo yc s3) c9 i = 0 := by unfold ltE; simp [h0, h1, h2, h3, h4, h5, h6]
 rw [hz]
 exact dlt7_any w AK AL AC AR nK cK nL cL nC cC nR cR x hF hm yo ya yb yc yn s0 s1 s2 s3 s4 i c9 ⟨h0, h1, h2, h3, h4, h5, h6⟩ _ rfl
theorem inl_no {i : Int} {n : Nat} (h : inL i n = false) : i < 0 ∨ (n : Int) ≤ i := by unfold inL at h; simp at h; omega
set_option maxHeartbeats 4000000 in
theorem drf_any (w : World) (AK AL AC AR : Option Addr) (nK cK nL cL nC cC nR cR : Nat) (x : Fn) (hF : FnW w AK nK cK AL nL cL AC nC cC AR nR cR x) (hn : nR ≤ 1000000) (AS : Option Addr) (nS cS : Nat) (l : List Sy) (hS : SyL w AS nS cS l) (q : Nat) (hq : q < nC) (hop : -9223372036854775808 ≤ (inAt x.cs q).1 ∧ (inAt x.cs q).1 ≤ 9223372036854775807) :
  Calls Tryz.prog 182 #[.agg #[.int .i64 x.k, .slice AK nK cK, .int .i64 x.pd, .bool x.ns, .int .i64 x.f, .int .i64 x.t, .slice AL nL cL, .slice AC nC cC, .slice AR nR cR], .slice AS nS cS, .int .i64 (q : Int)] w fun e w' => e = .returned (.tuple #[.agg #[.string (dSy x l q (ndV (inAt x.cs q).1)).1, .bool (dSy x l q (ndV (inAt x.cs q).1)).2.1, .int .i64 (dSy x l q (ndV (inAt x.cs q).1)).2.2.1, .int .i64 (dSy x l q (ndV (inAt x.cs q).1)).2.2.2.1, .int .i64 (dSy x l q (ndV (inAt x.cs q).1)).2.2.2.2], .int .i64 (drE x l q (ndV (inAt x.cs q).1))]) ∧ Below w.heap.size w w' := by
 obtain ⟨W1, hW1⟩ : ∃ W1, (w.alloc (.cells #[.int .i64 x.k, .slice AK nK cK, .int .i64 x.pd, .bool x.ns, .int .i64 x.f, .int .i64 x.t, .slice AL nL cL, .slice AC nC cC, .slice AR nR cR] 49)).alloc (.cells #[.string ⟨#[]⟩, .bool false, .int .i64 0, .int .i64 0, .int .i64 0] 79) = W1 := ⟨_, rfl⟩
 have HB1 := Hd (show Below w.heap.size w W1 from by rw [← hW1]; exact to_ (alloc_ _ _) (alloc_ _ _))
 have HZ := Hd (show Blk W1 (w.heap.size + 1) 79 #[.string ⟨#[]⟩, .bool false, .int .i64 0, .int .i64 0, .int .i64 0] from by rw [← hW1]; exact Blk.at_ _ _ (by simp))
 have HX := Hd (show Blk W1 w.heap.size 49 #[.int .i64 x.k, .slice AK nK cK, .int .i64 x.pd, .bool x.ns, .int .i64 x.f, .int .i64 x.t, .slice AL nL cL, .slice AC nC cC, .slice AR nR cR] from by rw [← hW1]; exact (Blk.new w _ _).alloc _)
 obtain ⟨p0, p1, p2, p3, p4, p5, p6, p7, p8⟩ := blk9 HX.out
 obtain ⟨ad, rfl, hadb, k0, _, _, _, _⟩ := (hF.on HB1.out).hc.at_ hq
 have hqI : (q : Int) < (nC : Int) := by omega
 have HN := Hd (fun W => rneed_any (inAt x.cs q).1 hop.1 hop.2 W)
 have HH := Hd (fun W (hw : Below W1.heap.size W1 W) => has_any W AK AL (some ad) AR nK cK nL cL nC cC nR cR x (hF.on (to_ HB1.out hw)) hn (q : Int))
 have HS := Hd (fun W (hw : Below W1.heap.size W1 W) => dsym_any W AK AL (some ad) AR nK cK nL cL nC cC nR cR x (hF.on (to_ HB1.out hw)) hn (q : Int))
 have HSL := Hd (fun W (hw : Below W1.heap.size W1 W) => hS.on (to_ HB1.out hw))
 have hl : l.length = nS := hS.1
 have HDF := Hd (fun need nm loc so kd df W => dfi_any need nm loc so kd df W)
 have HRD := Hd (fun nd => show drE x l q nd = if decide (0 < nd) ≠ (refA x.rs q).isSome then 11 else if nd = 0 then 0 else if inL (veS x q) nS = false then 11 else if dfits nd (syAt l (veS x q).toNat).2.2.1 (syAt l (veS x q).toNat).2.2.2.1 = false then 8 else 0 from by unfold drE; rw [hl])
 have HRS := Hd (fun nd => show dSy x l q nd = if drE x l q nd = 0 then (if nd = 0 then sy0 else syAt l (veS x q).toNat) else sy0 from rfl)
 have hndp : 0 ≤ ndV (inAt x.cs q).1 := by have := nd_cases (inAt x.cs q).1; omega
 generalize dSy x l q = ds at HRS ⊢
 generalize drE x l q = de at HRD HRS ⊢
 generalize ndV (inAt x.cs q).1 = nd at HN hndp ⊢
 generalize (inAt x.cs q).1 = yo at k0 HN
 generalize veS x q = sm at HS HRD HRS
 generalize (refA x.rs q).isSome = hs at HH HRD
 have HRD := Hd (HRD.out nd)
 have HRS := Hd (HRS.out nd)
 generalize ds nd = dsv at HRS ⊢
 generalize de nd = dev at HRD HRS ⊢
 clear hF hS hl hq
 by_cases h0 : nd = 0
 ·subst h0
  clear hndp
  cases hs with
  | true =>
   rw [if_pos (by decide)] at HRD
   have hdev := HRD.out
   subst hdev
   rw [if_neg (by decide)] at HRS
   have hdsv := HRS.out
   subst hdsv
   go_enter Tryz.func182, Tryz.ntmps182
   go_wp2_with fail
   clear hW1 p0 p1 p2 p3 p4 p5 p6 p7 p8 k0
   refine (HN.out _).mono ?_
   rintro e w2 ⟨rfl, b2⟩
   have HB2 := Hd b2
   have HX2 := Hd (HX.out.below b2 HX.out.lt)
   clear b2
   obtain ⟨p0, p1, p2, p3, p4, p5, p6, p7, p8⟩ := blk9 HX2.out
   go_wp2_with fail
   clear p0 p1 p2 p3 p4 p5 p6 p7 p8
   refine (HH.out w2 HB2.out).mono ?_
   rintro e w3 ⟨rfl, b3⟩
   have HB3 := Hd (to_ HB2.out b3)
   have HX3 := Hd (HX2.out.below b3 HX2.out.lt)
   have HZ3 := Hd (HZ.out.below (to_ HB2.out b3) HZ.out.lt)
   clear b3
   have HPT := Hd (blk_put5 HZ3.out (.string ⟨#[]⟩) (.bool false) (.int .i64 0) (.int .i64 0) (.int .i64 0))
   have HPB := Hd (below_put5 (to_ HB1.out HB3.out) (w.heap.size + 1) (by omega) (.string ⟨#[]⟩) (.bool false) (.int .i64 0) (.int .i64 0) (.int .i64 0))
   obtain ⟨z0, z1, z2, z3, z4⟩ := blk5 HZ3.out
   obtain ⟨f0, f1, f2, f3, f4⟩ := blk5f HZ3.out
   go_wp2_with fail
   clear z0 z1 z2 z3 z4 f0 f1 f2 f3 f4
   obtain ⟨z0, z1, z2, z3, z4⟩ := blk5 HPT.out
   refine bodyPost_ret (v := .tuple #[.agg #[.string ⟨#[]⟩, .bool false, .int .i64 0, .int .i64 0, .int .i64 0], .int .i64 11]) (by simp [results, Tryz.results182, go_sem, z0, z1, z2, z3, z4]) rfl ?_
   exact ⟨rfl, HPB.out⟩
  | false =>
   rw [if_neg (by decide), if_pos rfl] at HRD
   have hdev := HRD.out
   subst hdev
   rw [if_pos rfl, if_pos rfl] at HRS
   have hdsv := HRS.out
   subst hdsv
   go_enter Tryz.func182, Tryz.ntmps182
   go_wp2_with fail
   clear hW1 p0 p1 p2 p3 p4 p5 p6 p7 p8 k0
   refine (HN.out _).mono ?_
   rintro e w2 ⟨rfl, b2⟩
   have HB2 := Hd b2
   have HX2 := Hd (HX.out.below b2 HX.out.lt)
   clear b2
   obtain ⟨p0, p1, p2, p3, p4, p5, p6, p7, p8⟩ := blk9 HX2.out
   go_wp2_with fail
   clear p0 p1 p2 p3 p4 p5 p6 p7 p8
   refine (HH.out w2 HB2.out).mono ?_
   rintro e w3 ⟨rfl, b3⟩
   have HB3 := Hd (to_ HB2.out b3)
   have HX3 := Hd (HX2.out.below b3 HX2.out.lt)
   have HZ3 := Hd (HZ.out.below (to_ HB2.out b3) HZ.out.lt)
   clear b3
   have HPT := Hd (blk_put5 HZ3.out (.string ⟨#[]⟩) (.bool false) (.int .i64 0) (.int .i64 0) (.int .i64 0))
   have HPB := Hd (below_put5 (to_ HB1.out HB3.out) (w.heap.size + 1) (by omega) (.string ⟨#[]⟩) (.bool false) (.int .i64 0) (.int .i64 0) (.int .i64 0))
   obtain ⟨z0, z1, z2, z3, z4⟩ := blk5 HZ3.out
   obtain ⟨f0, f1, f2, f3, f4⟩ := blk5f HZ3.out
   go_wp2_with fail
   clear z0 z1 z2 z3 z4 f0 f1 f2 f3 f4
   obtain ⟨z0, z1, z2, z3, z4⟩ := blk5 HPT.out
   refine bodyPost_ret (v := .tuple #[.agg #[.string ⟨#[]⟩, .bool false, .int .i64 0, .int .i64 0, .int .i64 0], .int .i64 0]) (by simp [results, Tryz.results182, go_sem, z0, z1, z2, z3, z4]) rfl ?_
   exact ⟨rfl, HPB.out⟩
 ·have hn0 : (nd == 0) = false := by simpa using h0
  have hp : 0 < nd := by omega
  have hp9 : decide (0 < nd) = true := by simpa using hp
  cases hs with
  | false =>
   rw [if_pos (by rw [hp9]; decide)] at HRD
   have hdev := HRD.out
   subst hdev
   rw [if_neg (by decide)] at HRS
   have hdsv := HRS.out
   subst hdsv
   clear h0 hndp
   go_enter Tryz.func182, Tryz.ntmps182
   go_wp2_with fail
   clear hW1 p0 p1 p2 p3 p4 p5 p6 p7 p8 k0
   refine (HN.out _).mono ?_
   rintro e w2 ⟨rfl, b2⟩
   have HB2 := Hd b2
   have HX2 := Hd (HX.out.below b2 HX.out.lt)
   clear b2
   obtain ⟨p0, p1, p2, p3, p4, p5, p6, p7, p8⟩ := blk9 HX2.out
   go_wp2_with fail
   clear p0 p1 p2 p3 p4 p5 p6 p7 p8
   refine (HH.out w2 HB2.out).mono ?_
   rintro e w3 ⟨rfl, b3⟩
   have HB3 := Hd (to_ HB2.out b3)
   have HX3 := Hd (HX2.out.below b3 HX2.out.lt)
   have HZ3 := Hd (HZ.out.below (to_ HB2.out b3) HZ.out.lt)
   clear b3
   have HPT := Hd (blk_put5 HZ3.out (.string ⟨#[]⟩) (.bool false) (.int .i64 0) (.int .i64 0) (.int .i64 0))
   have HPB := Hd (below_put5 (to_ HB1.out HB3.out) (w.heap.size + 1) (by omega) (.string ⟨#[]⟩) (.bool false) (.int .i64 0) (.int .i64 0) (.int .i64 0))
   obtain ⟨z0, z1, z2, z3, z4⟩ := blk5 HZ3.out
   obtain ⟨f0, f1, f2, f3, f4⟩ := blk5f HZ3.out
   go_wp2_with fail
   clear z0 z1 z2 z3 z4 f0 f1 f2 f3 f4
   obtain ⟨z0, z1, z2, z3, z4⟩ := blk5 HPT.out
   refine bodyPost_ret (v := .tuple #[.agg #[.string ⟨#[]⟩, .bool false, .int .i64 0, .int .i64 0, .int .i64 0], .int .i64 11]) (by simp [results, Tryz.results182, go_sem, z0, z1, z2, z3, z4]) rfl ?_
   exact ⟨rfl, HPB.out⟩
  | true =>
   rw [if_neg (by rw [hp9]; decide), if_neg h0] at HRD
   rw [if_neg h0] at HRS
   clear h0 hndp
   cases hin : inL sm nS with
   | false =>
    have hin9 := inl_no hin
    rw [if_pos hin] at HRD
    have hdev := HRD.out
    subst hdev
    rw [if_neg (by decide)] at HRS
    have hdsv := HRS.out
    subst hdsv
    clear hin
    by_cases hm0 : sm < 0
    ·have d0 : decide (sm < 0) = true := by simpa using hm0
     go_enter Tryz.func182, Tryz.ntmps182
     go_wp2_with fail
     clear hW1 p0 p1 p2 p3 p4 p5 p6 p7 p8 k0
     refine (HN.out _).mono ?_
     rintro e w2 ⟨rfl, b2⟩
     have HB2 := Hd b2
     have HX2 := Hd (HX.out.below b2 HX.out.lt)
     clear b2
     obtain ⟨p0, p1, p2, p3, p4, p5, p6, p7, p8⟩ := blk9 HX2.out
     go_wp2_with fail
     clear p0 p1 p2 p3 p4 p5 p6 p7 p8
     refine (HH.out w2 HB2.out).mono ?_
     rintro e w3 ⟨rfl, b3⟩
     have HB3 := Hd (to_ HB2.out b3)
     have HX3 := Hd (HX2.out.below b3 HX2.out.lt)
     have HZ3 := Hd (HZ.out.below (to_ HB2.out b3) HZ.out.lt)
     clear b3
     obtain ⟨p0, p1, p2, p3, p4, p5, p6, p7, p8⟩ := blk9 HX3.out
     go_wp2_with fail
     clear p0 p1 p2 p3 p4 p5 p6 p7 p8
     refine (HS.out w3 HB3.out).mono ?_
     rintro e w4 ⟨rfl, b4⟩
     have HB4 := Hd (to_ HB3.out b4)
     have HX4 := Hd (HX3.out.below b4 HX3.out.lt)
     have HZ4 := Hd (HZ3.out.below b4 HZ3.out.lt)
     clear b4
     have HPT := Hd (blk_put5 HZ4.out (.string ⟨#[]⟩) (.bool false) (.int .i64 0) (.int .i64 0) (.int .i64 0))
     have HPB := Hd (below_put5 (to_ HB1.out HB4.out) (w.heap.size + 1) (by omega) (.string ⟨#[]⟩) (.bool false) (.int .i64 0) (.int .i64 0) (.int .i64 0))
     obtain ⟨z0, z1, z2, z3, z4⟩ := blk5 HZ4.out
     obtain ⟨f0, f1, f2, f3, f4⟩ := blk5f HZ4.out
     go_wp2_with fail
     clear z0 z1 z2 z3 z4 f0 f1 f2 f3 f4
     obtain ⟨z0, z1, z2, z3, z4⟩ := blk5 HPT.out
     refine bodyPost_ret (v := .tuple #[.agg #[.string ⟨#[]⟩, .bool false, .int .i64 0, .int .i64 0, .int .i64 0], .int .i64 11]) (by simp [results, Tryz.results182, go_sem, z0, z1, z2, z3, z4]) rfl ?_
     exact ⟨rfl, HPB.out⟩
    ·have d0 : decide (sm < 0) = false := by simpa using hm0
     have d1 : decide ((nS : Int) ≤ sm) = true := by simp; omega
     clear hin9 hm0
     go_enter Tryz.func182, Tryz.ntmps182
     go_wp2_with fail
     clear hW1 p0 p1 p2 p3 p4 p5 p6 p7 p8 k0
     refine (HN.out _).mono ?_
     rintro e w2 ⟨rfl, b2⟩
     have HB2 := Hd b2
     have HX2 := Hd (HX.out.below b2 HX.out.lt)
     clear b2
     obtain ⟨p0, p1, p2, p3, p4, p5, p6, p7, p8⟩ := blk9 HX2.out
     go_wp2_with fail
     clear p0 p1 p2 p3 p4 p5 p6 p7 p8
     refine (HH.out w2 HB2.out).mono ?_
     rintro e w3 ⟨rfl, b3⟩
     have HB3 := Hd (to_ HB2.out b3)
     have HX3 := Hd (HX2.out.below b3 HX2.out.lt)
     have HZ3 := Hd (HZ.out.below (to_ HB2.out b3) HZ.out.lt)
     clear b3
     obtain ⟨p0, p1, p2, p3, p4, p5, p6, p7, p8⟩ := blk9 HX3.out
     go_wp2_with fail
     clear p0 p1 p2 p3 p4 p5 p6 p7 p8
     refine (HS.out w3 HB3.out).mono ?_
     rintro e w4 ⟨rfl, b4⟩
     have HB4 := Hd (to_ HB3.out b4)
     have HX4 := Hd (HX3.out.below b4 HX3.out.lt)
     have HZ4 := Hd (HZ3.out.below b4 HZ3.out.lt)
     clear b4
     have HPT := Hd (blk_put5 HZ4.out (.string ⟨#[]⟩) (.bool false) (.int .i64 0) (.int .i64 0) (.int .i64 0))
     have HPB := Hd (below_put5 (to_ HB1.out HB4.out) (w.heap.size + 1) (by omega) (.string ⟨#[]⟩) (.bool false) (.int .i64 0) (.int .i64 0) (.int .i64 0))
     obtain ⟨z0, z1, z2, z3, z4⟩ := blk5 HZ4.out
     obtain ⟨f0, f1, f2, f3, f4⟩ := blk5f HZ4.out
     go_wp2_with fail
     clear z0 z1 z2 z3 z4 f0 f1 f2 f3 f4
     obtain ⟨z0, z1, z2, z3, z4⟩ := blk5 HPT.out
     refine bodyPost_ret (v := .tuple #[.agg #[.string ⟨#[]⟩, .bool false, .int .i64 0, .int .i64 0, .int .i64 0], .int .i64 11]) (by simp [results, Tryz.results182, go_sem, z0, z1, z2, z3, z4]) rfl ?_
     exact ⟨rfl, HPB.out⟩
   | true =>
    rw [if_neg (by rw [hin]; decide)] at HRD
    have hi2 : 0 ≤ sm ∧ sm < (nS : Int) := by unfold inL at hin; exact of_decide_eq_true hin
    obtain ⟨p, rfl⟩ := Int.eq_ofNat_of_zero_le hi2.1
    have hpI : (p : Int) < (nS : Int) := hi2.2
    have d0 : ¬ (p : Int) < 0 := by omega
    have HPL := Hd (show p < nS by omega)
    rw [show ((p : Int).toNat) = p from by simp] at HRD HRS
    have HAT := Hd (fun W (hw : Below W1.heap.size W1 W) => (HSL.out W hw).at_ HPL.out)
    generalize syAt l p = s at HRD HRS HAT
    obtain ⟨s0, s1, s2, s3, s4⟩ := s
    dsimp only at HRD HAT
    have HFI := Hd (fun W => HDF.out nd s0 s1 s2 s3 s4 W)
    generalize dfits nd s2 s3 = fb at HRD HFI
    clear hin hi2
    cases fb with
    | false =>
     rw [if_pos rfl] at HRD
     have hdev := HRD.out
     subst hdev
     rw [if_neg (by decide)] at HRS
     have hdsv := HRS.out
     subst hdsv
     go_enter Tryz.func182, Tryz.ntmps182
     go_wp2_with fail
     clear hW1 p0 p1 p2 p3 p4 p5 p6 p7 p8 k0
     refine (HN.out _).mono ?_
     rintro e w2 ⟨rfl, b2⟩
     have HB2 := Hd b2
     have HX2 := Hd (HX.out.below b2 HX.out.lt)
     clear b2
     obtain ⟨p0, p1, p2, p3, p4, p5, p6, p7, p8⟩ := blk9 HX2.out
     go_wp2_with fail
     clear p0 p1 p2 p3 p4 p5 p6 p7 p8
     refine (HH.out w2 HB2.out).mono ?_
     rintro e w3 ⟨rfl, b3⟩
     have HB3 := Hd (to_ HB2.out b3)
     have HX3 := Hd (HX2.out.below b3 HX2.out.lt)
     have HZ3 := Hd (HZ.out.below (to_ HB2.out b3) HZ.out.lt)
     clear b3
     obtain ⟨p0, p1, p2, p3, p4, p5, p6, p7, p8⟩ := blk9 HX3.out
     go_wp2_with fail
     clear p0 p1 p2 p3 p4 p5 p6 p7 p8
     refine (HS.out w3 HB3.out).mono ?_
     rintro e w4 ⟨rfl, b4⟩
     have HB4 := Hd (to_ HB3.out b4)
     have HX4 := Hd (HX3.out.below b4 HX3.out.lt)
     have HZ4 := Hd (HZ3.out.below b4 HZ3.out.lt)
     clear b4
     obtain ⟨a9, rfl, hab, j0, j1, j2, j3, j4⟩ := HAT.out w4 HB4.out
     go_wp2_with fail
     clear j0 j1 j2 j3 j4
     refine (HFI.out _).mono ?_
     rintro e w5 ⟨rfl, b5⟩
     have HB5 := Hd (to_ HB4.out b5)
     have HZ5 := Hd (HZ4.out.below b5 HZ4.out.lt)
     clear b5
     have HPT := Hd (blk_put5 HZ5.out (.string ⟨#[]⟩) (.bool false) (.int .i64 0) (.int .i64 0) (.int .i64 0))
     have HPB := Hd (below_put5 (to_ HB1.out HB5.out) (w.heap.size + 1) (by omega) (.string ⟨#[]⟩) (.bool false) (.int .i64 0) (.int .i64 0) (.int .i64 0))
     obtain ⟨z0, z1, z2, z3, z4⟩ := blk5 HZ5.out
     obtain ⟨f0, f1, f2, f3, f4⟩ := blk5f HZ5.out
     go_wp2_with fail
     clear z0 z1 z2 z3 z4 f0 f1 f2 f3 f4
     obtain ⟨z0, z1, z2, z3, z4⟩ := blk5 HPT.out
     refine bodyPost_ret (v := .tuple #[.agg #[.string ⟨#[]⟩, .bool false, .int .i64 0, .int .i64 0, .int .i64 0], .int .i64 8]) (by simp [results, Tryz.results182, go_sem, z0, z1, z2, z3, z4]) rfl ?_
     exact ⟨rfl, HPB.out⟩
    | true =>
     rw [if_neg (by decide)] at HRD
     have hdev := HRD.out
     subst hdev
     rw [if_pos rfl] at HRS
     have hdsv := HRS.out
     subst hdsv
     go_enter Tryz.func182, Tryz.ntmps182
     go_wp2_with fail
     clear hW1 p0 p1 p2 p3 p4 p5 p6 p7 p8 k0
     refine (HN.out _).mono ?_
     rintro e w2 ⟨rfl, b2⟩
     have HB2 := Hd b2
     have HX2 := Hd (HX.out.below b2 HX.out.lt)
     clear b2
     obtain ⟨p0, p1, p2, p3, p4, p5, p6, p7, p8⟩ := blk9 HX2.out
     go_wp2_with fail
     clear p0 p1 p2 p3 p4 p5 p6 p7 p8
     refine (HH.out w2 HB2.out).mono ?_
     rintro e w3 ⟨rfl, b3⟩
     have HB3 := Hd (to_ HB2.out b3)
     have HX3 := Hd (HX2.out.below b3 HX2.out.lt)
     have HZ3 := Hd (HZ.out.below (to_ HB2.out b3) HZ.out.lt)
     clear b3
     obtain ⟨p0, p1, p2, p3, p4, p5, p6, p7, p8⟩ := blk9 HX3.out
     go_wp2_with fail
     clear p0 p1 p2 p3 p4 p5 p6 p7 p8
     refine (HS.out w3 HB3.out).mono ?_
     rintro e w4 ⟨rfl, b4⟩
     have HB4 := Hd (to_ HB3.out b4)
     have HX4 := Hd (HX3.out.below b4 HX3.out.lt)
     have HZ4 := Hd (HZ3.out.below b4 HZ3.out.lt)
     clear b4
     obtain ⟨a9, rfl, hab, j0, j1, j2, j3, j4⟩ := HAT.out w4 HB4.out
     go_wp2_with fail
     clear j0 j1 j2 j3 j4
     refine (HFI.out _).mono ?_
     rintro e w5 ⟨rfl, b5⟩
     have HB5 := Hd (to_ HB4.out b5)
     have HZ5 := Hd (HZ4.out.below b5 HZ4.out.lt)
     clear b5
     obtain ⟨a8, e8, hab8, j0, j1, j2, j3, j4⟩ := HAT.out w5 HB5.out
     injection e8 with e8
     subst e8
     have HPT := Hd (blk_put5 HZ5.out (.string s0) (.bool s1) (.int .i64 s2) (.int .i64 s3) (.int .i64 s4))
     have HPB := Hd (below_put5 (to_ HB1.out HB5.out) (w.heap.size + 1) (by omega) (.string s0) (.bool s1) (.int .i64 s2) (.int .i64 s3) (.int .i64 s4))
     obtain ⟨z0, z1, z2, z3, z4⟩ := blk5 HZ5.out
     obtain ⟨f0, f1, f2, f3, f4⟩ := blk5f HZ5.out
     go_wp2_with fail
     clear z0 z1 z2 z3 z4 f0 f1 f2 f3 f4
     obtain ⟨z0, z1, z2, z3, z4⟩ := blk5 HPT.out
     refine bodyPost_ret (v := .tuple #[.agg #[.string s0, .bool s1, .int .i64 s2, .int .i64 s3, .int .i64 s4], .int .i64 0]) (by simp [results, Tryz.results182, go_sem, z0, z1, z2, z3, z4]) rfl ?_
     exact ⟨rfl, HPB.out⟩
set_option maxHeartbeats 4000000 in
theorem dvi_any (w : World) (AK AL AC AR : Option Addr) (nK cK nL cL nC cC nR cR : Nat) (x : Fn) (hF : FnW w AK nK cK AL nL cL AC nC cC AR nR cR x) (hn : nR ≤ 1000000) (hnK : nK ≤ 1000000) (AS : Option Addr) (nS cS : Nat) (l : List Sy) (hS : SyL w AS nS cS l) (hbo : ∀ k, k < x.cs.length → -9223372036854775808 ≤ (inAt x.cs k).1 ∧ (inAt x.cs k).1 ≤ 9223372036854775807) (i : Int) :
  Calls Tryz.prog 158 #[.agg #[.int .i64 x.k, .slice AK nK cK, .int .i64 x.pd, .bool x.ns, .int .i64 x.f, .int .i64 x.t, .slice AL nL cL, .slice AC nC cC, .slice AR nR cR], .slice AS nS cS, .int .i64 i] w fun e w' => e = .returned (.int .i64 (dvI x l i)) ∧ Below w.heap.size w w' := by
 obtain ⟨W1, hW1⟩ : ∃ W1, w.alloc (.cells #[.int .i64 x.k, .slice AK nK cK, .int .i64 x.pd, .bool x.ns, .int .i64 x.f, .int .i64 x.t, .slice AL nL cL, .slice AC nC cC, .slice AR nR cR] 49) = W1 := ⟨_, rfl⟩
 have HB1 := Hd (show Below w.heap.size w W1 from by rw [← hW1]; exact alloc_ _ _)
 have HX := Hd (show Blk W1 w.heap.size 49 #[.int .i64 x.k, .slice AK nK cK, .int .i64 x.pd, .bool x.ns, .int .i64 x.f, .int .i64 x.t, .slice AL nL cL, .slice AC nC cC, .slice AR nR cR] from by rw [← hW1]; exact Blk.new w _ _)
 obtain ⟨p0, p1, p2, p3, p4, p5, p6, p7, p8⟩ := blk9 HX.out
 have hcl : x.cs.length = nC := hF.hc.1
 unfold dvI
 rw [hcl]
 cases hin : inL i nC with
 | false =>
  have hin9 := inl_no hin
  rw [if_pos rfl]
  clear hin hcl hF hS hbo
  by_cases hm0 : i < 0
  ·have d0 : decide (i < 0) = true := by simpa using hm0
   go_enter Tryz.func158, Tryz.ntmps158
   go_wp2_with fail
   go_ret
   exact ⟨rfl, HB1.out⟩
  ·have d0 : decide (i < 0) = false := by simpa using hm0
   have d1 : decide ((nC : Int) ≤ i) = true := by simp; omega
   go_enter Tryz.func158, Tryz.ntmps158
   go_wp2_with fail
   go_ret
   exact ⟨rfl, HB1.out⟩
 | true =>
  rw [if_neg (by decide)]
  have hi2 : 0 ≤ i ∧ i < (nC : Int) := by unfold inL at hin; exact of_decide_eq_true hin
  obtain ⟨q, rfl⟩ := Int.eq_ofNat_of_zero_le hi2.1
  have hqI : (q : Int) < (nC : Int) := hi2.2
  have hq : q < nC := by omega
  have d0 : ¬ (q : Int) < 0 := by omega
  rw [show ((q : Int).toNat) = q from by simp]
  have hop := hbo q (by rw [hcl]; exact hq)
  have HRF := Hd (fun W (hw : Below W1.heap.size W1 W) => drf_any W AK AL AC AR nK cK nL cL nC cC nR cR x (hF.on (to_ HB1.out hw)) hn AS nS cS l (hS.on (to_ HB1.out hw)) q hq hop)
  have HSH := Hd (fun W => rshape_any (inAt x.cs q).1 hop.1 hop.2 W)
  have HFA : ∃ ad, AC = some ad ∧ ad.block < W1.heap.size ∧ W1.cell? (ad.add (q * 5)) = some (.int .i64 (inAt x.cs q).1) ∧ W1.cell? ⟨(ad.add (q * 5)).block, (ad.add (q * 5)).off + 1, none⟩ = some (.int .i64 (inAt x.cs q).2.1) ∧ W1.cell? ⟨(ad.add (q * 5)).block, (ad.add (q * 5)).off + 2, none⟩ = some (.int .i64 (inAt x.cs q).2.2.1) ∧ W1.cell? ⟨(ad.add (q * 5)).block, (ad.add (q * 5)).off + 3, none⟩ = some (.int .i64 (inAt x.cs q).2.2.2.1) ∧ W1.cell? ⟨(ad.add (q * 5)).block, (ad.add (q * 5)).off + 4, none⟩ = some (.int .i64 (inAt x.cs q).2.2.2.2) := (hF.on HB1.out).hc.at_ hq
  have HFX := Hd (fun W (hw : Below W1.heap.size W1 W) => hF.on (to_ HB1.out hw))
  have HSL := Hd (shV_list (inAt x.cs q).1)
  have HL4 := Hd (shl_len (inAt x.cs q).1)
  generalize drE x l q (ndV (inAt x.cs q).1) = de at HRF ⊢
  generalize dSy x l q (ndV (inAt x.cs q).1) = s at HRF ⊢
  obtain ⟨s0, s1, s2, s3, s4⟩ := s
  dsimp only at HRF ⊢
  generalize inAt x.cs q = y at HFA HSH HSL HL4 ⊢
  obtain ⟨yo, ya, yb, yc, yn⟩ := y
  dsimp only at HFA HSH HSL HL4 ⊢
  have HOD := Hd (fun W (hw : Below W1.heap.size W1 W) k c9 => dlt_any W AK AL AC AR nK cK nL cL nC cC nR cR x (HFX.out W hw) hnK yo ya yb yc yn s0 s1 s2 s3 s4 (opdV ya yb yc yn k) c9)
  have HPD := Hd (fun W k => roperand_any yo ya yb yc yn k W)
  have HOE := Hd (fun k => show opE x.ks x.k (dclV yo yc s3) (yo, ya, yb, yc, yn) (k + 1) = if opE x.ks x.k (dclV yo yc s3) (yo, ya, yb, yc, yn) k = 0 then ltE x.ks x.k (dclV yo yc s3) ((shl yo).getD k 0).toNat (opdV ya yb yc yn k) else opE x.ks x.k (dclV yo yc s3) (yo, ya, yb, yc, yn) k from rfl)
  have HOF := Hd (fun k (h : opE x.ks x.k (dclV yo yc s3) (yo, ya, yb, yc, yn) k ≠ 0) => opE_fix h)
  have HO0 := Hd (show opE x.ks x.k (dclV yo yc s3) (yo, ya, yb, yc, yn) 0 = 0 from rfl)
  generalize opE x.ks x.k (dclV yo yc s3) (yo, ya, yb, yc, yn) = oe at HOE HOF HO0 ⊢
  generalize ltE x.ks x.k (dclV yo yc s3) = lt9 at HOD HOE
  generalize shl yo = L at HSL HL4 HOE ⊢
  generalize shV yo = sh at HSH HSL
  have hsz : sh.size = L.length := by rw [← HSL.out]; exact Array.length_toList.symm
  have HSZ := Hd hsz
  have hs4 : sh.size ≤ 4 := by have := HL4.out; omega
  have HIC := Hd (fun W => Si.ris_any yc W)
  have HLA := Hd (fun W => Si.rlat_any s3 W)
  obtain ⟨ad, rfl, hadb, k0, k1, k2, k3, k4⟩ := HFA
  obtain ⟨wA, hwA⟩ : ∃ wA, W1.alloc (.cells #[.int .i64 yo, .int .i64 ya, .int .i64 yb, .int .i64 yc, .int .i64 yn] 53) = wA := ⟨_, rfl⟩
  have HBA := Hd (show Below W1.heap.size W1 wA from by rw [← hwA]; exact alloc_ _ _)
  have HYA := Hd (show Blk wA W1.heap.size 53 #[.int .i64 yo, .int .i64 ya, .int .i64 yb, .int .i64 yc, .int .i64 yn] from by rw [← hwA]; exact Blk.new W1 _ _)
  have HXA := Hd (HX.out.below HBA.out HX.out.lt)
  obtain ⟨a0, a1, a2, a3, a4, a5, a6, a7, a8⟩ := blk9 HXA.out
  clear hin hcl hF hS hbo hi2 hq hop hsz
  by_cases hde : de = 0
  ·subst hde
   rw [if_neg (by decide)]
   by_cases h20 : yo = 20
   ·subst h20
    cases hic : Si.isC yc with
    | false =>
     rw [hic] at HIC
     rw [if_pos (Or.inl ⟨rfl, rfl⟩)]
     clear hic
     go_enter Tryz.func158, Tryz.ntmps158
     go_wp2_with fail
     clear hW1 hwA p0 p1 p2 p3 p4 p5 p6 p7 p8 k0 k1 k2 k3 k4 a0 a1 a2 a3 a4 a5 a6 a7 a8
     refine (HRF.out wA HBA.out).mono ?_
     rintro e w4 ⟨rfl, b4⟩
     obtain ⟨wC, hwC⟩ : ∃ wC, w4.alloc (.cells #[.string s0, .bool s1, .int .i64 s2, .int .i64 s3, .int .i64 s4] 79) = wC := ⟨_, rfl⟩
     have hb4 : Below wA.heap.size wA wC := by rw [← hwC]; exact to_ b4 (alloc_ _ _)
     have HBC := Hd (to_ HBA.out hb4)
     have HYC := Hd (HYA.out.below hb4 HYA.out.lt)
     have HXC := Hd (HXA.out.below hb4 HXA.out.lt)
     have HSC := Hd (show Blk wC w4.heap.size 79 #[.string s0, .bool s1, .int .i64 s2, .int .i64 s3, .int .i64 s4] from by rw [← hwC]; exact Blk.new w4 _ _)
     obtain ⟨y0, y1, y2, y3, y4⟩ := blk5 HYC.out
     obtain ⟨z0, z1, z2, z3, z4⟩ := blk5 HSC.out
     clear b4 hb4
     go_wp2_with fail
     refine (HIC.out _).mono ?_
     rintro e w5 ⟨rfl, rfl⟩
     go_wp2_with fail
     go_ret
     exact ⟨rfl, to_ HB1.out HBC.out⟩
    | true =>
     rw [hic] at HIC
     rw [if_neg (by simp)]
     clear hic
     go_enter Tryz.func158, Tryz.ntmps158
     go_wp2_with fail
     clear hW1 hwA p0 p1 p2 p3 p4 p5 p6 p7 p8 k0 k1 k2 k3 k4 a0 a1 a2 a3 a4 a5 a6 a7 a8
     refine (HRF.out wA HBA.out).mono ?_
     rintro e w4 ⟨rfl, b4⟩
     obtain ⟨wC, hwC⟩ : ∃ wC, w4.alloc (.cells #[.string s0, .bool s1, .int .i64 s2, .int .i64 s3, .int .i64 s4] 79) = wC := ⟨_, rfl⟩
     have hb4 : Below wA.heap.size wA wC := by rw [← hwC]; exact to_ b4 (alloc_ _ _)
     have HBC := Hd (to_ HBA.out hb4)
     have HYC := Hd (HYA.out.below hb4 HYA.out.lt)
     have HXC := Hd (HXA.out.below hb4 HXA.out.lt)
     have HSC := Hd (show Blk wC w4.heap.size 79 #[.string s0, .bool s1, .int .i64 s2, .int .i64 s3, .int .i64 s4] from by rw [← hwC]; exact Blk.new w4 _ _)
     obtain ⟨y0, y1, y2, y3, y4⟩ := blk5 HYC.out
     obtain ⟨z0, z1, z2, z3, z4⟩ := blk5 HSC.out
     clear b4 hb4
     go_wp2_with fail
     refine (HIC.out _).mono ?_
     rintro e w5 ⟨rfl, rfl⟩
     go_wp2_with fail
     clear hwC y0 y1 y2 y3 y4 z0 z1 z2 z3 z4
     refine (HSH.out _).mono ?_
     rintro e w6 ⟨rfl, b6⟩
     have HB6 := Hd (to_ HBC.out b6)
     have HX6 := Hd (HXC.out.below b6 HXC.out.lt)
     have HY6 := Hd (HYC.out.below b6 HYC.out.lt)
     have HS6 := Hd (HSC.out.below b6 HSC.out.lt)
     have HW6 := Hd b6.size
     clear b6
     go_wp2_with fail
     go_loopw [11] (fun i9 wr => ∃ k : Nat, k ≤ sh.size ∧ i9 = .int .i64 (k : Int) ∧ Hid (Below w6.heap.size w6 wr) ∧ Hid (oe k = 0)) (fun i9 _ => sh.size - (intOf i9).toNat)
     case atStart => exact ⟨0, Nat.zero_le _, rfl, Hd (Below.refl _ _), HO0⟩
     case round =>
      obtain ⟨k, hk, rfl, HBW, HE⟩ := hrel
      have HBR := Hd (to_ HB6.out HBW.out)
      by_cases hlt : k < sh.size
      ·have hkI : (k : Int) < (sh.size : Int) := by omega
       have HLT := Hd hlt
       have hpl : k < sh.data.toList.length := by simpa using hlt
       have hgl : (sh[k]'hlt) = sh.data.toList[k] := by simp [ByteArray.getElem_eq_getElem_data]
       have hcL : (sh[k]'hlt).toNat = (L.getD k 0).toNat := by
        rw [hgl, List.getD_eq_getElem?_getD, ← HSL.out, List.getElem?_eq_getElem hpl]; rfl
       have MK := Hd (show ∀ W, Below wr.heap.size wr W → (fun W => ((W.cell? ⟨w.heap.size, 0, none⟩ = some (.int .i64 x.k) ∧ W.cell? ⟨w.heap.size, 1, none⟩ = some (.slice AK nK cK) ∧ W.cell? ⟨w.heap.size, 2, none⟩ = some (.int .i64 x.pd) ∧ W.cell? ⟨w.heap.size, 3, none⟩ = some (.bool x.ns) ∧ W.cell? ⟨w.heap.size, 4, none⟩ = some (.int .i64 x.f) ∧ W.cell? ⟨w.heap.size, 5, none⟩ = some (.int .i64 x.t) ∧ W.cell? ⟨w.heap.size, 6, none⟩ = some (.slice AL nL cL) ∧ W.cell? ⟨w.heap.size, 7, none⟩ = some (.slice (some ad) nC cC) ∧ W.cell? ⟨w.heap.size, 8, none⟩ = some (.slice AR nR cR)) ∧ (W.cell? ⟨W1.heap.size, 0, none⟩ = some (.int .i64 20) ∧ W.cell? ⟨W1.heap.size, 1, none⟩ = some (.int .i64 ya) ∧ W.cell? ⟨W1.heap.size, 2, none⟩ = some (.int .i64 yb) ∧ W.cell? ⟨W1.heap.size, 3, none⟩ = some (.int .i64 yc) ∧ W.cell? ⟨W1.heap.size, 4, none⟩ = some (.int .i64 yn)) ∧ (W.cell? ⟨w4.heap.size, 0, none⟩ = some (.string s0) ∧ W.cell? ⟨w4.heap.size, 1, none⟩ = some (.bool s1) ∧ W.cell? ⟨w4.heap.size, 2, none⟩ = some (.int .i64 s2) ∧ W.cell? ⟨w4.heap.size, 3, none⟩ = some (.int .i64 s3) ∧ W.cell? ⟨w4.heap.size, 4, none⟩ = some (.int .i64 s4))) ∧ Below wr.heap.size wr W) W from fun W hb => ⟨⟨blk9 (HX6.out.below (to_ HBW.out hb) HX6.out.lt), blk5 (HY6.out.below (to_ HBW.out hb) HY6.out.lt), blk5 (HS6.out.below (to_ HBW.out hb) HS6.out.lt)⟩, hb⟩)
       have HON := Hd (HOE.out k)
       rw [if_pos HE.out, ← hcL] at HON
       have HODK := Hd (fun W hw => HOD.out W hw (k : Int) (sh[k]'hlt).toNat)
       have HPS := Hd (show k < L.length from by have := HSZ.out; omega)
       clear hpl hgl hcL
       generalize lt9 (sh[k]'hlt).toNat (opdV ya yb yc yn k) = yy at HON HODK
       by_cases hy : yy = 0
       ·subst hy
        go_wp2_with fail
        refine wp_region_noPanic ?_
        refine wp_region_held_drew (S := fun W => ((W.cell? ⟨w.heap.size, 0, none⟩ = some (.int .i64 x.k) ∧ W.cell? ⟨w.heap.size, 1, none⟩ = some (.slice AK nK cK) ∧ W.cell? ⟨w.heap.size, 2, none⟩ = some (.int .i64 x.pd) ∧ W.cell? ⟨w.heap.size, 3, none⟩ = some (.bool x.ns) ∧ W.cell? ⟨w.heap.size, 4, none⟩ = some (.int .i64 x.f) ∧ W.cell? ⟨w.heap.size, 5, none⟩ = some (.int .i64 x.t) ∧ W.cell? ⟨w.heap.size, 6, none⟩ = some (.slice AL nL cL) ∧ W.cell? ⟨w.heap.size, 7, none⟩ = some (.slice (some ad) nC cC) ∧ W.cell? ⟨w.heap.size, 8, none⟩ = some (.slice AR nR cR)) ∧ (W.cell? ⟨W1.heap.size, 0, none⟩ = some (.int .i64 20) ∧ W.cell? ⟨W1.heap.size, 1, none⟩ = some (.int .i64 ya) ∧ W.cell? ⟨W1.heap.size, 2, none⟩ = some (.int .i64 yb) ∧ W.cell? ⟨W1.heap.size, 3, none⟩ = some (.int .i64 yc) ∧ W.cell? ⟨W1.heap.size, 4, none⟩ = some (.int .i64 yn)) ∧ (W.cell? ⟨w4.heap.size, 0, none⟩ = some (.string s0) ∧ W.cell? ⟨w4.heap.size, 1, none⟩ = some (.bool s1) ∧ W.cell? ⟨w4.heap.size, 2, none⟩ = some (.int .i64 s2) ∧ W.cell? ⟨w4.heap.size, 3, none⟩ = some (.int .i64 s3) ∧ W.cell? ⟨w4.heap.size, 4, none⟩ = some (.int .i64 s4))) ∧ Below wr.heap.size wr W) (by kernel_rfl) (MK.out _ (Below.refl _ _).drew) (fun hHeld => ?_)
        refine tk8Z 0 1 2 3 4 5 6 7 hHeld ?_
        refine rd1Z 8 (fun K hK => ?_)
        go_simp
        refine (HPD.out _ _).mono ?_
        rintro e w7 ⟨rfl, b7⟩
        have q7 := to_ hHeld.2 b7
        try go_wp2_with fail
        refine hK.out _ _ (MK.out _ q7) ?_
        clear hK K hHeld
        intro hHeld
        clear b7 q7
        try simp only [Act.put, nmZ]
        refine rd1Z 9 (fun K hK => ?_)
        go_simp
        refine (HODK.out _ (to_ HBR.out hHeld.2)).mono ?_
        rintro e w8 ⟨rfl, b8⟩
        have q8 := to_ hHeld.2 b8
        try go_wp2_with fail
        refine hK.out _ _ (MK.out _ q8) ?_
        clear hK K hHeld
        intro hHeld
        have HB8 := Hd q8
        clear b8 q8
        try simp only [Act.put, nmZ]
        refine tk1Z 10 hHeld ?_
        refine wpAnyH_done (by kernel_rfl) ?_ _
        refine NoPanic.normal ?_
        go_wp2_with fail
        go_roundw
        case rel => exact ⟨k + 1, by have := HLT.out; omega, by go_num, Hd (to_ HBW.out HB8.out), HON⟩
        case measure => have := HLT.out; simp [intOf]; omega
       ·have hy1 : (yy != 0) = true := by simpa using hy
        have hy2 : (yy == 0) = false := by simpa using hy
        have HF := Hd (show oe L.length = yy from by rw [← HON.out]; exact HOF.out (k + 1) (by rw [HON.out]; exact hy) _ (by have := HPS.out; omega))
        clear hy
        go_wp2_with fail
        refine wp_region_noPanic ?_
        refine wp_region_held_drew (S := fun W => ((W.cell? ⟨w.heap.size, 0, none⟩ = some (.int .i64 x.k) ∧ W.cell? ⟨w.heap.size, 1, none⟩ = some (.slice AK nK cK) ∧ W.cell? ⟨w.heap.size, 2, none⟩ = some (.int .i64 x.pd) ∧ W.cell? ⟨w.heap.size, 3, none⟩ = some (.bool x.ns) ∧ W.cell? ⟨w.heap.size, 4, none⟩ = some (.int .i64 x.f) ∧ W.cell? ⟨w.heap.size, 5, none⟩ = some (.int .i64 x.t) ∧ W.cell? ⟨w.heap.size, 6, none⟩ = some (.slice AL nL cL) ∧ W.cell? ⟨w.heap.size, 7, none⟩ = some (.slice (some ad) nC cC) ∧ W.cell? ⟨w.heap.size, 8, none⟩ = some (.slice AR nR cR)) ∧ (W.cell? ⟨W1.heap.size, 0, none⟩ = some (.int .i64 20) ∧ W.cell? ⟨W1.heap.size, 1, none⟩ = some (.int .i64 ya) ∧ W.cell? ⟨W1.heap.size, 2, none⟩ = some (.int .i64 yb) ∧ W.cell? ⟨W1.heap.size, 3, none⟩ = some (.int .i64 yc) ∧ W.cell? ⟨W1.heap.size, 4, none⟩ = some (.int .i64 yn)) ∧ (W.cell? ⟨w4.heap.size, 0, none⟩ = some (.string s0) ∧ W.cell? ⟨w4.heap.size, 1, none⟩ = some (.bool s1) ∧ W.cell? ⟨w4.heap.size, 2, none⟩ = some (.int .i64 s2) ∧ W.cell? ⟨w4.heap.size, 3, none⟩ = some (.int .i64 s3) ∧ W.cell? ⟨w4.heap.size, 4, none⟩ = some (.int .i64 s4))) ∧ Below wr.heap.size wr W) (by kernel_rfl) (MK.out _ (Below.refl _ _).drew) (fun hHeld => ?_)
        refine tk8Z 0 1 2 3 4 5 6 7 hHeld ?_
        refine rd1Z 8 (fun K hK => ?_)
        go_simp
        refine (HPD.out _ _).mono ?_
        rintro e w7 ⟨rfl, b7⟩
        have q7 := to_ hHeld.2 b7
        try go_wp2_with fail
        refine hK.out _ _ (MK.out _ q7) ?_
        clear hK K hHeld
        intro hHeld
        clear b7 q7
        try simp only [Act.put, nmZ]
        refine rd1Z 9 (fun K hK => ?_)
        go_simp
        refine (HODK.out _ (to_ HBR.out hHeld.2)).mono ?_
        rintro e w8 ⟨rfl, b8⟩
        have q8 := to_ hHeld.2 b8
        try go_wp2_with fail
        refine hK.out _ _ (MK.out _ q8) ?_
        clear hK K hHeld
        intro hHeld
        have HB8 := Hd q8
        clear b8 q8
        try simp only [Act.put, nmZ]
        refine tk1Z 10 hHeld ?_
        refine wpAnyH_done (by kernel_rfl) ?_ _
        refine NoPanic.normal ?_
        go_wp2_with fail
        go_ret
        exact ⟨by rw [HF.out]; rfl, to_ HB1.out (to_ HBR.out HB8.out)⟩
      ·have HF := Hd (show oe L.length = 0 from by rw [show L.length = k from by have := HSZ.out; omega]; exact HE.out)
       go_wp2_with fail
       go_ret
       exact ⟨by rw [HF.out]; rfl, to_ HB1.out HBR.out⟩
   have d20 : (yo == 20) = false := by simpa using h20
   by_cases h21 : yo = 21
   ·subst h21
    cases hla : Si.latV s3 with
    | false =>
     rw [hla] at HLA
     rw [if_pos (Or.inr ⟨rfl, rfl⟩)]
     clear hla h20
     go_enter Tryz.func158, Tryz.ntmps158
     go_wp2_with fail
     clear hW1 hwA p0 p1 p2 p3 p4 p5 p6 p7 p8 k0 k1 k2 k3 k4 a0 a1 a2 a3 a4 a5 a6 a7 a8
     refine (HRF.out wA HBA.out).mono ?_
     rintro e w4 ⟨rfl, b4⟩
     obtain ⟨wC, hwC⟩ : ∃ wC, w4.alloc (.cells #[.string s0, .bool s1, .int .i64 s2, .int .i64 s3, .int .i64 s4] 79) = wC := ⟨_, rfl⟩
     have hb4 : Below wA.heap.size wA wC := by rw [← hwC]; exact to_ b4 (alloc_ _ _)
     have HBC := Hd (to_ HBA.out hb4)
     have HYC := Hd (HYA.out.below hb4 HYA.out.lt)
     have HXC := Hd (HXA.out.below hb4 HXA.out.lt)
     have HSC := Hd (show Blk wC w4.heap.size 79 #[.string s0, .bool s1, .int .i64 s2, .int .i64 s3, .int .i64 s4] from by rw [← hwC]; exact Blk.new w4 _ _)
     obtain ⟨y0, y1, y2, y3, y4⟩ := blk5 HYC.out
     obtain ⟨z0, z1, z2, z3, z4⟩ := blk5 HSC.out
     clear b4 hb4
     go_wp2_with fail
     refine (HLA.out _).mono ?_
     rintro e w5 ⟨rfl, rfl⟩
     go_wp2_with fail
     go_ret
     exact ⟨rfl, to_ HB1.out HBC.out⟩
    | true =>
     rw [hla] at HLA
     rw [if_neg (by simp)]
     clear hla h20
     go_enter Tryz.func158, Tryz.ntmps158
     go_wp2_with fail
     clear hW1 hwA p0 p1 p2 p3 p4 p5 p6 p7 p8 k0 k1 k2 k3 k4 a0 a1 a2 a3 a4 a5 a6 a7 a8
     refine (HRF.out wA HBA.out).mono ?_
     rintro e w4 ⟨rfl, b4⟩
     obtain ⟨wC, hwC⟩ : ∃ wC, w4.alloc (.cells #[.string s0, .bool s1, .int .i64 s2, .int .i64 s3, .int .i64 s4] 79) = wC := ⟨_, rfl⟩
     have hb4 : Below wA.heap.size wA wC := by rw [← hwC]; exact to_ b4 (alloc_ _ _)
     have HBC := Hd (to_ HBA.out hb4)
     have HYC := Hd (HYA.out.below hb4 HYA.out.lt)
     have HXC := Hd (HXA.out.below hb4 HXA.out.lt)
     have HSC := Hd (show Blk wC w4.heap.size 79 #[.string s0, .bool s1, .int .i64 s2, .int .i64 s3, .int .i64 s4] from by rw [← hwC]; exact Blk.new w4 _ _)
     obtain ⟨y0, y1, y2, y3, y4⟩ := blk5 HYC.out
     obtain ⟨z0, z1, z2, z3, z4⟩ := blk5 HSC.out
     clear b4 hb4
     go_wp2_with fail
     refine (HLA.out _).mono ?_
     rintro e w5 ⟨rfl, rfl⟩
     go_wp2_with fail
     clear hwC y0 y1 y2 y3 y4 z0 z1 z2 z3 z4
     refine (HSH.out _).mono ?_
     rintro e w6 ⟨rfl, b6⟩
     have HB6 := Hd (to_ HBC.out b6)
     have HX6 := Hd (HXC.out.below b6 HXC.out.lt)
     have HY6 := Hd (HYC.out.below b6 HYC.out.lt)
     have HS6 := Hd (HSC.out.below b6 HSC.out.lt)
     have HW6 := Hd b6.size
     clear b6
     go_wp2_with fail
     go_loopw [11] (fun i9 wr => ∃ k : Nat, k ≤ sh.size ∧ i9 = .int .i64 (k : Int) ∧ Hid (Below w6.heap.size w6 wr) ∧ Hid (oe k = 0)) (fun i9 _ => sh.size - (intOf i9).toNat)
     case atStart => exact ⟨0, Nat.zero_le _, rfl, Hd (Below.refl _ _), HO0⟩
     case round =>
      obtain ⟨k, hk, rfl, HBW, HE⟩ := hrel
      have HBR := Hd (to_ HB6.out HBW.out)
      by_cases hlt : k < sh.size
      ·have hkI : (k : Int) < (sh.size : Int) := by omega
       have HLT := Hd hlt
       have hpl : k < sh.data.toList.length := by simpa using hlt
       have hgl : (sh[k]'hlt) = sh.data.toList[k] := by simp [ByteArray.getElem_eq_getElem_data]
       have hcL : (sh[k]'hlt).toNat = (L.getD k 0).toNat := by
        rw [hgl, List.getD_eq_getElem?_getD, ← HSL.out, List.getElem?_eq_getElem hpl]; rfl
       have MK := Hd (show ∀ W, Below wr.heap.size wr W → (fun W => ((W.cell? ⟨w.heap.size, 0, none⟩ = some (.int .i64 x.k) ∧ W.cell? ⟨w.heap.size, 1, none⟩ = some (.slice AK nK cK) ∧ W.cell? ⟨w.heap.size, 2, none⟩ = some (.int .i64 x.pd) ∧ W.cell? ⟨w.heap.size, 3, none⟩ = some (.bool x.ns) ∧ W.cell? ⟨w.heap.size, 4, none⟩ = some (.int .i64 x.f) ∧ W.cell? ⟨w.heap.size, 5, none⟩ = some (.int .i64 x.t) ∧ W.cell? ⟨w.heap.size, 6, none⟩ = some (.slice AL nL cL) ∧ W.cell? ⟨w.heap.size, 7, none⟩ = some (.slice (some ad) nC cC) ∧ W.cell? ⟨w.heap.size, 8, none⟩ = some (.slice AR nR cR)) ∧ (W.cell? ⟨W1.heap.size, 0, none⟩ = some (.int .i64 21) ∧ W.cell? ⟨W1.heap.size, 1, none⟩ = some (.int .i64 ya) ∧ W.cell? ⟨W1.heap.size, 2, none⟩ = some (.int .i64 yb) ∧ W.cell? ⟨W1.heap.size, 3, none⟩ = some (.int .i64 yc) ∧ W.cell? ⟨W1.heap.size, 4, none⟩ = some (.int .i64 yn)) ∧ (W.cell? ⟨w4.heap.size, 0, none⟩ = some (.string s0) ∧ W.cell? ⟨w4.heap.size, 1, none⟩ = some (.bool s1) ∧ W.cell? ⟨w4.heap.size, 2, none⟩ = some (.int .i64 s2) ∧ W.cell? ⟨w4.heap.size, 3, none⟩ = some (.int .i64 s3) ∧ W.cell? ⟨w4.heap.size, 4, none⟩ = some (.int .i64 s4))) ∧ Below wr.heap.size wr W) W from fun W hb => ⟨⟨blk9 (HX6.out.below (to_ HBW.out hb) HX6.out.lt), blk5 (HY6.out.below (to_ HBW.out hb) HY6.out.lt), blk5 (HS6.out.below (to_ HBW.out hb) HS6.out.lt)⟩, hb⟩)
       have HON := Hd (HOE.out k)
       rw [if_pos HE.out, ← hcL] at HON
       have HODK := Hd (fun W hw => HOD.out W hw (k : Int) (sh[k]'hlt).toNat)
       have HPS := Hd (show k < L.length from by have := HSZ.out; omega)
       clear hpl hgl hcL
       generalize lt9 (sh[k]'hlt).toNat (opdV ya yb yc yn k) = yy at HON HODK
       by_cases hy : yy = 0
       ·subst hy
        go_wp2_with fail
        refine wp_region_noPanic ?_
        refine wp_region_held_drew (S := fun W => ((W.cell? ⟨w.heap.size, 0, none⟩ = some (.int .i64 x.k) ∧ W.cell? ⟨w.heap.size, 1, none⟩ = some (.slice AK nK cK) ∧ W.cell? ⟨w.heap.size, 2, none⟩ = some (.int .i64 x.pd) ∧ W.cell? ⟨w.heap.size, 3, none⟩ = some (.bool x.ns) ∧ W.cell? ⟨w.heap.size, 4, none⟩ = some (.int .i64 x.f) ∧ W.cell? ⟨w.heap.size, 5, none⟩ = some (.int .i64 x.t) ∧ W.cell? ⟨w.heap.size, 6, none⟩ = some (.slice AL nL cL) ∧ W.cell? ⟨w.heap.size, 7, none⟩ = some (.slice (some ad) nC cC) ∧ W.cell? ⟨w.heap.size, 8, none⟩ = some (.slice AR nR cR)) ∧ (W.cell? ⟨W1.heap.size, 0, none⟩ = some (.int .i64 21) ∧ W.cell? ⟨W1.heap.size, 1, none⟩ = some (.int .i64 ya) ∧ W.cell? ⟨W1.heap.size, 2, none⟩ = some (.int .i64 yb) ∧ W.cell? ⟨W1.heap.size, 3, none⟩ = some (.int .i64 yc) ∧ W.cell? ⟨W1.heap.size, 4, none⟩ = some (.int .i64 yn)) ∧ (W.cell? ⟨w4.heap.size, 0, none⟩ = some (.string s0) ∧ W.cell? ⟨w4.heap.size, 1, none⟩ = some (.bool s1) ∧ W.cell? ⟨w4.heap.size, 2, none⟩ = some (.int .i64 s2) ∧ W.cell? ⟨w4.heap.size, 3, none⟩ = some (.int .i64 s3) ∧ W.cell? ⟨w4.heap.size, 4, none⟩ = some (.int .i64 s4))) ∧ Below wr.heap.size wr W) (by kernel_rfl) (MK.out _ (Below.refl _ _).drew) (fun hHeld => ?_)
        refine tk8Z 0 1 2 3 4 5 6 7 hHeld ?_
        refine rd1Z 8 (fun K hK => ?_)
        go_simp
        refine (HPD.out _ _).mono ?_
        rintro e w7 ⟨rfl, b7⟩
        have q7 := to_ hHeld.2 b7
        try go_wp2_with fail
        refine hK.out _ _ (MK.out _ q7) ?_
        clear hK K hHeld
        intro hHeld
        clear b7 q7
        try simp only [Act.put, nmZ]
        refine rd1Z 9 (fun K hK => ?_)
        go_simp
        refine (HODK.out _ (to_ HBR.out hHeld.2)).mono ?_
        rintro e w8 ⟨rfl, b8⟩
        have q8 := to_ hHeld.2 b8
        try go_wp2_with fail
        refine hK.out _ _ (MK.out _ q8) ?_
        clear hK K hHeld
        intro hHeld
        have HB8 := Hd q8
        clear b8 q8
        try simp only [Act.put, nmZ]
        refine tk1Z 10 hHeld ?_
        refine wpAnyH_done (by kernel_rfl) ?_ _
        refine NoPanic.normal ?_
        go_wp2_with fail
        go_roundw
        case rel => exact ⟨k + 1, by have := HLT.out; omega, by go_num, Hd (to_ HBW.out HB8.out), HON⟩
        case measure => have := HLT.out; simp [intOf]; omega
       ·have hy1 : (yy != 0) = true := by simpa using hy
        have hy2 : (yy == 0) = false := by simpa using hy
        have HF := Hd (show oe L.length = yy from by rw [← HON.out]; exact HOF.out (k + 1) (by rw [HON.out]; exact hy) _ (by have := HPS.out; omega))
        clear hy
        go_wp2_with fail
        refine wp_region_noPanic ?_
        refine wp_region_held_drew (S := fun W => ((W.cell? ⟨w.heap.size, 0, none⟩ = some (.int .i64 x.k) ∧ W.cell? ⟨w.heap.size, 1, none⟩ = some (.slice AK nK cK) ∧ W.cell? ⟨w.heap.size, 2, none⟩ = some (.int .i64 x.pd) ∧ W.cell? ⟨w.heap.size, 3, none⟩ = some (.bool x.ns) ∧ W.cell? ⟨w.heap.size, 4, none⟩ = some (.int .i64 x.f) ∧ W.cell? ⟨w.heap.size, 5, none⟩ = some (.int .i64 x.t) ∧ W.cell? ⟨w.heap.size, 6, none⟩ = some (.slice AL nL cL) ∧ W.cell? ⟨w.heap.size, 7, none⟩ = some (.slice (some ad) nC cC) ∧ W.cell? ⟨w.heap.size, 8, none⟩ = some (.slice AR nR cR)) ∧ (W.cell? ⟨W1.heap.size, 0, none⟩ = some (.int .i64 21) ∧ W.cell? ⟨W1.heap.size, 1, none⟩ = some (.int .i64 ya) ∧ W.cell? ⟨W1.heap.size, 2, none⟩ = some (.int .i64 yb) ∧ W.cell? ⟨W1.heap.size, 3, none⟩ = some (.int .i64 yc) ∧ W.cell? ⟨W1.heap.size, 4, none⟩ = some (.int .i64 yn)) ∧ (W.cell? ⟨w4.heap.size, 0, none⟩ = some (.string s0) ∧ W.cell? ⟨w4.heap.size, 1, none⟩ = some (.bool s1) ∧ W.cell? ⟨w4.heap.size, 2, none⟩ = some (.int .i64 s2) ∧ W.cell? ⟨w4.heap.size, 3, none⟩ = some (.int .i64 s3) ∧ W.cell? ⟨w4.heap.size, 4, none⟩ = some (.int .i64 s4))) ∧ Below wr.heap.size wr W) (by kernel_rfl) (MK.out _ (Below.refl _ _).drew) (fun hHeld => ?_)
        refine tk8Z 0 1 2 3 4 5 6 7 hHeld ?_
        refine rd1Z 8 (fun K hK => ?_)
        go_simp
        refine (HPD.out _ _).mono ?_
        rintro e w7 ⟨rfl, b7⟩
        have q7 := to_ hHeld.2 b7
        try go_wp2_with fail
        refine hK.out _ _ (MK.out _ q7) ?_
        clear hK K hHeld
        intro hHeld
        clear b7 q7
        try simp only [Act.put, nmZ]
        refine rd1Z 9 (fun K hK => ?_)
        go_simp
        refine (HODK.out _ (to_ HBR.out hHeld.2)).mono ?_
        rintro e w8 ⟨rfl, b8⟩
        have q8 := to_ hHeld.2 b8
        try go_wp2_with fail
        refine hK.out _ _ (MK.out _ q8) ?_
        clear hK K hHeld
        intro hHeld
        have HB8 := Hd q8
        clear b8 q8
        try simp only [Act.put, nmZ]
        refine tk1Z 10 hHeld ?_
        refine wpAnyH_done (by kernel_rfl) ?_ _
        refine NoPanic.normal ?_
        go_wp2_with fail
        go_ret
        exact ⟨by rw [HF.out]; rfl, to_ HB1.out (to_ HBR.out HB8.out)⟩
      ·have HF := Hd (show oe L.length = 0 from by rw [show L.length = k from by have := HSZ.out; omega]; exact HE.out)
       go_wp2_with fail
       go_ret
       exact ⟨by rw [HF.out]; rfl, to_ HB1.out HBR.out⟩
   have d21 : (yo == 21) = false := by simpa using h21
   rw [if_neg (by simp [h20, h21])]
   clear h20 h21
   go_enter Tryz.func158, Tryz.ntmps158
   go_wp2_with fail
   clear hW1 hwA p0 p1 p2 p3 p4 p5 p6 p7 p8 k0 k1 k2 k3 k4 a0 a1 a2 a3 a4 a5 a6 a7 a8
   refine (HRF.out wA HBA.out).mono ?_
   rintro e w4 ⟨rfl, b4⟩
   obtain ⟨wC, hwC⟩ : ∃ wC, w4.alloc (.cells #[.string s0, .bool s1, .int .i64 s2, .int .i64 s3, .int .i64 s4] 79) = wC := ⟨_, rfl⟩
   have hb4 : Below wA.heap.size wA wC := by rw [← hwC]; exact to_ b4 (alloc_ _ _)
   have HBC := Hd (to_ HBA.out hb4)
   have HYC := Hd (HYA.out.below hb4 HYA.out.lt)
   have HXC := Hd (HXA.out.below hb4 HXA.out.lt)
   have HSC := Hd (show Blk wC w4.heap.size 79 #[.string s0, .bool s1, .int .i64 s2, .int .i64 s3, .int .i64 s4] from by rw [← hwC]; exact Blk.new w4 _ _)
   obtain ⟨y0, y1, y2, y3, y4⟩ := blk5 HYC.out
   obtain ⟨z0, z1, z2, z3, z4⟩ := blk5 HSC.out
   clear b4 hb4
   go_wp2_with fail
   clear hwC y0 y1 y2 y3 y4 z0 z1 z2 z3 z4
   refine (HSH.out _).mono ?_
   rintro e w6 ⟨rfl, b6⟩
   have HB6 := Hd (to_ HBC.out b6)
   have HX6 := Hd (HXC.out.below b6 HXC.out.lt)
   have HY6 := Hd (HYC.out.below b6 HYC.out.lt)
   have HS6 := Hd (HSC.out.below b6 HSC.out.lt)
   have HW6 := Hd b6.size
   clear b6
   go_wp2_with fail
   go_loopw [11] (fun i9 wr => ∃ k : Nat, k ≤ sh.size ∧ i9 = .int .i64 (k : Int) ∧ Hid (Below w6.heap.size w6 wr) ∧ Hid (oe k = 0)) (fun i9 _ => sh.size - (intOf i9).toNat)
   case atStart => exact ⟨0, Nat.zero_le _, rfl, Hd (Below.refl _ _), HO0⟩
   case round =>
    obtain ⟨k, hk, rfl, HBW, HE⟩ := hrel
    have HBR := Hd (to_ HB6.out HBW.out)
    by_cases hlt : k < sh.size
    ·have hkI : (k : Int) < (sh.size : Int) := by omega
     have HLT := Hd hlt
     have hpl : k < sh.data.toList.length := by simpa using hlt
     have hgl : (sh[k]'hlt) = sh.data.toList[k] := by simp [ByteArray.getElem_eq_getElem_data]
     have hcL : (sh[k]'hlt).toNat = (L.getD k 0).toNat := by
      rw [hgl, List.getD_eq_getElem?_getD, ← HSL.out, List.getElem?_eq_getElem hpl]; rfl
     have MK := Hd (show ∀ W, Below wr.heap.size wr W → (fun W => ((W.cell? ⟨w.heap.size, 0, none⟩ = some (.int .i64 x.k) ∧ W.cell? ⟨w.heap.size, 1, none⟩ = some (.slice AK nK cK) ∧ W.cell? ⟨w.heap.size, 2, none⟩ = some (.int .i64 x.pd) ∧ W.cell? ⟨w.heap.size, 3, none⟩ = some (.bool x.ns) ∧ W.cell? ⟨w.heap.size, 4, none⟩ = some (.int .i64 x.f) ∧ W.cell? ⟨w.heap.size, 5, none⟩ = some (.int .i64 x.t) ∧ W.cell? ⟨w.heap.size, 6, none⟩ = some (.slice AL nL cL) ∧ W.cell? ⟨w.heap.size, 7, none⟩ = some (.slice (some ad) nC cC) ∧ W.cell? ⟨w.heap.size, 8, none⟩ = some (.slice AR nR cR)) ∧ (W.cell? ⟨W1.heap.size, 0, none⟩ = some (.int .i64 yo) ∧ W.cell? ⟨W1.heap.size, 1, none⟩ = some (.int .i64 ya) ∧ W.cell? ⟨W1.heap.size, 2, none⟩ = some (.int .i64 yb) ∧ W.cell? ⟨W1.heap.size, 3, none⟩ = some (.int .i64 yc) ∧ W.cell? ⟨W1.heap.size, 4, none⟩ = some (.int .i64 yn)) ∧ (W.cell? ⟨w4.heap.size, 0, none⟩ = some (.string s0) ∧ W.cell? ⟨w4.heap.size, 1, none⟩ = some (.bool s1) ∧ W.cell? ⟨w4.heap.size, 2, none⟩ = some (.int .i64 s2) ∧ W.cell? ⟨w4.heap.size, 3, none⟩ = some (.int .i64 s3) ∧ W.cell? ⟨w4.heap.size, 4, none⟩ = some (.int .i64 s4))) ∧ Below wr.heap.size wr W) W from fun W hb => ⟨⟨blk9 (HX6.out.below (to_ HBW.out hb) HX6.out.lt), blk5 (HY6.out.below (to_ HBW.out hb) HY6.out.lt), blk5 (HS6.out.below (to_ HBW.out hb) HS6.out.lt)⟩, hb⟩)
     have HON := Hd (HOE.out k)
     rw [if_pos HE.out, ← hcL] at HON
     have HODK := Hd (fun W hw => HOD.out W hw (k : Int) (sh[k]'hlt).toNat)
     have HPS := Hd (show k < L.length from by have := HSZ.out; omega)
     clear hpl hgl hcL
     generalize lt9 (sh[k]'hlt).toNat (opdV ya yb yc yn k) = yy at HON HODK
     by_cases hy : yy = 0
     ·subst hy
      go_wp2_with fail
      refine wp_region_noPanic ?_
      refine wp_region_held_drew (S := fun W => ((W.cell? ⟨w.heap.size, 0, none⟩ = some (.int .i64 x.k) ∧ W.cell? ⟨w.heap.size, 1, none⟩ = some (.slice AK nK cK) ∧ W.cell? ⟨w.heap.size, 2, none⟩ = some (.int .i64 x.pd) ∧ W.cell? ⟨w.heap.size, 3, none⟩ = some (.bool x.ns) ∧ W.cell? ⟨w.heap.size, 4, none⟩ = some (.int .i64 x.f) ∧ W.cell? ⟨w.heap.size, 5, none⟩ = some (.int .i64 x.t) ∧ W.cell? ⟨w.heap.size, 6, none⟩ = some (.slice AL nL cL) ∧ W.cell? ⟨w.heap.size, 7, none⟩ = some (.slice (some ad) nC cC) ∧ W.cell? ⟨w.heap.size, 8, none⟩ = some (.slice AR nR cR)) ∧ (W.cell? ⟨W1.heap.size, 0, none⟩ = some (.int .i64 yo) ∧ W.cell? ⟨W1.heap.size, 1, none⟩ = some (.int .i64 ya) ∧ W.cell? ⟨W1.heap.size, 2, none⟩ = some (.int .i64 yb) ∧ W.cell? ⟨W1.heap.size, 3, none⟩ = some (.int .i64 yc) ∧ W.cell? ⟨W1.heap.size, 4, none⟩ = some (.int .i64 yn)) ∧ (W.cell? ⟨w4.heap.size, 0, none⟩ = some (.string s0) ∧ W.cell? ⟨w4.heap.size, 1, none⟩ = some (.bool s1) ∧ W.cell? ⟨w4.heap.size, 2, none⟩ = some (.int .i64 s2) ∧ W.cell? ⟨w4.heap.size, 3, none⟩ = some (.int .i64 s3) ∧ W.cell? ⟨w4.heap.size, 4, none⟩ = some (.int .i64 s4))) ∧ Below wr.heap.size wr W) (by kernel_rfl) (MK.out _ (Below.refl _ _).drew) (fun hHeld => ?_)
      refine tk8Z 0 1 2 3 4 5 6 7 hHeld ?_
      refine rd1Z 8 (fun K hK => ?_)
      go_simp
      refine (HPD.out _ _).mono ?_
      rintro e w7 ⟨rfl, b7⟩
      have q7 := to_ hHeld.2 b7
      try go_wp2_with fail
      refine hK.out _ _ (MK.out _ q7) ?_
      clear hK K hHeld
      intro hHeld
      clear b7 q7
      try simp only [Act.put, nmZ]
      refine rd1Z 9 (fun K hK => ?_)
      go_simp
      refine (HODK.out _ (to_ HBR.out hHeld.2)).mono ?_
      rintro e w8 ⟨rfl, b8⟩
      have q8 := to_ hHeld.2 b8
      try go_wp2_with fail
      refine hK.out _ _ (MK.out _ q8) ?_
      clear hK K hHeld
      intro hHeld
      have HB8 := Hd q8
      clear b8 q8
      try simp only [Act.put, nmZ]
      refine tk1Z 10 hHeld ?_
      refine wpAnyH_done (by kernel_rfl) ?_ _
      refine NoPanic.normal ?_
      go_wp2_with fail
      go_roundw
      case rel => exact ⟨k + 1, by have := HLT.out; omega, by go_num, Hd (to_ HBW.out HB8.out), HON⟩
      case measure => have := HLT.out; simp [intOf]; omega
     ·have hy1 : (yy != 0) = true := by simpa using hy
      have hy2 : (yy == 0) = false := by simpa using hy
      have HF := Hd (show oe L.length = yy from by rw [← HON.out]; exact HOF.out (k + 1) (by rw [HON.out]; exact hy) _ (by have := HPS.out; omega))
      clear hy
      go_wp2_with fail
      refine wp_region_noPanic ?_
      refine wp_region_held_drew (S := fun W => ((W.cell? ⟨w.heap.size, 0, none⟩ = some (.int .i64 x.k) ∧ W.cell? ⟨w.heap.size, 1, none⟩ = some (.slice AK nK cK) ∧ W.cell? ⟨w.heap.size, 2, none⟩ = some (.int .i64 x.pd) ∧ W.cell? ⟨w.heap.size, 3, none⟩ = some (.bool x.ns) ∧ W.cell? ⟨w.heap.size, 4, none⟩ = some (.int .i64 x.f) ∧ W.cell? ⟨w.heap.size, 5, none⟩ = some (.int .i64 x.t) ∧ W.cell? ⟨w.heap.size, 6, none⟩ = some (.slice AL nL cL) ∧ W.cell? ⟨w.heap.size, 7, none⟩ = some (.slice (some ad) nC cC) ∧ W.cell? ⟨w.heap.size, 8, none⟩ = some (.slice AR nR cR)) ∧ (W.cell? ⟨W1.heap.size, 0, none⟩ = some (.int .i64 yo) ∧ W.cell? ⟨W1.heap.size, 1, none⟩ = some (.int .i64 ya) ∧ W.cell? ⟨W1.heap.size, 2, none⟩ = some (.int .i64 yb) ∧ W.cell? ⟨W1.heap.size, 3, none⟩ = some (.int .i64 yc) ∧ W.cell? ⟨W1.heap.size, 4, none⟩ = some (.int .i64 yn)) ∧ (W.cell? ⟨w4.heap.size, 0, none⟩ = some (.string s0) ∧ W.cell? ⟨w4.heap.size, 1, none⟩ = some (.bool s1) ∧ W.cell? ⟨w4.heap.size, 2, none⟩ = some (.int .i64 s2) ∧ W.cell? ⟨w4.heap.size, 3, none⟩ = some (.int .i64 s3) ∧ W.cell? ⟨w4.heap.size, 4, none⟩ = some (.int .i64 s4))) ∧ Below wr.heap.size wr W) (by kernel_rfl) (MK.out _ (Below.refl _ _).drew) (fun hHeld => ?_)
      refine tk8Z 0 1 2 3 4 5 6 7 hHeld ?_
      refine rd1Z 8 (fun K hK => ?_)
      go_simp
      refine (HPD.out _ _).mono ?_
      rintro e w7 ⟨rfl, b7⟩
      have q7 := to_ hHeld.2 b7
      try go_wp2_with fail
      refine hK.out _ _ (MK.out _ q7) ?_
      clear hK K hHeld
      intro hHeld
      clear b7 q7
      try simp only [Act.put, nmZ]
      refine rd1Z 9 (fun K hK => ?_)
      go_simp
      refine (HODK.out _ (to_ HBR.out hHeld.2)).mono ?_
      rintro e w8 ⟨rfl, b8⟩
      have q8 := to_ hHeld.2 b8
      try go_wp2_with fail
      refine hK.out _ _ (MK.out _ q8) ?_
      clear hK K hHeld
      intro hHeld
      have HB8 := Hd q8
      clear b8 q8
      try simp only [Act.put, nmZ]
      refine tk1Z 10 hHeld ?_
      refine wpAnyH_done (by kernel_rfl) ?_ _
      refine NoPanic.normal ?_
      go_wp2_with fail
      go_ret
      exact ⟨by rw [HF.out]; rfl, to_ HB1.out (to_ HBR.out HB8.out)⟩
    ·have HF := Hd (show oe L.length = 0 from by rw [show L.length = k from by have := HSZ.out; omega]; exact HE.out)
     go_wp2_with fail
     go_ret
     exact ⟨by rw [HF.out]; rfl, to_ HB1.out HBR.out⟩
  ·have hd1 : (de != 0) = true := by simpa using hde
   have hd2 : (de == 0) = false := by simpa using hde
   rw [if_pos hde]
   clear hde
   go_enter Tryz.func158, Tryz.ntmps158
   go_wp2_with fail
   clear hW1 hwA p0 p1 p2 p3 p4 p5 p6 p7 p8 k0 k1 k2 k3 k4 a0 a1 a2 a3 a4 a5 a6 a7 a8
   refine (HRF.out wA HBA.out).mono ?_
   rintro e w4 ⟨rfl, b4⟩
   obtain ⟨wC, hwC⟩ : ∃ wC, w4.alloc (.cells #[.string s0, .bool s1, .int .i64 s2, .int .i64 s3, .int .i64 s4] 79) = wC := ⟨_, rfl⟩
   have hb4 : Below wA.heap.size wA wC := by rw [← hwC]; exact to_ b4 (alloc_ _ _)
   have HBC := Hd (to_ HBA.out hb4)
   have HYC := Hd (HYA.out.below hb4 HYA.out.lt)
   have HXC := Hd (HXA.out.below hb4 HXA.out.lt)
   have HSC := Hd (show Blk wC w4.heap.size 79 #[.string s0, .bool s1, .int .i64 s2, .int .i64 s3, .int .i64 s4] from by rw [← hwC]; exact Blk.new w4 _ _)
   obtain ⟨y0, y1, y2, y3, y4⟩ := blk5 HYC.out
   obtain ⟨z0, z1, z2, z3, z4⟩ := blk5 HSC.out
   clear b4 hb4
   go_wp2_with fail
   go_ret
   exact ⟨rfl, to_ HB1.out HBC.out⟩
end Go.Proofs.YtdaimeaofgbfpaaGreat.By
