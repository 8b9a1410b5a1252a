/-
  THE LAW VerifyMore. (Ts, Tu, Tv, Tw, Ty, Ne in one)
-/
import Derived.Test.YtbknmapkdjmcjaaGreatDoorNc
import Derived.Test.YtbknmapkdjmcjaaGreatDoorNb

namespace Go.Proofs.YtbknmapkdjmcjaaGreatDoor.By
open Go.RowKit
open Mem Gm Rf
set_option linter.unusedSimpArgs false
set_option linter.unusedVariables false

theorem dvo_any (w : World) (AK AL AC AR : Option Addr) (nK cK nL cL nC cC nR cR : Nat) (x : Fn) (hF : FnW w AK nK cK AL nL cL AC nC cC AR nR cR x) (hn : nR ≤ 1000000) (hnK : nK ≤ 1000000) (AS : Option Addr) (nS cS : Nat) (l : List Sy) (hS : SyL w AS nS cS l) (hb : ∀ k, -9223372036854775808 ≤ (syAt l k).2.2.2.1 ∧ (syAt l k).2.2.2.1 ≤ 9223372036854775807) (hB : (∀ z ∈ x.ks, -9223372036854775808 ≤ z ∧ z ≤ 9223372036854775807) ∧ ∀ k, k < x.cs.length → -9223372036854775808 ≤ (inAt x.cs k).1 ∧ (inAt x.cs k).1 ≤ 9223372036854775807) (i : Int) :
    Calls Tryz.prog 34 #[.agg #[.int .i64 x.k, .slice AK nK cK, .int .i64 x.pd, .bool x.ns, .int .i64 x.f, .int .i64 x.t, .slice AL nL cL, .slice AC nC cC, .slice AR nR cR], .slice AS nS cS, .int .i64 i] w fun e w' => e = .returned (.int .i64 (veI x l i)) ∧ Below w.heap.size w w' := by
  have h := dvi_any w AK AL AC AR nK cK nL cL nC cC nR cR x hF hn hnK AS nS cS l hS hB.2 i
  rw [ve_alike x l i hb] at h
  exact h
set_option maxHeartbeats 4000000 in
theorem dch_any (w : World) (AK AL AC AR : Option Addr) (nK cK nL cL nC cC nR cR : Nat) (x : Fn) (hF : FnW w AK nK cK AL nL cL AC nC cC AR nR cR x) (hnn : nK ≤ 1000000 ∧ nL ≤ 1000000 ∧ nC ≤ 1000000 ∧ nR ≤ 1000000) (AS : Option Addr) (nS cS : Nat) (l : List Sy) (hS : SyL w AS nS cS l) (hb : ∀ k, -9223372036854775808 ≤ (syAt l k).2.2.2.1 ∧ (syAt l k).2.2.2.1 ≤ 9223372036854775807) (hT : TX3 w) (hB : (∀ z ∈ x.ks, -9223372036854775808 ≤ z ∧ z ≤ 9223372036854775807) ∧ ∀ k, k < x.cs.length → -9223372036854775808 ≤ (inAt x.cs k).1 ∧ (inAt x.cs k).1 ≤ 9223372036854775807) :
    Calls Tryz.prog 32 #[.agg #[.int .i64 x.k, .slice AK nK cK, .int .i64 x.pd, .bool x.ns, .int .i64 x.f, .int .i64 x.t, .slice AL nL cL, .slice AC nC cC, .slice AR nR cR], .slice AS nS cS] w fun e w' => e = .returned (.tuple #[.int .i64 (veF x l).1, .int .i64 (veF x l).2]) ∧ Below w.heap.size w w' := by
  obtain ⟨W1, hW1⟩ : ∃ W1, w.alloc (.cells #[.int .i64 x.k, .slice AK nK cK, .int .i64 x.pd, .bool x.ns, .int .i64 x.f, .int .i64 x.t, .slice AL nL cL, .slice AC nC cC, .slice AR nR cR] 27) = W1 := ⟨_, rfl⟩
  have HB1 := Lib.hid (show Below w.heap.size w W1 from by rw [← hW1]; exact alloc_ _ _)
  have HX := Lib.hid (show Blk W1 w.heap.size 27 #[.int .i64 x.k, .slice AK nK cK, .int .i64 x.pd, .bool x.ns, .int .i64 x.f, .int .i64 x.t, .slice AL nL cL, .slice AC nC cC, .slice AR nR cR] from by rw [← hW1]; exact Blk.new w _ _)
  obtain ⟨p0, p1, p2, p3, p4, p5, p6, p7, p8⟩ := blk9 HX.out
  have HC := Lib.hid (rchkF_any W1 AK AL AC AR nK cK nL cL nC cC nR cR x (hF.on HB1.out) hnn hB)
  have HV := Lib.hid (fun W (hw : Below W1.heap.size W1 W) i => dvo_any W AK AL AC AR nK cK nL cL nC cC nR cR x (hF.on (to_ HB1.out hw)) hnn.2.2.2 hnn.1 AS nS cS l (hS.on (to_ HB1.out hw)) hb hB i)
  have hcl : x.cs.length = nC := hF.hc.1
  have HVF := Lib.hid (show (chF x ≠ 0 → veF x l = (chF x, -1)) ∧ (chF x = 0 → veF x l = veL x l nC) from ⟨fun h => by unfold veF; rw [if_neg h], fun h => by unfold veF; rw [if_pos h, hcl]⟩)
  have HLN := Lib.hid (fun n h => veL_next (x := x) (l := l) (n := n) h)
  have HLO := Lib.hid (fun n h => veL_ok (x := x) (l := l) n h)
  have HL0 := Lib.hid (show (veL x l 0).1 = 0 from rfl)
  have HN := Lib.hid hnn.2.2.1
  generalize veF x l = vf at HVF ⊢
  generalize veL x l = vl at HVF HLN HLO HL0
  generalize chF x = ch at HC HVF
  clear hF hS hb hT hcl hnn hB
  by_cases hc : ch = 0
  · subst hc
    go_enter Tryz.func32, Tryz.ntmps32
    go_wp2_with fail
    clear hW1 p0 p1 p2 p3 p4 p5 p6 p7 p8
    refine HC.out.mono ?_
    rintro e w1 ⟨rfl, b1⟩
    have HB2 := Lib.hid b1
    have HX2 := Lib.hid (HX.out.below b1 HX.out.lt)
    clear b1
    obtain ⟨p0, p1, p2, p3, p4, p5, p6, p7, p8⟩ := blk9 HX2.out
    go_wp2_with fail
    clear p0 p1 p2 p3 p4 p5 p6 p7 p8
    go_loopw [7] (fun i9 wr => ∃ q : Nat, q ≤ nC ∧ i9 = .int .i64 (q : Int) ∧ Hid (Below W1.heap.size W1 wr) ∧ Hid ((vl q).1 = 0)) (fun i9 _ => nC - (intOf i9).toNat)
    case atStart => exact ⟨0, Nat.zero_le _, rfl, HB2, HL0⟩
    case round =>
      obtain ⟨q, hq, rfl, HBR, HE⟩ := hrel
      have hn9 : nC ≤ 1000000 := HN.out
      obtain ⟨p0, p1, p2, p3, p4, p5, p6, p7, p8⟩ := blk9 (HX.out.below HBR.out HX.out.lt)
      by_cases hlt : q < nC
      · have hqI : (q : Int) < (nC : Int) := by omega
        have HLT := Lib.hid hlt
        have HVQ := Lib.hid (HV.out wr HBR.out (q : Int))
        have HNX := Lib.hid (HLN.out q HE.out)
        generalize veI x l (q : Int) = y at HVQ HNX
        by_cases hy : y = 0
        · subst hy
          have HN1 := Lib.hid (HNX.out.1 rfl)
          go_wp2_with fail
          clear p0 p1 p2 p3 p4 p5 p6 p7 p8
          refine HVQ.out.mono ?_
          rintro e w4 ⟨rfl, b4⟩
          have HB4 := Lib.hid (to_ HBR.out b4)
          clear b4
          go_wp2_with fail
          go_roundw
          case rel => exact ⟨q + 1, by have := HLT.out; omega, by go_num, HB4, HN1⟩
          case measure => have := HLT.out; simp [intOf]; omega
        · have hy1 : (y != 0) = true := by simpa using hy
          have hy2 : (y == 0) = false := by simpa using hy
          have HF := Lib.hid (show vf = (y, (q : Int)) from (HVF.out.2 (by simp)).trans (HNX.out.2 hy nC (by omega)))
          clear hy
          go_wp2_with fail
          clear p0 p1 p2 p3 p4 p5 p6 p7 p8
          refine HVQ.out.mono ?_
          rintro e w4 ⟨rfl, b4⟩
          have HB4 := Lib.hid (to_ HB1.out (to_ HBR.out b4))
          clear b4
          go_wp2_with fail
          refine bodyPost_ret (results_tmp2 rfl _ _ _) rfl ?_
          rw [HF.out]
          exact ⟨rfl, HB4.out⟩
      · have HF := Lib.hid (show vf = (0, -1) from (HVF.out.2 (by simp)).trans (by rw [show nC = q from by omega]; exact HLO.out q HE.out))
        obtain rfl : q = nC := by omega
        go_wp2_with fail
        refine bodyPost_ret (results_tmp2 rfl _ _ _) rfl ?_
        rw [HF.out]
        exact ⟨rfl, to_ HB1.out HBR.out⟩
  · have hc1 : (ch != 0) = true := by simpa using hc
    have hc2 : (ch == 0) = false := by simpa using hc
    have HF := Lib.hid (HVF.out.1 hc)
    clear hc
    go_enter Tryz.func32, Tryz.ntmps32
    go_wp2_with fail
    clear hW1 p0 p1 p2 p3 p4 p5 p6 p7 p8
    refine HC.out.mono ?_
    rintro e w1 ⟨rfl, b1⟩
    have HB2 := Lib.hid (to_ HB1.out b1)
    clear b1
    go_wp2_with fail
    refine bodyPost_ret (results_tmp2 rfl _ _ _) rfl ?_
    rw [HF.out]
    exact ⟨rfl, HB2.out⟩
end Go.Proofs.YtbknmapkdjmcjaaGreatDoor.By

namespace Go.Proofs.YtbknmapkdjmcjaaGreatDoor.By
open Go.RowKit
open Mem Gm Rf
set_option linter.unusedSimpArgs false
set_option linter.unusedVariables false

def kV (z : Int) : Fn := ⟨1, [0, z], 0, false, 0, 0, [], [(17, 1, 0, 0, 0), (20, 0, 1, 1, 0), (19, 0, 0, 0, 0), (24, 0, 0, 0, 0)], [(0, 0, false), (2, 0, false)]⟩
def kS : List Sy := [(⟨#[102]⟩, false, 1, 1, 0)]
theorem vch17 : chV 17 1 0 0 0 = 0 := ch_ok (by decide) (fun k hk => by rcases quad k hk with rfl | rfl | rfl | rfl <;> (unfold inV; decide)) fun k hk => by rcases quad k hk with rfl | rfl | rfl | rfl <;> (unfold argV; decide)
theorem vch20 : chV 20 0 1 1 0 = 0 := ch_ok (by decide) (fun k hk => by rcases quad k hk with rfl | rfl | rfl | rfl <;> (unfold inV; decide)) fun k hk => by rcases quad k hk with rfl | rfl | rfl | rfl <;> (unfold argV; decide)
theorem vcd (z : Int) : cdV (kV z) = 0 := by
  have e : (kV z).cs = [(17, 1, 0, 0, 0), (20, 0, 1, 1, 0), (19, 0, 0, 0, 0), (24, 0, 0, 0, 0)] := rfl
  have hf : flowV [(17, 1, 0, 0, 0), (20, 0, 1, 1, 0), (19, 0, 0, 0, 0), (24, 0, 0, 0, 0)] = 0 := by
    unfold flowV chk
    rw [if_neg (by decide), if_neg (by decide), if_neg]
    rintro ⟨i, hi, h⟩
    have hi2 : i = 0 ∨ i = 1 ∨ i = 2 ∨ i = 3 := by simp at hi; omega
    rcases hi2 with rfl | rfl | rfl | rfl
    · revert h; decide +kernel
    · revert h; decide +kernel
    · revert h; decide +kernel
    · revert h; decide +kernel
  unfold cdV
  rw [e, hf, if_neg (by simp), codL, codL, codL, codL, codL]
  simp only [vch17, vch20, ch0 19 (by decide), ch0 24 (by decide)]
  decide
theorem vc2 : chF (kV 2) = 0 := by
  unfold chF
  rw [vcd, show frV (kV 2) = 0 by decide +kernel, show rgV (kV 2) = 0 by decide +kernel, show lnV9 (kV 2) = 0 by decide +kernel, show rfV9 (kV 2) = 0 by decide +kernel]
  decide
theorem vc3 : chF (kV 3) = 0 := by
  unfold chF
  rw [vcd, show frV (kV 3) = 0 by decide +kernel, show rgV (kV 3) = 0 by decide +kernel, show lnV9 (kV 3) = 0 by decide +kernel, show rfV9 (kV 3) = 0 by decide +kernel]
  decide
theorem vf2 : veF (kV 2) kS = (0, -1) := by
  unfold veF
  rw [if_pos vc2]
  decide +kernel
theorem vf3 : veF (kV 3) kS = (8, 0) := by
  unfold veF
  rw [if_pos vc3]
  decide +kernel
theorem vk2 : veK (kV 2) kS 1 = (1, true) := by decide +kernel
theorem vs2 : veS (kV 2) 2 = 0 ∧ veS (kV 2) 1 = -1 := by decide +kernel
theorem vi2 : veI (kV 2) [] 2 = 11 := by decide +kernel
theorem kV_of {W : World} {b : Nat} {z : Int} (hk : Blk W (b + 1) 3 #[.int .i64 0, .int .i64 z]) (hc : Blk W (b + 2) 94 #[.int .i64 17, .int .i64 1, .int .i64 0, .int .i64 0, .int .i64 0, .int .i64 20, .int .i64 0, .int .i64 1, .int .i64 1, .int .i64 0, .int .i64 19, .int .i64 0, .int .i64 0, .int .i64 0, .int .i64 0, .int .i64 24, .int .i64 0, .int .i64 0, .int .i64 0, .int .i64 0]) (hr : Blk W (b + 3) 82 #[.int .i64 0, .int .i64 0, .bool false, .int .i64 2, .int .i64 0, .bool false]) : FnW W (some ⟨b + 1, 0, none⟩) 2 2 none 0 0 (some ⟨b + 2, 0, none⟩) 4 4 (some ⟨b + 3, 0, none⟩) 2 2 (kV z) :=
  ⟨IW.lit [0, z] 2 hk rfl rfl (by decide), rfl, Wd.nil, wd_lit encIn_len _ 4 rfl (by decide) hc rfl, wd_lit encRl_len _ 2 rfl (by decide) hr rfl⟩
theorem kS_of {W : World} {b : Nat} (h : Blk W b 68 #[.string ⟨#[102]⟩, .bool false, .int .i64 1, .int .i64 1, .int .i64 0]) : SyL W (some ⟨b, 0, none⟩) 1 1 kS := wd_lit (enc := encSy) (fun _ => rfl) kS 1 rfl (by decide) h rfl
theorem kS_bd (k : Nat) : -9223372036854775808 ≤ (syAt kS k).2.2.2.1 ∧ (syAt kS k).2.2.2.1 ≤ 9223372036854775807 := by
  match k with
  | 0 => decide
  | n + 1 =>
    have e : syAt kS (n + 1) = syAt [] 0 := rfl
    rw [e]
    decide
def ClA (w : World) (e : Ending) (w' : World) : Prop := e = .returned (.agg #[.int .i64 1, .slice (some ⟨w.heap.size + 1, 0, none⟩) 2 2, .int .i64 0, .bool false, .int .i64 0, .int .i64 0, .slice none 0 0, .slice (some ⟨w.heap.size + 2, 0, none⟩) 4 4, .slice (some ⟨w.heap.size + 3, 0, none⟩) 2 2]) ∧ (Blk w' (w.heap.size + 1) 3 #[.int .i64 0, .int .i64 2] ∧ Blk w' (w.heap.size + 2) 94 #[.int .i64 17, .int .i64 1, .int .i64 0, .int .i64 0, .int .i64 0, .int .i64 20, .int .i64 0, .int .i64 1, .int .i64 1, .int .i64 0, .int .i64 19, .int .i64 0, .int .i64 0, .int .i64 0, .int .i64 0, .int .i64 24, .int .i64 0, .int .i64 0, .int .i64 0, .int .i64 0] ∧ Blk w' (w.heap.size + 3) 82 #[.int .i64 0, .int .i64 0, .bool false, .int .i64 2, .int .i64 0, .bool false]) ∧ Below w.heap.size w w'
set_option maxRecDepth 100000 in
set_option maxHeartbeats 4000000 in
theorem calls_any (w : World) : Calls Tryz.prog 91 #[] w (ClA w) := by
  obtain ⟨W0, hW0⟩ : ∃ W0, (((w.alloc (.cells #[.int .i64 0, .slice none 0 0, .int .i64 0, .bool false, .int .i64 0, .int .i64 0, .slice none 0 0, .slice none 0 0, .slice none 0 0] 27)).alloc (.cells #[.int .i64 0, .int .i64 2] 3)).alloc (.cells #[.int .i64 17, .int .i64 1, .int .i64 0, .int .i64 0, .int .i64 0, .int .i64 20, .int .i64 0, .int .i64 1, .int .i64 1, .int .i64 0, .int .i64 19, .int .i64 0, .int .i64 0, .int .i64 0, .int .i64 0, .int .i64 24, .int .i64 0, .int .i64 0, .int .i64 0, .int .i64 0] 94)).alloc (.cells #[.int .i64 0, .int .i64 0, .bool false, .int .i64 2, .int .i64 0, .bool false] 82) = W0 := ⟨_, rfl⟩
  have s1 : (w.alloc (.cells #[.int .i64 0, .slice none 0 0, .int .i64 0, .bool false, .int .i64 0, .int .i64 0, .slice none 0 0, .slice none 0 0, .slice none 0 0] 27)).heap.size = w.heap.size + 1 := World.size_alloc _ _
  have s2 : ((w.alloc (.cells #[.int .i64 0, .slice none 0 0, .int .i64 0, .bool false, .int .i64 0, .int .i64 0, .slice none 0 0, .slice none 0 0, .slice none 0 0] 27)).alloc (.cells #[.int .i64 0, .int .i64 2] 3)).heap.size = w.heap.size + 2 := by rw [World.size_alloc, s1]
  have s3 : (((w.alloc (.cells #[.int .i64 0, .slice none 0 0, .int .i64 0, .bool false, .int .i64 0, .int .i64 0, .slice none 0 0, .slice none 0 0, .slice none 0 0] 27)).alloc (.cells #[.int .i64 0, .int .i64 2] 3)).alloc (.cells #[.int .i64 17, .int .i64 1, .int .i64 0, .int .i64 0, .int .i64 0, .int .i64 20, .int .i64 0, .int .i64 1, .int .i64 1, .int .i64 0, .int .i64 19, .int .i64 0, .int .i64 0, .int .i64 0, .int .i64 0, .int .i64 24, .int .i64 0, .int .i64 0, .int .i64 0, .int .i64 0] 94)).heap.size = w.heap.size + 3 := by rw [World.size_alloc, s2]
  have hz : Blk W0 w.heap.size 27 #[.int .i64 0, .slice none 0 0, .int .i64 0, .bool false, .int .i64 0, .int .i64 0, .slice none 0 0, .slice none 0 0, .slice none 0 0] := by rw [← hW0]; exact (((Blk.new w _ _).alloc _).alloc _).alloc _
  have hk : Blk W0 (w.heap.size + 1) 3 #[.int .i64 0, .int .i64 2] := by rw [← hW0, ← s1]; exact ((Blk.new _ _ _).alloc _).alloc _
  have hl : Blk W0 (w.heap.size + 2) 94 #[.int .i64 17, .int .i64 1, .int .i64 0, .int .i64 0, .int .i64 0, .int .i64 20, .int .i64 0, .int .i64 1, .int .i64 1, .int .i64 0, .int .i64 19, .int .i64 0, .int .i64 0, .int .i64 0, .int .i64 0, .int .i64 24, .int .i64 0, .int .i64 0, .int .i64 0, .int .i64 0] := by rw [← hW0, ← s2]; exact (Blk.new _ _ _).alloc _
  have hc : Blk W0 (w.heap.size + 3) 82 #[.int .i64 0, .int .i64 0, .bool false, .int .i64 2, .int .i64 0, .bool false] := by rw [← hW0, ← s3]; exact Blk.new _ _ _
  have HB := Lib.hid (show Below w.heap.size w W0 from by rw [← hW0]; exact to_ (to_ (to_ (alloc_ _ _) (alloc_ _ _)) (alloc_ _ _)) (alloc_ _ _))
  have HZ := Lib.hid hz
  have HBL := Lib.hid (show Blk W0 (w.heap.size + 1) 3 #[.int .i64 0, .int .i64 2] ∧ Blk W0 (w.heap.size + 2) 94 #[.int .i64 17, .int .i64 1, .int .i64 0, .int .i64 0, .int .i64 0, .int .i64 20, .int .i64 0, .int .i64 1, .int .i64 1, .int .i64 0, .int .i64 19, .int .i64 0, .int .i64 0, .int .i64 0, .int .i64 0, .int .i64 24, .int .i64 0, .int .i64 0, .int .i64 0, .int .i64 0] ∧ Blk W0 (w.heap.size + 3) 82 #[.int .i64 0, .int .i64 0, .bool false, .int .i64 2, .int .i64 0, .bool false] from ⟨hk, hl, hc⟩)
  obtain ⟨b0, b1, b2, b3, b4, b5, b6, b7, b8⟩ := blk9 hz
  obtain ⟨g0, g1, g2, g3, g4, g5, g6, g7, g8⟩ := blk9f hz
  clear hz hk hl hc s1 s2 s3
  go_enter Tryz.func91, Tryz.ntmps91
  go_wp2_with fail
  clear hW0 b0 b1 b2 b3 b4 b5 b6 b7 b8 g0 g1 g2 g3 g4 g5 g6 g7 g8
  obtain ⟨W9, hW9⟩ : ∃ W9, set9 W0 w.heap.size (.int .i64 1) (.slice (some ⟨w.heap.size + 1, 0, none⟩) 2 2) (.int .i64 0) (.bool false) (.int .i64 0) (.int .i64 0) (.slice none 0 0) (.slice (some ⟨w.heap.size + 2, 0, none⟩) 4 4) (.slice (some ⟨w.heap.size + 3, 0, none⟩) 2 2) = W9 := ⟨_, rfl⟩
  have hon := set9_only W0 w.heap.size (.int .i64 1) (.slice (some ⟨w.heap.size + 1, 0, none⟩) 2 2) (.int .i64 0) (.bool false) (.int .i64 0) (.int .i64 0) (.slice none 0 0) (.slice (some ⟨w.heap.size + 2, 0, none⟩) 4 4) (.slice (some ⟨w.heap.size + 3, 0, none⟩) 2 2)
  have hbk := blk_set9 (.int .i64 1) (.slice (some ⟨w.heap.size + 1, 0, none⟩) 2 2) (.int .i64 0) (.bool false) (.int .i64 0) (.int .i64 0) (.slice none 0 0) (.slice (some ⟨w.heap.size + 2, 0, none⟩) 4 4) (.slice (some ⟨w.heap.size + 3, 0, none⟩) 2 2) HZ.out
  rw [hW9] at hon hbk
  unfold set9 at hW9
  rw [hW9]
  obtain ⟨k0', k1, k2, k3, k4, k5, k6, k7, k8⟩ := blk9 hbk
  refine bodyPost_ret (v := .agg #[.int .i64 1, .slice (some ⟨w.heap.size + 1, 0, none⟩) 2 2, .int .i64 0, .bool false, .int .i64 0, .int .i64 0, .slice none 0 0, .slice (some ⟨w.heap.size + 2, 0, none⟩) 4 4, .slice (some ⟨w.heap.size + 3, 0, none⟩) 2 2]) (by simp [results, Tryz.results91, go_sem, k0', k1, k2, k3, k4, k5, k6, k7, k8]) rfl ?_
  obtain ⟨hk, hl, hc⟩ := HBL.out
  have hk9 := blk_only hk hon (by omega)
  have hl9 := blk_only hl hon (by omega)
  have hc9 := blk_only hc hon (by omega)
  exact ⟨rfl, ⟨hk9, hl9, hc9⟩, HB.out.grown hon HB.out.size (fun r e => by injection e; omega)⟩
end Go.Proofs.YtbknmapkdjmcjaaGreatDoor.By

namespace Go.Proofs.YtbknmapkdjmcjaaGreatDoor.By
open Go.RowKit
open Mem Gm Rf
set_option linter.unusedSimpArgs false
set_option linter.unusedVariables false

set_option maxRecDepth 100000 in
set_option maxHeartbeats 8000000 in
theorem known17_any (w : World) (ht : TX3 w) : Calls Tryz.prog 30 #[] w (TAns w) := by
  obtain ⟨WS, hWS⟩ : ∃ WS, w.alloc (.cells #[.string ⟨#[102]⟩, .bool false, .int .i64 1, .int .i64 1, .int .i64 0] 68) = WS := ⟨_, rfl⟩
  have HBS := Lib.hid (show Below w.heap.size w WS from by rw [← hWS]; exact alloc_ _ _)
  have HSS := Lib.hid (show Blk WS w.heap.size 68 #[.string ⟨#[102]⟩, .bool false, .int .i64 1, .int .i64 1, .int .i64 0] from by rw [← hWS]; exact Blk.new w _ _)
  have HT0 := Lib.hid ht
  clear ht
  go_enter Tryz.func30, Tryz.ntmps30
  go_wp2_with fail
  clear hWS
  refine (calls_any WS).mono ?_
  rintro e w1 ⟨rfl, hbl, b1⟩
  obtain ⟨W1, hW1⟩ : ∃ W1, w1.alloc (.cells #[.int .i64 1, .slice (some ⟨WS.heap.size + 1, 0, none⟩) 2 2, .int .i64 0, .bool false, .int .i64 0, .int .i64 0, .slice none 0 0, .slice (some ⟨WS.heap.size + 2, 0, none⟩) 4 4, .slice (some ⟨WS.heap.size + 3, 0, none⟩) 2 2] 27) = W1 := ⟨_, rfl⟩
  have HBW := Lib.hid (show Below w.heap.size w W1 from by rw [← hW1]; exact to_ (to_ HBS.out b1) (alloc_ _ _))
  have hbl1 : (Blk W1 (WS.heap.size + 1) 3 #[.int .i64 0, .int .i64 2] ∧ Blk W1 (WS.heap.size + 2) 94 #[.int .i64 17, .int .i64 1, .int .i64 0, .int .i64 0, .int .i64 0, .int .i64 20, .int .i64 0, .int .i64 1, .int .i64 1, .int .i64 0, .int .i64 19, .int .i64 0, .int .i64 0, .int .i64 0, .int .i64 0, .int .i64 24, .int .i64 0, .int .i64 0, .int .i64 0, .int .i64 0] ∧ Blk W1 (WS.heap.size + 3) 82 #[.int .i64 0, .int .i64 0, .bool false, .int .i64 2, .int .i64 0, .bool false]) := by rw [← hW1]; exact ⟨hbl.1.alloc _, hbl.2.1.alloc _, hbl.2.2.alloc _⟩
  have hf1 : FnW W1 (some ⟨WS.heap.size + 1, 0, none⟩) 2 2 none 0 0 (some ⟨WS.heap.size + 2, 0, none⟩) 4 4 (some ⟨WS.heap.size + 3, 0, none⟩) 2 2 (kV 2) := kV_of hbl1.1 hbl1.2.1 hbl1.2.2
  have hx1 : Blk W1 w1.heap.size 27 #[.int .i64 1, .slice (some ⟨WS.heap.size + 1, 0, none⟩) 2 2, .int .i64 0, .bool false, .int .i64 0, .int .i64 0, .slice none 0 0, .slice (some ⟨WS.heap.size + 2, 0, none⟩) 4 4, .slice (some ⟨WS.heap.size + 3, 0, none⟩) 2 2] := by rw [← hW1]; exact Blk.new w1 _ _
  have hs1 : SyL W1 (some ⟨w.heap.size, 0, none⟩) 1 1 kS := kS_of (by rw [← hW1]; exact ((HSS.out.below b1 HSS.out.lt).alloc _))
  have HF := Lib.hid (show ∀ W, Below W1.heap.size W1 W → FnW W (some ⟨WS.heap.size + 1, 0, none⟩) 2 2 none 0 0 (some ⟨WS.heap.size + 2, 0, none⟩) 4 4 (some ⟨WS.heap.size + 3, 0, none⟩) 2 2 (kV 2) from fun W hb => hf1.on hb)
  have HX := Lib.hid (show ∀ W, Below W1.heap.size W1 W → Blk W w1.heap.size 27 #[.int .i64 1, .slice (some ⟨WS.heap.size + 1, 0, none⟩) 2 2, .int .i64 0, .bool false, .int .i64 0, .int .i64 0, .slice none 0 0, .slice (some ⟨WS.heap.size + 2, 0, none⟩) 4 4, .slice (some ⟨WS.heap.size + 3, 0, none⟩) 2 2] from fun W hb => hx1.below hb hx1.lt)
  have HS := Lib.hid (show ∀ W, Below W1.heap.size W1 W → SyL W (some ⟨w.heap.size, 0, none⟩) 1 1 kS from fun W hb => hs1.on hb)
  have HT := Lib.hid (show ∀ W, Below W1.heap.size W1 W → TX3 W from fun W hb => HT0.out.on (to_ HBW.out hb))
  obtain ⟨c0, c1, c2, c3, c4, c5, c6, c7, c8⟩ := blk9 hx1
  clear hbl b1 hbl1 hf1 hs1 hx1
  go_wp2_with fail
  clear hW1 c0 c1 c2 c3 c4 c5 c6 c7 c8
  have HV1 := Lib.hid (Below.refl W1.heap.size W1)
  refine (show Calls Tryz.prog 31 #[.agg #[.int .i64 1, .slice (some ⟨WS.heap.size + 1, 0, none⟩) 2 2, .int .i64 0, .bool false, .int .i64 0, .int .i64 0, .slice none 0 0, .slice (some ⟨WS.heap.size + 2, 0, none⟩) 4 4, .slice (some ⟨WS.heap.size + 3, 0, none⟩) 2 2], .slice (some ⟨w.heap.size, 0, none⟩) 1 1] W1 (fun e w' => e = .returned (.tuple #[.int .i64 0, .int .i64 (-1)]) ∧ Below W1.heap.size W1 w') from by have h := vch_any W1 (some ⟨WS.heap.size + 1, 0, none⟩) none (some ⟨WS.heap.size + 2, 0, none⟩) (some ⟨WS.heap.size + 3, 0, none⟩) 2 2 0 0 4 4 2 2 (kV 2) (HF.out W1 HV1.out) ⟨by omega, by omega, by omega, by omega⟩ (some ⟨w.heap.size, 0, none⟩) 1 1 kS (HS.out W1 HV1.out) kS_bd (HT.out W1 HV1.out); rw [vf2] at h; exact h).mono ?_
  rintro e w2 ⟨rfl, b⟩
  have HV2 := Lib.hid b
  clear b
  obtain ⟨c0, c1, c2, c3, c4, c5, c6, c7, c8⟩ := blk9 (HX.out w2 HV2.out)
  go_wp2_with fail
  clear c0 c1 c2 c3 c4 c5 c6 c7 c8
  refine (show Calls Tryz.prog 35 #[.agg #[.int .i64 1, .slice (some ⟨WS.heap.size + 1, 0, none⟩) 2 2, .int .i64 0, .bool false, .int .i64 0, .int .i64 0, .slice none 0 0, .slice (some ⟨WS.heap.size + 2, 0, none⟩) 4 4, .slice (some ⟨WS.heap.size + 3, 0, none⟩) 2 2], .slice (some ⟨w.heap.size, 0, none⟩) 1 1, .int .i64 1] w2 (fun e w' => e = .returned (.tuple #[.int .i64 1, .bool true]) ∧ Below w2.heap.size w2 w') from by have h := vcl_any w2 (some ⟨WS.heap.size + 1, 0, none⟩) none (some ⟨WS.heap.size + 2, 0, none⟩) (some ⟨WS.heap.size + 3, 0, none⟩) 2 2 0 0 4 4 2 2 (kV 2) (HF.out w2 HV2.out) (by omega) (some ⟨w.heap.size, 0, none⟩) 1 1 kS (HS.out w2 HV2.out) 1; rw [vk2] at h; exact h).mono ?_
  rintro e w3 ⟨rfl, b⟩
  have HV3 := Lib.hid (to_ HV2.out b)
  clear b
  go_wp2_with fail
  refine (calls_any w3).mono ?_
  rintro e w4 ⟨rfl, hbl, b4⟩
  obtain ⟨W4, hW4⟩ : ∃ W4, w4.alloc (.cells #[.int .i64 1, .slice (some ⟨w3.heap.size + 1, 0, none⟩) 2 2, .int .i64 0, .bool false, .int .i64 0, .int .i64 0, .slice none 0 0, .slice (some ⟨w3.heap.size + 2, 0, none⟩) 4 4, .slice (some ⟨w3.heap.size + 3, 0, none⟩) 2 2] 27) = W4 := ⟨_, rfl⟩
  obtain ⟨W5, hW5⟩ : ∃ W5, W4.setCell ⟨w3.heap.size + 1, 1, none⟩ (.int .i64 3) = W5 := ⟨_, rfl⟩
  have hb4 : (Blk W4 (w3.heap.size + 1) 3 #[.int .i64 0, .int .i64 2] ∧ Blk W4 (w3.heap.size + 2) 94 #[.int .i64 17, .int .i64 1, .int .i64 0, .int .i64 0, .int .i64 0, .int .i64 20, .int .i64 0, .int .i64 1, .int .i64 1, .int .i64 0, .int .i64 19, .int .i64 0, .int .i64 0, .int .i64 0, .int .i64 0, .int .i64 24, .int .i64 0, .int .i64 0, .int .i64 0, .int .i64 0] ∧ Blk W4 (w3.heap.size + 3) 82 #[.int .i64 0, .int .i64 0, .bool false, .int .i64 2, .int .i64 0, .bool false]) := by rw [← hW4]; exact ⟨hbl.1.alloc _, hbl.2.1.alloc _, hbl.2.2.alloc _⟩
  have hx4 : Blk W4 w4.heap.size 27 #[.int .i64 1, .slice (some ⟨w3.heap.size + 1, 0, none⟩) 2 2, .int .i64 0, .bool false, .int .i64 0, .int .i64 0, .slice none 0 0, .slice (some ⟨w3.heap.size + 2, 0, none⟩) 4 4, .slice (some ⟨w3.heap.size + 3, 0, none⟩) 2 2] := by rw [← hW4]; exact Blk.new w4 _ _
  have h34 : w3.heap.size + 3 < w4.heap.size := hbl.2.2.lt
  have hb5 : (Blk W5 (w3.heap.size + 1) 3 #[.int .i64 0, .int .i64 3] ∧ Blk W5 (w3.heap.size + 2) 94 #[.int .i64 17, .int .i64 1, .int .i64 0, .int .i64 0, .int .i64 0, .int .i64 20, .int .i64 0, .int .i64 1, .int .i64 1, .int .i64 0, .int .i64 19, .int .i64 0, .int .i64 0, .int .i64 0, .int .i64 0, .int .i64 24, .int .i64 0, .int .i64 0, .int .i64 0, .int .i64 0] ∧ Blk W5 (w3.heap.size + 3) 82 #[.int .i64 0, .int .i64 0, .bool false, .int .i64 2, .int .i64 0, .bool false]) := by
    rw [← hW5]
    refine ⟨(hb4.1.stored 1 (.int .i64 3)), blk_away hb4.2.1 _ _ ?_, blk_away hb4.2.2 _ _ ?_⟩
    · show w3.heap.size + 2 ≠ w3.heap.size + 1
      omega
    · show w3.heap.size + 3 ≠ w3.heap.size + 1
      omega
  have hx5 : Blk W5 w4.heap.size 27 #[.int .i64 1, .slice (some ⟨w3.heap.size + 1, 0, none⟩) 2 2, .int .i64 0, .bool false, .int .i64 0, .int .i64 0, .slice none 0 0, .slice (some ⟨w3.heap.size + 2, 0, none⟩) 4 4, .slice (some ⟨w3.heap.size + 3, 0, none⟩) 2 2] := by
    rw [← hW5]
    refine blk_away hx4 _ _ ?_
    show w4.heap.size ≠ w3.heap.size + 1
    omega
  have HV5 := Lib.hid (show Below W1.heap.size W1 W5 from by
    rw [← hW5, ← hW4]
    exact (to_ (to_ HV3.out b4) (alloc_ _ _)).setCell (p := ⟨w3.heap.size + 1, 1, none⟩) (show W1.heap.size ≤ w3.heap.size + 1 from by have := HV3.out.size; omega) _)
  have HF5 := Lib.hid (show FnW W5 (some ⟨w3.heap.size + 1, 0, none⟩) 2 2 none 0 0 (some ⟨w3.heap.size + 2, 0, none⟩) 4 4 (some ⟨w3.heap.size + 3, 0, none⟩) 2 2 (kV 3) from kV_of hb5.1 hb5.2.1 hb5.2.2)
  obtain ⟨g0, g1, g2, g3, g4, g5, g6, g7, g8⟩ := blk9 hx4
  obtain ⟨d0, d1, d2, d3, d4, d5, d6, d7, d8⟩ := blk9 hx5
  have e1 : W4.cell? ⟨w3.heap.size + 1, 1, none⟩ = some (.int .i64 2) := hb4.1.cell 1
  have e2 := hb4.1.lt
  have e3 := hb4.1.frozen 1
  clear hbl b4 hb4 hx4 h34 hb5 hx5
  go_wp2_with fail
  clear hW4 hW5 g0 g1 g2 g3 g4 g5 g6 g7 g8 d0 d1 d2 d3 d4 d5 d6 d7 d8 e1 e2 e3
  refine (show Calls Tryz.prog 31 #[.agg #[.int .i64 1, .slice (some ⟨w3.heap.size + 1, 0, none⟩) 2 2, .int .i64 0, .bool false, .int .i64 0, .int .i64 0, .slice none 0 0, .slice (some ⟨w3.heap.size + 2, 0, none⟩) 4 4, .slice (some ⟨w3.heap.size + 3, 0, none⟩) 2 2], .slice (some ⟨w.heap.size, 0, none⟩) 1 1] W5 (fun e w' => e = .returned (.tuple #[.int .i64 8, .int .i64 0]) ∧ Below W5.heap.size W5 w') from by have h := vch_any W5 (some ⟨w3.heap.size + 1, 0, none⟩) none (some ⟨w3.heap.size + 2, 0, none⟩) (some ⟨w3.heap.size + 3, 0, none⟩) 2 2 0 0 4 4 2 2 (kV 3) HF5.out ⟨by omega, by omega, by omega, by omega⟩ (some ⟨w.heap.size, 0, none⟩) 1 1 kS (HS.out W5 HV5.out) kS_bd (HT.out W5 HV5.out); rw [vf3] at h; exact h).mono ?_
  rintro e w6 ⟨rfl, b⟩
  have HV6 := Lib.hid (to_ HV5.out b)
  clear b
  obtain ⟨c0, c1, c2, c3, c4, c5, c6, c7, c8⟩ := blk9 (HX.out w6 HV6.out)
  go_wp2_with fail
  clear c0 c1 c2 c3 c4 c5 c6 c7 c8
  refine (show Calls Tryz.prog 37 #[.agg #[.int .i64 1, .slice (some ⟨WS.heap.size + 1, 0, none⟩) 2 2, .int .i64 0, .bool false, .int .i64 0, .int .i64 0, .slice none 0 0, .slice (some ⟨WS.heap.size + 2, 0, none⟩) 4 4, .slice (some ⟨WS.heap.size + 3, 0, none⟩) 2 2], .int .i64 2] w6 (fun e w' => e = .returned (.int .i64 0) ∧ Below w6.heap.size w6 w') from by have h := vsym_any w6 (some ⟨WS.heap.size + 1, 0, none⟩) none (some ⟨WS.heap.size + 2, 0, none⟩) (some ⟨WS.heap.size + 3, 0, none⟩) 2 2 0 0 4 4 2 2 (kV 2) (HF.out w6 HV6.out) (by omega) 2; rw [vs2.1] at h; exact h).mono ?_
  rintro e w7 ⟨rfl, b⟩
  have HV7 := Lib.hid (to_ HV6.out b)
  clear b
  obtain ⟨c0, c1, c2, c3, c4, c5, c6, c7, c8⟩ := blk9 (HX.out w7 HV7.out)
  go_wp2_with fail
  clear c0 c1 c2 c3 c4 c5 c6 c7 c8
  refine (show Calls Tryz.prog 37 #[.agg #[.int .i64 1, .slice (some ⟨WS.heap.size + 1, 0, none⟩) 2 2, .int .i64 0, .bool false, .int .i64 0, .int .i64 0, .slice none 0 0, .slice (some ⟨WS.heap.size + 2, 0, none⟩) 4 4, .slice (some ⟨WS.heap.size + 3, 0, none⟩) 2 2], .int .i64 1] w7 (fun e w' => e = .returned (.int .i64 (-1)) ∧ Below w7.heap.size w7 w') from by have h := vsym_any w7 (some ⟨WS.heap.size + 1, 0, none⟩) none (some ⟨WS.heap.size + 2, 0, none⟩) (some ⟨WS.heap.size + 3, 0, none⟩) 2 2 0 0 4 4 2 2 (kV 2) (HF.out w7 HV7.out) (by omega) 1; rw [vs2.2] at h; exact h).mono ?_
  rintro e w8 ⟨rfl, b⟩
  have HV8 := Lib.hid (to_ HV7.out b)
  clear b
  obtain ⟨c0, c1, c2, c3, c4, c5, c6, c7, c8⟩ := blk9 (HX.out w8 HV8.out)
  go_wp2_with fail
  clear c0 c1 c2 c3 c4 c5 c6 c7 c8
  refine (show Calls Tryz.prog 33 #[.agg #[.int .i64 1, .slice (some ⟨WS.heap.size + 1, 0, none⟩) 2 2, .int .i64 0, .bool false, .int .i64 0, .int .i64 0, .slice none 0 0, .slice (some ⟨WS.heap.size + 2, 0, none⟩) 4 4, .slice (some ⟨WS.heap.size + 3, 0, none⟩) 2 2], .slice none 0 0, .int .i64 2] w8 (fun e w' => e = .returned (.int .i64 11) ∧ Below w8.heap.size w8 w') from by have h := vin_any w8 (some ⟨WS.heap.size + 1, 0, none⟩) none (some ⟨WS.heap.size + 2, 0, none⟩) (some ⟨WS.heap.size + 3, 0, none⟩) 2 2 0 0 4 4 2 2 (kV 2) (HF.out w8 HV8.out) (by omega) (by omega) none 0 0 [] Wd.nil (fun k => ⟨by simp [syAt], by simp [syAt]⟩) (HT.out w8 HV8.out).1 2; rw [vi2] at h; exact h).mono ?_
  rintro e w9 ⟨rfl, b⟩
  have HV9 := Lib.hid (to_ HV8.out b)
  clear b
  go_wp2_with fail
  go_ret
  exact ⟨rfl, to_ HBW.out HV9.out⟩
end Go.Proofs.YtbknmapkdjmcjaaGreatDoor.By

namespace Go.Proofs.YtbknmapkdjmcjaaGreatDoor.By
open Go.RowKit
open Mem Gm Rf
set_option linter.unusedSimpArgs false
set_option linter.unusedVariables false

theorem few17_any (w : World) (A : Option Addr) (n c : Nat) : Calls Tryz.prog 29 #[.slice A n c] w fun e w' => e = .returned (.bool (decide (n ≤ 60))) ∧ w = w' := by
  by_cases h : n ≤ 60
  · have h2 : (n : Int) ≤ 60 := by omega
    rw [decide_eq_true h]
    clear h
    go_enter Tryz.func29, Tryz.ntmps29
    go_wp2_with fail
    go_ret
    exact ⟨rfl, rfl⟩
  · have h2 : ¬ (n : Int) ≤ 60 := by omega
    rw [decide_eq_false h]
    clear h
    go_enter Tryz.func29, Tryz.ntmps29
    go_wp2_with fail
    go_ret
    exact ⟨rfl, rfl⟩
set_option maxRecDepth 100000 in
set_option maxHeartbeats 8000000 in
theorem verifyTells_any (w : World) (AK AL AC AR : Option Addr) (nK cK nL cL nC cC nR cR : Nat) (x : Fn) (hF : FnW w AK nK cK AL nL cL AC nC cC AR nR cR x) (AS : Option Addr) (nS cS : Nat) (l : List Sy) (hS : SyL w AS nS cS l) (hb : ∀ k, -9223372036854775808 ≤ (syAt l k).2.2.2.1 ∧ (syAt l k).2.2.2.1 ≤ 9223372036854775807) (hB : (∀ z ∈ x.ks, -9223372036854775808 ≤ z ∧ z ≤ 9223372036854775807) ∧ ∀ k, k < x.cs.length → -9223372036854775808 ≤ (inAt x.cs k).1 ∧ (inAt x.cs k).1 ≤ 9223372036854775807) (hT : TX3 w) (i : Int) :
    Calls Tryz.prog 6 #[.agg #[.int .i64 x.k, .slice AK nK cK, .int .i64 x.pd, .bool x.ns, .int .i64 x.f, .int .i64 x.t, .slice AL nL cL, .slice AC nC cC, .slice AR nR cR], .slice AS nS cS, .int .i64 i] w (TAns w) := by
  obtain ⟨W1, hW1⟩ : ∃ W1, w.alloc (.cells #[.int .i64 x.k, .slice AK nK cK, .int .i64 x.pd, .bool x.ns, .int .i64 x.f, .int .i64 x.t, .slice AL nL cL, .slice AC nC cC, .slice AR nR cR] 27) = W1 := ⟨_, rfl⟩
  have HB0 := Lib.hid (show Below w.heap.size w W1 by rw [← hW1]; exact alloc_ _ _)
  have hx1 : Blk W1 w.heap.size 27 #[.int .i64 x.k, .slice AK nK cK, .int .i64 x.pd, .bool x.ns, .int .i64 x.f, .int .i64 x.t, .slice AL nL cL, .slice AC nC cC, .slice AR nR cR] := by rw [← hW1]; exact Blk.new w _ _
  have HX := Lib.hid (show ∀ W, Below W1.heap.size W1 W → Blk W w.heap.size 27 #[.int .i64 x.k, .slice AK nK cK, .int .i64 x.pd, .bool x.ns, .int .i64 x.f, .int .i64 x.t, .slice AL nL cL, .slice AC nC cC, .slice AR nR cR] from fun W hb => hx1.below hb hx1.lt)
  have HFW := Lib.hid (fewF_any W1 x.k x.pd x.f x.t x.ns AK AL AC AR nK cK nL cL nC cC nR cR)
  have HKN := Lib.hid (fun W (hb : Below W1.heap.size W1 W) => known17_any W (hT.on (to_ HB0.out hb)))
  have hn : fewB nK nL nC nR = true → nK ≤ 100 ∧ nL ≤ 100 ∧ nC ≤ 100 ∧ nR ≤ 100 := fun h => by
    unfold fewB at h
    simp at h
    omega
  obtain ⟨p0, p1, p2, p3, p4, p5, p6, p7, p8⟩ := blk9 hx1
  have HSW := Lib.hid (fun W => few17_any W AS nS cS)
  have H1 := Lib.hid (fun hm W (hb2 : Below W1.heap.size W1 W) => vch_any W AK AL AC AR nK cK nL cL nC cC nR cR x (hF.on (to_ HB0.out hb2)) hm AS nS cS l (hS.on (to_ HB0.out hb2)) hb (hT.on (to_ HB0.out hb2)))
  have H2 := Lib.hid (fun hm W (hb2 : Below W1.heap.size W1 W) => dch_any W AK AL AC AR nK cK nL cL nC cC nR cR x (hF.on (to_ HB0.out hb2)) hm AS nS cS l (hS.on (to_ HB0.out hb2)) hb (hT.on (to_ HB0.out hb2)) hB)
  have H3 := Lib.hid (fun (hm : nK ≤ 1000000 ∧ nR ≤ 1000000) W (hb2 : Below W1.heap.size W1 W) => vin_any W AK AL AC AR nK cK nL cL nC cC nR cR x (hF.on (to_ HB0.out hb2)) hm.2 hm.1 AS nS cS l (hS.on (to_ HB0.out hb2)) hb (hT.on (to_ HB0.out hb2)).1 i)
  have H4 := Lib.hid (fun (hm : nK ≤ 1000000 ∧ nR ≤ 1000000) W (hb2 : Below W1.heap.size W1 W) => dvo_any W AK AL AC AR nK cK nL cL nC cC nR cR x (hF.on (to_ HB0.out hb2)) hm.2 hm.1 AS nS cS l (hS.on (to_ HB0.out hb2)) hb hB i)
  generalize veF x l = y1 at H1 H2
  obtain ⟨y1, y2⟩ := y1
  dsimp only at H1 H2
  generalize veI x l i = y3 at H3 H4
  generalize fewB nK nL nC nR = bf at hn HFW
  generalize decide (nS ≤ 60) = bs at HSW
  clear hT hF hB hS hb hx1
  cases bf with
  | false =>
    clear hn
    go_enter Tryz.func6, Tryz.ntmps6
    go_wp2_with fail
    clear hW1 p0 p1 p2 p3 p4 p5 p6 p7 p8
    refine HFW.out.mono ?_
    rintro e w1 ⟨rfl, b1⟩
    have HB1 := Lib.hid b1
    clear b1
    go_wp2_with fail
    refine (HKN.out _ HB1.out).mono ?_
    rintro e w9 ⟨rfl, b9⟩
    have HB9 := Lib.hid (to_ HB0.out (to_ HB1.out b9))
    clear b9
    go_wp2_with fail
    go_ret
    exact ⟨rfl, HB9.out⟩
  | true =>
    have hn := hn rfl
    have hm : nK ≤ 1000000 ∧ nL ≤ 1000000 ∧ nC ≤ 1000000 ∧ nR ≤ 1000000 := ⟨by omega, by omega, by omega, by omega⟩
    have H1 := Lib.hid (H1.out hm)
    have H2 := Lib.hid (H2.out hm)
    have H3 := Lib.hid (H3.out ⟨hm.1, hm.2.2.2⟩)
    have H4 := Lib.hid (H4.out ⟨hm.1, hm.2.2.2⟩)
    clear hn hm
    cases bs with
    | false =>
      go_enter Tryz.func6, Tryz.ntmps6
      go_wp2_with fail
      clear hW1 p0 p1 p2 p3 p4 p5 p6 p7 p8
      refine HFW.out.mono ?_
      rintro e w1 ⟨rfl, b1⟩
      have HB1 := Lib.hid b1
      clear b1
      go_wp2_with fail
      refine (HSW.out _).mono ?_
      rintro e w2 ⟨rfl, rfl⟩
      go_wp2_with fail
      refine (HKN.out _ HB1.out).mono ?_
      rintro e w9 ⟨rfl, b9⟩
      have HB9 := Lib.hid (to_ HB0.out (to_ HB1.out b9))
      clear b9
      go_wp2_with fail
      go_ret
      exact ⟨rfl, HB9.out⟩
    | true =>
      go_enter Tryz.func6, Tryz.ntmps6
      go_wp2_with fail
      clear hW1 p0 p1 p2 p3 p4 p5 p6 p7 p8
      refine HFW.out.mono ?_
      rintro e w1 ⟨rfl, b1⟩
      have HB1 := Lib.hid b1
      clear b1
      go_wp2_with fail
      refine (HSW.out _).mono ?_
      rintro e w2 ⟨rfl, rfl⟩
      obtain ⟨p0, p1, p2, p3, p4, p5, p6, p7, p8⟩ := blk9 (HX.out _ HB1.out)
      go_wp2_with fail
      clear p0 p1 p2 p3 p4 p5 p6 p7 p8
      refine (H1.out _ HB1.out).mono ?_
      rintro e w3 ⟨rfl, b⟩
      have HB3 := Lib.hid (to_ HB1.out b)
      clear b
      obtain ⟨p0, p1, p2, p3, p4, p5, p6, p7, p8⟩ := blk9 (HX.out _ HB3.out)
      go_wp2_with fail
      clear p0 p1 p2 p3 p4 p5 p6 p7 p8
      refine (H2.out _ HB3.out).mono ?_
      rintro e w4 ⟨rfl, b⟩
      have HB4 := Lib.hid (to_ HB3.out b)
      have HB5 := Lib.hid (HB4.out.drew)
      clear b
      go_wp2_with fail
      refine wp_region_noPanic ?_
      refine wp_region_held_drew (S := fun W' => W'.cell? ⟨w.heap.size, 0, none⟩ = some (.int .i64 x.k) ∧ W'.cell? ⟨w.heap.size, 1, none⟩ = some (.slice AK nK cK) ∧ W'.cell? ⟨w.heap.size, 2, none⟩ = some (.int .i64 x.pd) ∧ W'.cell? ⟨w.heap.size, 3, none⟩ = some (.bool x.ns) ∧ W'.cell? ⟨w.heap.size, 4, none⟩ = some (.int .i64 x.f) ∧ W'.cell? ⟨w.heap.size, 5, none⟩ = some (.int .i64 x.t) ∧ W'.cell? ⟨w.heap.size, 6, none⟩ = some (.slice AL nL cL) ∧ W'.cell? ⟨w.heap.size, 7, none⟩ = some (.slice AC nC cC) ∧ W'.cell? ⟨w.heap.size, 8, none⟩ = some (.slice AR nR cR)) (by kernel_rfl) (blk9 (HX.out _ HB5.out)) (fun hHeld => ?_)
      refine tkb 0 rfl (fun _ _ _ h => h) hHeld ?_
      try simp only [Act.put, nmb]
      refine tkb 1 rfl (fun _ _ _ h => h) hHeld ?_
      try simp only [Act.put, nmb]
      refine tkb 2 rfl (fun _ _ _ h => h) hHeld ?_
      try simp only [Act.put, nmb]
      refine tkb 3 rfl (fun _ _ _ h => h) hHeld ?_
      try simp only [Act.put, nmb]
      refine tkb 4 rfl (fun _ _ _ h => h) hHeld ?_
      try simp only [Act.put, nmb]
      refine tkb 5 rfl (fun _ _ _ h => h) hHeld ?_
      try simp only [Act.put, nmb]
      refine tkb 6 rfl (fun _ _ _ h => h) hHeld ?_
      try simp only [Act.put, nmb]
      refine tkb 7 rfl (fun _ _ _ h => h) hHeld ?_
      try simp only [Act.put, nmb]
      refine tkb 8 rfl (fun _ _ _ h => h) hHeld ?_
      try simp only [Act.put, nmb]
      refine tkb 9 rfl (fun _ _ _ h => h) hHeld ?_
      try simp only [Act.put, nmb]
      refine tkb 10 rfl (fun _ _ _ h => h) hHeld ?_
      try simp only [Act.put, nmb]
      refine tkb 11 rfl (fun _ _ _ h => h) hHeld ?_
      try simp only [Act.put, nmb]
      refine tkb 13 rfl (fun _ _ _ h => h) hHeld ?_
      try simp only [Act.put, nmb]
      refine tkb 14 rfl (fun _ _ _ h => h) hHeld ?_
      try simp only [Act.put, nmb]
      refine tkb 15 rfl (fun _ _ _ h => h) hHeld ?_
      try simp only [Act.put, nmb]
      refine wpAnyH_ready (rs := [12]) (by kernel_rfl) (by simp) ?_
      refine AllReadyH.cons rfl (fun K hK => ?_) AllReadyH.nil
      go_simp
      refine (H3.out _ HB5.out).mono ?_
      rintro e v1 ⟨rfl, b⟩
      have HV1 := Lib.hid (to_ HB5.out b)
      clear b
      try go_wp2_with fail
      refine hK.out _ _ (blk9 (HX.out _ HV1.out)) ?_
      clear hK K hHeld
      intro hHeld
      try simp only [Act.put, nmb]
      refine wpAnyH_ready (rs := [16]) (by kernel_rfl) (by simp) ?_
      refine AllReadyH.cons rfl (fun K hK => ?_) AllReadyH.nil
      go_simp
      refine (H4.out _ HV1.out).mono ?_
      rintro e v2 ⟨rfl, b⟩
      have HV2 := Lib.hid (to_ HV1.out b)
      clear b
      try go_wp2_with fail
      refine hK.out _ _ (blk9 (HX.out _ HV2.out)) ?_
      clear hK K hHeld
      intro hHeld
      try simp only [Act.put, nmb]
      refine tkb 17 rfl (fun _ _ _ h => h) hHeld ?_
      try simp only [Act.put, nmb]
      refine tkb 18 rfl (fun _ _ _ h => h) hHeld ?_
      try simp only [Act.put, nmb]
      refine tkb 19 rfl (fun _ _ _ h => h) hHeld ?_
      try simp only [Act.put, nmb]
      refine wpAnyH_ready (rs := [20]) (by kernel_rfl) (by simp) ?_
      refine AllReadyH.cons rfl (fun K hK => ?_) AllReadyH.nil
      go_simp
      refine (HKN.out _ HV2.out).mono ?_
      rintro e v3 ⟨rfl, b⟩
      have HV3 := Lib.hid (to_ HV2.out b)
      clear b
      try go_wp2_with fail
      refine hK.out _ _ (blk9 (HX.out _ HV3.out)) ?_
      clear hK K hHeld
      intro hHeld
      try simp only [Act.put, nmb]
      refine tkb 21 rfl (fun _ _ _ h => h) hHeld ?_
      try simp only [Act.put, nmb]
      refine tkb 22 rfl (fun _ _ _ h => h) hHeld ?_
      try simp only [Act.put, nmb]
      refine wpAnyH_done (by kernel_rfl) ?_ _
      refine NoPanic.normal ?_
      go_wp2_with fail
      go_ret
      exact ⟨rfl, to_ HB0.out HV3.out⟩
end Go.Proofs.YtbknmapkdjmcjaaGreatDoor.By

namespace Go.Proofs.YtbknmapkdjmcjaaGreatDoor.By
open Go.RowKit
open Mem Gm Rf
set_option linter.unusedSimpArgs false
set_option linter.unusedVariables false

set_option maxRecDepth 100000 in
set_option maxHeartbeats 8000000 in
theorem verifyRefers_any (w : World) (AK AL AC AR : Option Addr) (nK cK nL cL nC cC nR cR : Nat) (x : Fn) (hF : FnW w AK nK cK AL nL cL AC nC cC AR nR cR x) (AS : Option Addr) (nS cS : Nat) (l : List Sy) (hS : SyL w AS nS cS l) (hb : ∀ k, -9223372036854775808 ≤ (syAt l k).2.2.2.1 ∧ (syAt l k).2.2.2.1 ≤ 9223372036854775807) (hB : (∀ z ∈ x.ks, -9223372036854775808 ≤ z ∧ z ≤ 9223372036854775807) ∧ ∀ k, k < x.cs.length → -9223372036854775808 ≤ (inAt x.cs k).1 ∧ (inAt x.cs k).1 ≤ 9223372036854775807) (hT : TX3 w) (i : Int) :
    Calls Tryz.prog 7 #[.agg #[.int .i64 x.k, .slice AK nK cK, .int .i64 x.pd, .bool x.ns, .int .i64 x.f, .int .i64 x.t, .slice AL nL cL, .slice AC nC cC, .slice AR nR cR], .slice AS nS cS, .int .i64 i] w (TAns w) := by
  obtain ⟨W1, hW1⟩ : ∃ W1, w.alloc (.cells #[.int .i64 x.k, .slice AK nK cK, .int .i64 x.pd, .bool x.ns, .int .i64 x.f, .int .i64 x.t, .slice AL nL cL, .slice AC nC cC, .slice AR nR cR] 27) = W1 := ⟨_, rfl⟩
  have HB0 := Lib.hid (show Below w.heap.size w W1 by rw [← hW1]; exact alloc_ _ _)
  have hx1 : Blk W1 w.heap.size 27 #[.int .i64 x.k, .slice AK nK cK, .int .i64 x.pd, .bool x.ns, .int .i64 x.f, .int .i64 x.t, .slice AL nL cL, .slice AC nC cC, .slice AR nR cR] := by rw [← hW1]; exact Blk.new w _ _
  have HX := Lib.hid (show ∀ W, Below W1.heap.size W1 W → Blk W w.heap.size 27 #[.int .i64 x.k, .slice AK nK cK, .int .i64 x.pd, .bool x.ns, .int .i64 x.f, .int .i64 x.t, .slice AL nL cL, .slice AC nC cC, .slice AR nR cR] from fun W hb => hx1.below hb hx1.lt)
  have HFW := Lib.hid (fewF_any W1 x.k x.pd x.f x.t x.ns AK AL AC AR nK cK nL cL nC cC nR cR)
  have HKN := Lib.hid (fun W (hb : Below W1.heap.size W1 W) => known17_any W (hT.on (to_ HB0.out hb)))
  have hn : fewB nK nL nC nR = true → nK ≤ 100 ∧ nL ≤ 100 ∧ nC ≤ 100 ∧ nR ≤ 100 := fun h => by
    unfold fewB at h
    simp at h
    omega
  obtain ⟨p0, p1, p2, p3, p4, p5, p6, p7, p8⟩ := blk9 hx1
  have HSW := Lib.hid (fun W => few17_any W AS nS cS)
  have H1 := Lib.hid (fun (hm : nR ≤ 1000000) W (hb2 : Below W1.heap.size W1 W) => vcl_any W AK AL AC AR nK cK nL cL nC cC nR cR x (hF.on (to_ HB0.out hb2)) hm AS nS cS l (hS.on (to_ HB0.out hb2)) i)
  have H2 := Lib.hid (fun (hm : nR ≤ 1000000) W (hb2 : Below W1.heap.size W1 W) => dcl_any W AK AL AC AR nK cK nL cL nC cC nR cR x (hF.on (to_ HB0.out hb2)) hm AS nS cS l (hS.on (to_ HB0.out hb2)) i)
  have H3 := Lib.hid (fun (hm : nR ≤ 1000000) W (hb2 : Below W1.heap.size W1 W) => vsym_any W AK AL AC AR nK cK nL cL nC cC nR cR x (hF.on (to_ HB0.out hb2)) hm i)
  have H4 := Lib.hid (fun (hm : nR ≤ 1000000) W (hb2 : Below W1.heap.size W1 W) => dsym_any W AK AL AC AR nK cK nL cL nC cC nR cR x (hF.on (to_ HB0.out hb2)) hm i)
  generalize veK x l i = y1 at H1 H2
  obtain ⟨y1, y2⟩ := y1
  dsimp only at H1 H2
  generalize veS x i = y3 at H3 H4
  generalize fewB nK nL nC nR = bf at hn HFW
  generalize decide (nS ≤ 60) = bs at HSW
  clear hT hF hB hS hb hx1
  cases bf with
  | false =>
    clear hn
    go_enter Tryz.func7, Tryz.ntmps7
    go_wp2_with fail
    clear hW1 p0 p1 p2 p3 p4 p5 p6 p7 p8
    refine HFW.out.mono ?_
    rintro e w1 ⟨rfl, b1⟩
    have HB1 := Lib.hid b1
    clear b1
    go_wp2_with fail
    refine (HKN.out _ HB1.out).mono ?_
    rintro e w9 ⟨rfl, b9⟩
    have HB9 := Lib.hid (to_ HB0.out (to_ HB1.out b9))
    clear b9
    go_wp2_with fail
    go_ret
    exact ⟨rfl, HB9.out⟩
  | true =>
    have hn := hn rfl
    have hm : nK ≤ 1000000 ∧ nL ≤ 1000000 ∧ nC ≤ 1000000 ∧ nR ≤ 1000000 := ⟨by omega, by omega, by omega, by omega⟩
    have H1 := Lib.hid (H1.out hm.2.2.2)
    have H2 := Lib.hid (H2.out hm.2.2.2)
    have H3 := Lib.hid (H3.out hm.2.2.2)
    have H4 := Lib.hid (H4.out hm.2.2.2)
    clear hn hm
    cases bs with
    | false =>
      go_enter Tryz.func7, Tryz.ntmps7
      go_wp2_with fail
      clear hW1 p0 p1 p2 p3 p4 p5 p6 p7 p8
      refine HFW.out.mono ?_
      rintro e w1 ⟨rfl, b1⟩
      have HB1 := Lib.hid b1
      clear b1
      go_wp2_with fail
      refine (HSW.out _).mono ?_
      rintro e w2 ⟨rfl, rfl⟩
      go_wp2_with fail
      refine (HKN.out _ HB1.out).mono ?_
      rintro e w9 ⟨rfl, b9⟩
      have HB9 := Lib.hid (to_ HB0.out (to_ HB1.out b9))
      clear b9
      go_wp2_with fail
      go_ret
      exact ⟨rfl, HB9.out⟩
    | true =>
      go_enter Tryz.func7, Tryz.ntmps7
      go_wp2_with fail
      clear hW1 p0 p1 p2 p3 p4 p5 p6 p7 p8
      refine HFW.out.mono ?_
      rintro e w1 ⟨rfl, b1⟩
      have HB1 := Lib.hid b1
      clear b1
      go_wp2_with fail
      refine (HSW.out _).mono ?_
      rintro e w2 ⟨rfl, rfl⟩
      obtain ⟨p0, p1, p2, p3, p4, p5, p6, p7, p8⟩ := blk9 (HX.out _ HB1.out)
      go_wp2_with fail
      clear p0 p1 p2 p3 p4 p5 p6 p7 p8
      refine (H1.out _ HB1.out).mono ?_
      rintro e w3 ⟨rfl, b⟩
      have HB3 := Lib.hid (to_ HB1.out b)
      clear b
      obtain ⟨p0, p1, p2, p3, p4, p5, p6, p7, p8⟩ := blk9 (HX.out _ HB3.out)
      go_wp2_with fail
      clear p0 p1 p2 p3 p4 p5 p6 p7 p8
      refine (H2.out _ HB3.out).mono ?_
      rintro e w4 ⟨rfl, b⟩
      have HB4 := Lib.hid (to_ HB3.out b)
      have HB5 := Lib.hid (HB4.out.drew)
      clear b
      go_wp2_with fail
      refine wp_region_noPanic ?_
      refine wp_region_held_drew (S := fun W' => W'.cell? ⟨w.heap.size, 0, none⟩ = some (.int .i64 x.k) ∧ W'.cell? ⟨w.heap.size, 1, none⟩ = some (.slice AK nK cK) ∧ W'.cell? ⟨w.heap.size, 2, none⟩ = some (.int .i64 x.pd) ∧ W'.cell? ⟨w.heap.size, 3, none⟩ = some (.bool x.ns) ∧ W'.cell? ⟨w.heap.size, 4, none⟩ = some (.int .i64 x.f) ∧ W'.cell? ⟨w.heap.size, 5, none⟩ = some (.int .i64 x.t) ∧ W'.cell? ⟨w.heap.size, 6, none⟩ = some (.slice AL nL cL) ∧ W'.cell? ⟨w.heap.size, 7, none⟩ = some (.slice AC nC cC) ∧ W'.cell? ⟨w.heap.size, 8, none⟩ = some (.slice AR nR cR)) (by kernel_rfl) (blk9 (HX.out _ HB5.out)) (fun hHeld => ?_)
      refine tkb 0 rfl (fun _ _ _ h => h) hHeld ?_
      try simp only [Act.put, nmb]
      refine tkb 1 rfl (fun _ _ _ h => h) hHeld ?_
      try simp only [Act.put, nmb]
      refine tkb 3 rfl (fun _ _ _ h => h) hHeld ?_
      try simp only [Act.put, nmb]
      refine tkb 4 rfl (fun _ _ _ h => h) hHeld ?_
      try simp only [Act.put, nmb]
      refine wpAnyH_ready (rs := [2]) (by kernel_rfl) (by simp) ?_
      refine AllReadyH.cons rfl (fun K hK => ?_) AllReadyH.nil
      go_simp
      refine (H3.out _ HB5.out).mono ?_
      rintro e v1 ⟨rfl, b⟩
      have HV1 := Lib.hid (to_ HB5.out b)
      clear b
      try go_wp2_with fail
      refine hK.out _ _ (blk9 (HX.out _ HV1.out)) ?_
      clear hK K hHeld
      intro hHeld
      try simp only [Act.put, nmb]
      refine wpAnyH_ready (rs := [5]) (by kernel_rfl) (by simp) ?_
      refine AllReadyH.cons rfl (fun K hK => ?_) AllReadyH.nil
      go_simp
      refine (H4.out _ HV1.out).mono ?_
      rintro e v2 ⟨rfl, b⟩
      have HV2 := Lib.hid (to_ HV1.out b)
      clear b
      try go_wp2_with fail
      refine hK.out _ _ (blk9 (HX.out _ HV2.out)) ?_
      clear hK K hHeld
      intro hHeld
      try simp only [Act.put, nmb]
      refine tkb 6 rfl (fun _ _ _ h => h) hHeld ?_
      try simp only [Act.put, nmb]
      refine tkb 7 rfl (fun _ _ _ h => h) hHeld ?_
      try simp only [Act.put, nmb]
      refine tkb 8 rfl (fun _ _ _ h => h) hHeld ?_
      try simp only [Act.put, nmb]
      refine tkb 9 rfl (fun _ _ _ h => h) hHeld ?_
      try simp only [Act.put, nmb]
      refine tkb 10 rfl (fun _ _ _ h => h) hHeld ?_
      try simp only [Act.put, nmb]
      refine tkb 11 rfl (fun _ _ _ h => h) hHeld ?_
      try simp only [Act.put, nmb]
      refine tkb 12 rfl (fun _ _ _ h => h) hHeld ?_
      try simp only [Act.put, nmb]
      refine tkb 13 rfl (fun _ _ _ h => h) hHeld ?_
      try simp only [Act.put, nmb]
      refine tkb 14 rfl (fun _ _ _ h => h) hHeld ?_
      try simp only [Act.put, nmb]
      refine tkb 15 rfl (fun _ _ _ h => h) hHeld ?_
      try simp only [Act.put, nmb]
      refine tkb 16 rfl (fun _ _ _ h => h) hHeld ?_
      try simp only [Act.put, nmb]
      refine tkb 17 rfl (fun _ _ _ h => h) hHeld ?_
      try simp only [Act.put, nmb]
      refine wpAnyH_ready (rs := [18]) (by kernel_rfl) (by simp) ?_
      refine AllReadyH.cons rfl (fun K hK => ?_) AllReadyH.nil
      go_simp
      refine (HKN.out _ HV2.out).mono ?_
      rintro e v3 ⟨rfl, b⟩
      have HV3 := Lib.hid (to_ HV2.out b)
      clear b
      try go_wp2_with fail
      refine hK.out _ _ (blk9 (HX.out _ HV3.out)) ?_
      clear hK K hHeld
      intro hHeld
      try simp only [Act.put, nmb]
      refine tkb 19 rfl (fun _ _ _ h => h) hHeld ?_
      try simp only [Act.put, nmb]
      refine tkb 20 rfl (fun _ _ _ h => h) hHeld ?_
      try simp only [Act.put, nmb]
      refine wpAnyH_done (by kernel_rfl) ?_ _
      refine NoPanic.normal ?_
      go_wp2_with fail
      go_ret
      exact ⟨rfl, to_ HB0.out HV3.out⟩
end Go.Proofs.YtbknmapkdjmcjaaGreatDoor.By

namespace Go.Proofs.YtbknmapkdjmcjaaGreatDoor.By
open Go.RowKit
open Mem Gm Rf
set_option linter.unusedSimpArgs false
set_option linter.unusedVariables false

theorem flat_of {α : Type} {k : Nat} {enc : α → List Value} (hk0 : 0 < k) (hk : ∀ x, (enc x).length = k) : ∀ (l : List α) (j : Nat) (u : Value), (l.flatMap enc)[j]? = some u → ∃ x, l[j / k]? = some x ∧ (enc x)[j % k]? = some u
  | [], j, u, h => by simp at h
  | a :: l, j, u, h => by
    rw [List.flatMap_cons] at h
    by_cases hj : j < k
    · rw [List.getElem?_append_left (by rw [hk]; exact hj)] at h
      exact ⟨a, by rw [Nat.div_eq_of_lt hj]; rfl, by rw [Nat.mod_eq_of_lt hj]; exact h⟩
    · rw [List.getElem?_append_right (by rw [hk]; omega), hk] at h
      obtain ⟨x, h1, h2⟩ := flat_of hk0 hk l (j - k) u h
      have e1 : j / k = (j - k) / k + 1 := by rw [Nat.div_eq_sub_div hk0 (by omega)]
      have e2 : j % k = (j - k) % k := Nat.mod_eq_sub_mod (by omega)
      exact ⟨x, by rw [e1]; simpa using h1, by rw [e2]; exact h2⟩
theorem wpList_append_wd {α : Type} {enc : α → List Value} {P : Program} (w : World) {ops : Array Oper} {rest : List Oper} {o : Oper} {a : Act} {Q : Exit → Act → World → Prop} (hgd : o.guard = none) (s x : Operand) (t : TypeId)
    (ho : o.op = .call { callee := .builtin .append, args := #[s, x], argTypes := #[t, t] })
    (base : Nat) (e : TypeId) (i : TypeInfo) (z : Value) (k bytes : Nat) (ht : P.underlying t = some (.slice e)) (hi : P.info? e = some i) (hz : i.zero = some z)
    (hsize : i.size = k) (hby : i.bytes = bytes) (hzs : z.cells.size = k) (hk0 : 0 < k) (hk : ∀ x, (enc x).length = k) (h1 : ∀ x, ∀ u ∈ enc x, u.oneCell' = true)
    (v : Value) (n0 : Nat) (xs : List Value) (hs : a.eval s = v) (hown : w.ownsRow base e k v n0 xs)
    (A : Option Addr) (m c : Nat) (l : List α) (hx : a.eval x = .slice A m c) (hr : Wd k enc w w.heap.size A m c l)
    (h63 : n0 + m ≤ maxLen) (hbytes : (n0 + m) * bytes ≤ 140737488355328) (hbase : base ≤ w.heap.size)
    (h : ∀ v' w', w'.ownsRow base e k v' (n0 + m) (xs ++ l.flatMap enc) → w.grownBy w' v.ownBlock → wpList P ops Q rest (a.put o.dst v') w') : wpList P ops Q (o :: rest) a w := by
  cases A with
  | none =>
    have hc : c = 0 := hr.2.2.2.1 rfl
    have hm : m = 0 := by have := hr.2.1; omega
    have hl : l = [] := List.length_eq_zero_iff.1 (by rw [hr.1, hm])
    subst hc hm hl
    refine wpList_append_own_none hgd s x t ho base e i k ht hi v n0 xs hs hown hx ?_
    exact h v w (by simpa using hown) ⟨rfl, rfl, rfl, Nat.le_refl _, fun _ _ _ => rfl⟩
  | some ad =>
    refine wpList_append_own w hgd s x t ho base e i z k bytes ht hi hz hsize hby hzs hk0 v n0 xs hs hown ad m c (l.flatMap enc) hx (by rw [flat_len hk, hr.1]) (fun j u hu => ?_) (fun u hu => ?_) h63 hbytes hbase ?_
    · obtain ⟨y, e1, e2⟩ := flat_of hk0 hk l j u hu
      obtain ⟨ad', ea, _, hcell⟩ := hr.2.2.2.2 _ y e1
      injection ea with ea
      subst ea
      have := hcell _ u e2
      rw [add_twice] at this
      rw [show j / k * k + j % k = j from by rw [Nat.mul_comm]; exact Nat.div_add_mod j k] at this
      exact this
    · obtain ⟨y, _, hy⟩ := List.mem_flatMap.1 hu
      exact h1 y u hy
    · intro v' w' h2 h3 _
      exact h v' w' h2 h3

theorem symA_app {rs : List Rl} {l m : List Sy} {i : Int} {s : Sy} (h : symA rs l i = some s) : symA rs (l ++ m) i = some s := by
  unfold symA at h ⊢
  cases hr : refA rs i with
  | none => rw [hr] at h; cases h
  | some r =>
    rw [hr] at h
    dsimp only at h ⊢
    cases hin : inL r.2.1 l.length with
    | false => rw [hin, if_neg (by decide)] at h; cases h
    | true =>
      rw [hin, if_pos rfl] at h
      have h2 : 0 ≤ r.2.1 ∧ r.2.1 < (l.length : Int) := by unfold inL at hin; exact of_decide_eq_true hin
      have h3 : inL r.2.1 (l ++ m).length = true := by unfold inL; rw [List.length_append]; simp; omega
      rw [if_pos h3]
      rw [← h]
      congr 1
      unfold syAt
      rw [List.getD_eq_getElem?_getD, List.getD_eq_getElem?_getD, List.getElem?_append_left (by omega)]
theorem veI_app {x : Fn} {l m : List Sy} {i : Int} (h : veI x l i = 0) : veI x (l ++ m) i = 0 := by
  unfold veI at h ⊢
  by_cases hin : inL i x.cs.length = false
  · rw [if_pos hin] at h; cases h
  · rw [if_neg hin] at h ⊢
    by_cases hc : (ndV (inAt x.cs i.toNat).1 ≠ 0 ∧ symA x.rs l i = none) ∨ ((refA x.rs i).isSome = true ∧ ndV (inAt x.cs i.toNat).1 = 0)
    · rw [if_pos hc] at h; cases h
    · rw [if_neg hc] at h
      have hs : symA x.rs (l ++ m) i = symA x.rs l i := by
        cases hr : refA x.rs i with
        | none => unfold symA; rw [hr]
        | some r =>
          have hn : ndV (inAt x.cs i.toNat).1 ≠ 0 := fun e => hc (.inr ⟨by rw [hr]; rfl, e⟩)
          cases hsy : symA x.rs l i with
          | none => exact absurd (.inl ⟨hn, hsy⟩) hc
          | some s => exact symA_app hsy
      have ho : symO x.rs (l ++ m) i = symO x.rs l i := by unfold symO; rw [hs]
      rw [hs, ho, if_neg hc]
      exact h
theorem veL_app {x : Fn} {l m : List Sy} : ∀ n, (veL x l n).1 = 0 → (veL x (l ++ m) n).1 = 0
  | 0, _ => rfl
  | n + 1, h => by
    have h1 : (veL x l n).1 = 0 := by
      by_cases h1 : (veL x l n).1 = 0
      · exact h1
      · rw [veL, if_neg h1] at h; exact h
    have h2 : veI x l n = 0 := by
      by_cases h2 : veI x l n = 0
      · exact h2
      · rw [veL, if_pos h1, if_neg h2] at h; exact absurd h h2
    rw [veL, if_pos (veL_app n h1), if_pos (veI_app h2)]
theorem veF_app {x : Fn} {l m : List Sy} (h : (veF x l).1 = 0) : veF x (l ++ m) = (0, -1) := by
  unfold veF at h ⊢
  by_cases hc : chF x = 0
  · rw [if_pos hc] at h ⊢
    exact veL_ok _ (veL_app _ h)
  · rw [if_neg hc] at h
    exact absurd h hc
theorem bd_app {l m : List Sy} (h1 : ∀ k, -9223372036854775808 ≤ (syAt l k).2.2.2.1 ∧ (syAt l k).2.2.2.1 ≤ 9223372036854775807) (h2 : ∀ k, -9223372036854775808 ≤ (syAt m k).2.2.2.1 ∧ (syAt m k).2.2.2.1 ≤ 9223372036854775807) (k : Nat) : -9223372036854775808 ≤ (syAt (l ++ m) k).2.2.2.1 ∧ (syAt (l ++ m) k).2.2.2.1 ≤ 9223372036854775807 := by
  by_cases hk : k < l.length
  · have e : syAt (l ++ m) k = syAt l k := by unfold syAt; rw [List.getD_eq_getElem?_getD, List.getD_eq_getElem?_getD, List.getElem?_append_left hk]
    rw [e]
    exact h1 k
  · have e : syAt (l ++ m) k = syAt m (k - l.length) := by unfold syAt; rw [List.getD_eq_getElem?_getD, List.getD_eq_getElem?_getD, List.getElem?_append_right (by omega)]
    rw [e]
    exact h2 _
theorem infoSy : (Tryz.prog.info? 68).map (fun i => (i.zero, i.size, i.bytes)) = some (some (.agg #[.string ⟨#[]⟩, .bool false, .int .i64 0, .int .i64 0, .int .i64 0]), 5, 48) := by kernel_rfl
theorem encSy_one (x : Sy) (u : Value) (hu : u ∈ encSy x) : u.oneCell' = true := by
  simp [encSy] at hu
  rcases hu with rfl | rfl | rfl | rfl | rfl <;> rfl
set_option maxRecDepth 100000 in
set_option maxHeartbeats 8000000 in
theorem verifyMore_any (w : World) (AK AL AC AR : Option Addr) (nK cK nL cL nC cC nR cR : Nat) (x : Fn) (hF : FnW w AK nK cK AL nL cL AC nC cC AR nR cR x) (AS : Option Addr) (nS cS : Nat) (l : List Sy) (hS : SyL w AS nS cS l) (hb : ∀ k, -9223372036854775808 ≤ (syAt l k).2.2.2.1 ∧ (syAt l k).2.2.2.1 ≤ 9223372036854775807) (A2 : Option Addr) (n2 c2 : Nat) (l2 : List Sy) (hS2 : SyL w A2 n2 c2 l2) (hb2 : ∀ k, -9223372036854775808 ≤ (syAt l2 k).2.2.2.1 ∧ (syAt l2 k).2.2.2.1 ≤ 9223372036854775807) (hT : TX3 w) :
    Calls Tryz.prog 8 #[.agg #[.int .i64 x.k, .slice AK nK cK, .int .i64 x.pd, .bool x.ns, .int .i64 x.f, .int .i64 x.t, .slice AL nL cL, .slice AC nC cC, .slice AR nR cR], .slice AS nS cS, .slice A2 n2 c2] w (TAns w) := by
  obtain ⟨iY, hiY, hzY0, hzY1, hzY2⟩ := info_parts infoSy
  obtain ⟨W1, hW1⟩ : ∃ W1, w.alloc (.cells #[.int .i64 x.k, .slice AK nK cK, .int .i64 x.pd, .bool x.ns, .int .i64 x.f, .int .i64 x.t, .slice AL nL cL, .slice AC nC cC, .slice AR nR cR] 27) = W1 := ⟨_, rfl⟩
  have HB0 := Lib.hid (show Below w.heap.size w W1 by rw [← hW1]; exact alloc_ _ _)
  have hx1 : Blk W1 w.heap.size 27 #[.int .i64 x.k, .slice AK nK cK, .int .i64 x.pd, .bool x.ns, .int .i64 x.f, .int .i64 x.t, .slice AL nL cL, .slice AC nC cC, .slice AR nR cR] := by rw [← hW1]; exact Blk.new w _ _
  have HX := Lib.hid (show ∀ W, Below W1.heap.size W1 W → Blk W w.heap.size 27 #[.int .i64 x.k, .slice AK nK cK, .int .i64 x.pd, .bool x.ns, .int .i64 x.f, .int .i64 x.t, .slice AL nL cL, .slice AC nC cC, .slice AR nR cR] from fun W hb => hx1.below hb hx1.lt)
  have HFW := Lib.hid (fewF_any W1 x.k x.pd x.f x.t x.ns AK AL AC AR nK cK nL cL nC cC nR cR)
  have HKN := Lib.hid (fun W (hb : Below W1.heap.size W1 W) => known17_any W (hT.on (to_ HB0.out hb)))
  have hn : fewB nK nL nC nR = true → nK ≤ 100 ∧ nL ≤ 100 ∧ nC ≤ 100 ∧ nR ≤ 100 := fun h => by
    unfold fewB at h
    simp at h
    omega
  obtain ⟨p0, p1, p2, p3, p4, p5, p6, p7, p8⟩ := blk9 hx1
  have HSW := Lib.hid (fun W => few17_any W AS nS cS)
  have HSW2 := Lib.hid (fun W => few17_any W A2 n2 c2)
  have H1 := Lib.hid (fun hm W (hb9 : Below W1.heap.size W1 W) => vch_any W AK AL AC AR nK cK nL cL nC cC nR cR x (hF.on (to_ HB0.out hb9)) hm AS nS cS l (hS.on (to_ HB0.out hb9)) hb (hT.on (to_ HB0.out hb9)))
  have H2 := Lib.hid (fun hm W (hb9 : Below W1.heap.size W1 W) A n c (h9 : SyL W A n c (l ++ l2)) => vch_any W AK AL AC AR nK cK nL cL nC cC nR cR x (hF.on (to_ HB0.out hb9)) hm A n c (l ++ l2) h9 (bd_app hb hb2) (hT.on (to_ HB0.out hb9)))
  have HAP := Lib.hid (fun (h : (veF x l).1 = 0) => veF_app (m := l2) h)
  have HS1 := Lib.hid (fun W (hb9 : Below W1.heap.size W1 W) => hS.on (to_ HB0.out hb9))
  have HS2 := Lib.hid (fun W (hb9 : Below W1.heap.size W1 W) => hS2.on (to_ HB0.out hb9))
  have HL := Lib.hid (show (l ++ l2).length = nS + n2 from by rw [List.length_append, hS.1, hS2.1])
  generalize veF x l = y1 at H1 HAP
  obtain ⟨y1, y2⟩ := y1
  dsimp only at H1 HAP
  generalize veF x (l ++ l2) = z1 at H2 HAP
  obtain ⟨z1, z2⟩ := z1
  dsimp only at H2
  generalize fewB nK nL nC nR = bf at hn HFW
  generalize hbs : decide (nS ≤ 60) = bs at HSW
  generalize hbt : decide (n2 ≤ 60) = bt at HSW2
  clear hT hF hS hb hS2 hb2 hx1
  cases bf with
  | false =>
    clear hn
    go_enter Tryz.func8, Tryz.ntmps8
    go_wp2_with fail
    clear hW1 p0 p1 p2 p3 p4 p5 p6 p7 p8
    refine HFW.out.mono ?_
    rintro e w1 ⟨rfl, b1⟩
    have HB1 := Lib.hid b1
    clear b1
    go_wp2_with fail
    refine (HKN.out _ HB1.out).mono ?_
    rintro e w9 ⟨rfl, b9⟩
    have HB9 := Lib.hid (to_ HB0.out (to_ HB1.out b9))
    clear b9
    go_wp2_with fail
    go_ret
    exact ⟨rfl, HB9.out⟩
  | true =>
    have hn := hn rfl
    have hm : nK ≤ 1000000 ∧ nL ≤ 1000000 ∧ nC ≤ 1000000 ∧ nR ≤ 1000000 := ⟨by omega, by omega, by omega, by omega⟩
    have H1 := Lib.hid (H1.out hm)
    have H2 := Lib.hid (H2.out hm)
    clear hn hm
    cases bs with
    | false =>
      go_enter Tryz.func8, Tryz.ntmps8
      go_wp2_with fail
      clear hW1 p0 p1 p2 p3 p4 p5 p6 p7 p8
      refine HFW.out.mono ?_
      rintro e w1 ⟨rfl, b1⟩
      have HB1 := Lib.hid b1
      clear b1
      go_wp2_with fail
      refine (HSW.out _).mono ?_
      rintro e w2 ⟨rfl, rfl⟩
      go_wp2_with fail
      refine (HKN.out _ HB1.out).mono ?_
      rintro e w9 ⟨rfl, b9⟩
      have HB9 := Lib.hid (to_ HB0.out (to_ HB1.out b9))
      clear b9
      go_wp2_with fail
      go_ret
      exact ⟨rfl, HB9.out⟩
    | true =>
      cases bt with
      | false =>
        go_enter Tryz.func8, Tryz.ntmps8
        go_wp2_with fail
        clear hW1 p0 p1 p2 p3 p4 p5 p6 p7 p8
        refine HFW.out.mono ?_
        rintro e w1 ⟨rfl, b1⟩
        have HB1 := Lib.hid b1
        clear b1
        go_wp2_with fail
        refine (HSW.out _).mono ?_
        rintro e w2 ⟨rfl, rfl⟩
        go_wp2_with fail
        refine (HSW2.out _).mono ?_
        rintro e w2 ⟨rfl, rfl⟩
        go_wp2_with fail
        refine (HKN.out _ HB1.out).mono ?_
        rintro e w9 ⟨rfl, b9⟩
        have HB9 := Lib.hid (to_ HB0.out (to_ HB1.out b9))
        clear b9
        go_wp2_with fail
        go_ret
        exact ⟨rfl, HB9.out⟩
      | true =>
        have HNS := Lib.hid (show nS ≤ 60 ∧ n2 ≤ 60 from ⟨of_decide_eq_true hbs, of_decide_eq_true hbt⟩)
        go_enter Tryz.func8, Tryz.ntmps8
        go_wp2_with fail
        clear hW1 p0 p1 p2 p3 p4 p5 p6 p7 p8
        refine HFW.out.mono ?_
        rintro e w1 ⟨rfl, b1⟩
        have HB1 := Lib.hid b1
        clear b1
        go_wp2_with fail
        refine (HSW.out _).mono ?_
        rintro e w2 ⟨rfl, rfl⟩
        go_wp2_with fail
        refine (HSW2.out _).mono ?_
        rintro e w2 ⟨rfl, rfl⟩
        go_wp2_with (at_builtin; first | (refine wpList_append_wd _ rfl _ _ 49 rfl w1.heap.size 68 iY (.agg #[.string ⟨#[]⟩, .bool false, .int .i64 0, .int .i64 0, .int .i64 0]) 5 48 Tryz.underlying49 hiY hzY0 hzY1 hzY2 rfl (by decide) (fun _ => rfl) encSy_one _ 0 [] rfl (World.ownsRow_nil _ _ _ _) AS nS cS l rfl (HS1.out w1 HB1.out) (by have := HNS.out; unfold maxLen; omega) (by have := HNS.out; omega) (Nat.le_refl _) ?_; intro v1 wA hA1 gA) | (refine wpList_append_wd _ rfl _ _ 49 rfl w1.heap.size 68 iY (.agg #[.string ⟨#[]⟩, .bool false, .int .i64 0, .int .i64 0, .int .i64 0]) 5 48 Tryz.underlying49 hiY hzY0 hzY1 hzY2 rfl (by decide) (fun _ => rfl) encSy_one v1 (0 + nS) _ rfl hA1 A2 n2 c2 l2 rfl (HS2.out wA (to_ HB1.out ((Below.refl _ _).grown gA (Nat.le_refl _) (fun r e => by cases e)))) (by have := HNS.out; unfold maxLen; omega) (by have := HNS.out; omega) gA.size ?_; intro v2 wB hB2 gB; have HBA := Lib.hid ((Below.refl w1.heap.size w1).grown gA (Nat.le_refl _) (fun r e => by cases e)); have HBB := Lib.hid (HBA.out.grown gB HBA.out.size (fun r e => (hA1.lt r e).1)); obtain ⟨A, c, rfl, hwd⟩ := wd_own (enc := encSy) (l := l ++ l2) (n := nS + n2) (fun _ => rfl) HL.out (by simpa using hB2); have HWD := Lib.hid (show ∀ W, Below wB.heap.size wB W → SyL W A (nS + n2) c (l ++ l2) from fun W hb9 => SyL.on hwd hb9); have HVB := Lib.hid (to_ HB1.out HBB.out); clear hA1 gA hB2 gB hwd; obtain ⟨p0, p1, p2, p3, p4, p5, p6, p7, p8⟩ := blk9 (HX.out _ HVB.out)))
        clear p0 p1 p2 p3 p4 p5 p6 p7 p8
        refine (H1.out _ HVB.out).mono ?_
        rintro e w3 ⟨rfl, b⟩
        have HB3 := Lib.hid (to_ HVB.out b)
        have HW3 := Lib.hid (HWD.out _ b)
        clear b
        obtain ⟨p0, p1, p2, p3, p4, p5, p6, p7, p8⟩ := blk9 (HX.out _ HB3.out)
        go_wp2_with fail
        clear p0 p1 p2 p3 p4 p5 p6 p7 p8
        refine (H2.out _ HB3.out _ _ _ HW3.out).mono ?_
        rintro e w4 ⟨rfl, b⟩
        have HB4 := Lib.hid (to_ HB3.out b)
        clear b
        by_cases hy : y1 = 0
        · subst hy
          have hz := HAP.out rfl
          injection hz with hz1 hz2
          subst hz1 hz2
          go_wp2_with fail
          refine (HKN.out _ HB4.out).mono ?_
          rintro e w9 ⟨rfl, b9⟩
          have HB9 := Lib.hid (to_ HB0.out (to_ HB4.out b9))
          clear b9
          go_wp2_with fail
          go_ret
          exact ⟨rfl, HB9.out⟩
        · have hy1 : (y1 != 0) = true := by simpa using hy
          have hy2 : (y1 == 0) = false := by simpa using hy
          clear hy
          go_wp2_with fail
          refine (HKN.out _ HB4.out).mono ?_
          rintro e w9 ⟨rfl, b9⟩
          have HB9 := Lib.hid (to_ HB0.out (to_ HB4.out b9))
          clear b9
          go_wp2_with fail
          go_ret
          exact ⟨rfl, HB9.out⟩
end Go.Proofs.YtbknmapkdjmcjaaGreatDoor.By
