/-
  WALKS of layer 16: Frame, Line, and the document's own; its slots, its code. WALKS of layer 16: the document's own Check: its slots, its lines.
-/
import Derived.Test.YtbknmapkdjmcjaaGreatDoorJm
import Derived.Test.YtbknmapkdjmcjaaGreatDoorUj
import Derived.Test.YtbknmapkdjmcjaaGreatDoorIe
namespace Go.Proofs.YtbknmapkdjmcjaaGreatDoor.By
open Go.RowKit
open Mem Gm Rf
set_option linter.unusedSimpArgs false
set_option linter.unusedVariables false

def lineV (i : Int) : List Ln → Int → Int
  | [], z => z
  | a :: r, z => if i < a.1 then z else lineV i r a.2
theorem line_at {i z : Int} {l : List Ln} {k : Nat} {x : Ln} (h : l[k]? = some x) : lineV i (l.drop k) z = if i < x.1 then z else lineV i (l.drop (k + 1)) x.2 := by
  have hk := (List.getElem?_eq_some_iff.1 h).1
  have hx := (List.getElem?_eq_some_iff.1 h).2
  rw [List.drop_eq_getElem_cons hk, hx]
  rfl
def frmV (x : Fn) : Int := (x.ks.length : Int) + nearV x.pd 0 1048576
theorem near_in (n : Int) : 0 ≤ nearV n 0 1048576 ∧ nearV n 0 1048576 ≤ 1048576 := by
  unfold nearV
  split
  · omega
  · split <;> omega

set_option maxRecDepth 100000 in
set_option maxHeartbeats 4000000 in
theorem frameF_any (w : World) (AK AL AC AR : Option Addr) (nK cK nL cL nC cC nR cR : Nat) (x : Fn) (hF : FnW w AK nK cK AL nL cL AC nC cC AR nR cR x) (hnn : nK ≤ 1000000 ∧ nL ≤ 1000000 ∧ nC ≤ 1000000 ∧ nR ≤ 1000000) :
    Calls Tryz.prog 18 #[.agg #[.int .i64 x.k, .slice AK nK cK, .int .i64 x.pd, .bool x.ns, .int .i64 x.f, .int .i64 x.t, .slice AL nL cL, .slice AC nC cC, .slice AR nR cR]] w (CAns w (frmV x)) := by
  obtain ⟨k0, ks, pd, ns, f0, t0, ls, cs, rs⟩ := x
  obtain ⟨hk, hkl, hl, hc, hr⟩ := hF
  dsimp only at hk hkl hl hc hr ⊢
  have hll : ls.length = nL := hl.1
  have hcl : cs.length = nC := hc.1
  have hrl : rs.length = nR := hr.1
  obtain ⟨W1, hW1⟩ : ∃ W1, w.alloc (.cells #[.int .i64 k0, .slice AK nK cK, .int .i64 pd, .bool ns, .int .i64 f0, .int .i64 t0, .slice AL nL cL, .slice AC nC cC, .slice AR nR cR] 27) = W1 := ⟨_, rfl⟩
  have hsz1 : w.heap.size < W1.heap.size := by rw [← hW1]; simp
  have HB0 := Lib.hid (show Below w.heap.size w W1 by rw [← hW1]; exact alloc_ _ _)
  have HX := Lib.hid (show ∀ W, Below W1.heap.size W1 W → Blk W w.heap.size 27 #[.int .i64 k0, .slice AK nK cK, .int .i64 pd, .bool ns, .int .i64 f0, .int .i64 t0, .slice AL nL cL, .slice AC nC cC, .slice AR nR cR] from fun W hb => (hb.block _ hsz1).trans (by rw [← hW1]; exact Blk.new w _ _))
  obtain ⟨c0, c1, c2, c3, c4, c5, c6, c7, c8⟩ := blk9 (HX.out W1 (Below.refl _ _))
  have HN := Lib.hid (fun W => (near_any pd 0 1048576 W).mono fun e w' hh => (⟨hh.1, hh.2.symm⟩ : e = .returned (.int .i64 (nearV pd 0 1048576)) ∧ w' = W))
  have hnr := near_in pd
  unfold frmV
  dsimp only
  rw [hkl]
  generalize nearV pd 0 1048576 = y at HN hnr ⊢
  have hb1 := hnn.1
  clear hk hl hc hr hll hcl hrl hsz1
  go_enter Tryz.func18, Tryz.ntmps18
  go_wp2_with fail
  clear hW1
  go_quiet ((go_at_call 66; exact Calls.quiet_of_same (HN.out _)))
  go_wp2_with fail
  go_ret
  exact ⟨rfl, below_drewN HB0.out _⟩

set_option maxRecDepth 100000 in
set_option maxHeartbeats 4000000 in
theorem rframeF_any (w : World) (AK AL AC AR : Option Addr) (nK cK nL cL nC cC nR cR : Nat) (x : Fn) (hF : FnW w AK nK cK AL nL cL AC nC cC AR nR cR x) (hnn : nK ≤ 1000000 ∧ nL ≤ 1000000 ∧ nC ≤ 1000000 ∧ nR ≤ 1000000) :
    Calls Tryz.prog 19 #[.agg #[.int .i64 x.k, .slice AK nK cK, .int .i64 x.pd, .bool x.ns, .int .i64 x.f, .int .i64 x.t, .slice AL nL cL, .slice AC nC cC, .slice AR nR cR]] w (CAns w (frmV x)) := by
  obtain ⟨k0, ks, pd, ns, f0, t0, ls, cs, rs⟩ := x
  obtain ⟨hk, hkl, hl, hc, hr⟩ := hF
  dsimp only at hk hkl hl hc hr ⊢
  have hll : ls.length = nL := hl.1
  have hcl : cs.length = nC := hc.1
  have hrl : rs.length = nR := hr.1
  obtain ⟨W1, hW1⟩ : ∃ W1, w.alloc (.cells #[.int .i64 k0, .slice AK nK cK, .int .i64 pd, .bool ns, .int .i64 f0, .int .i64 t0, .slice AL nL cL, .slice AC nC cC, .slice AR nR cR] 27) = W1 := ⟨_, rfl⟩
  have hsz1 : w.heap.size < W1.heap.size := by rw [← hW1]; simp
  have HB0 := Lib.hid (show Below w.heap.size w W1 by rw [← hW1]; exact alloc_ _ _)
  have HX := Lib.hid (show ∀ W, Below W1.heap.size W1 W → Blk W w.heap.size 27 #[.int .i64 k0, .slice AK nK cK, .int .i64 pd, .bool ns, .int .i64 f0, .int .i64 t0, .slice AL nL cL, .slice AC nC cC, .slice AR nR cR] from fun W hb => (hb.block _ hsz1).trans (by rw [← hW1]; exact Blk.new w _ _))
  obtain ⟨c0, c1, c2, c3, c4, c5, c6, c7, c8⟩ := blk9 (HX.out W1 (Below.refl _ _))
  have HN := Lib.hid (fun W => (rnear_any pd 0 1048576 W).mono fun e w' hh => (⟨hh.1, hh.2.symm⟩ : e = .returned (.int .i64 (nearV pd 0 1048576)) ∧ w' = W))
  have hnr := near_in pd
  unfold frmV
  dsimp only
  rw [hkl]
  generalize nearV pd 0 1048576 = y at HN hnr ⊢
  have hb1 := hnn.1
  clear hk hl hc hr hll hcl hrl hsz1
  go_enter Tryz.func19, Tryz.ntmps19
  go_wp2_with fail
  clear hW1
  go_quiet ((go_at_call 67; exact Calls.quiet_of_same (HN.out _)))
  go_wp2_with fail
  go_ret
  exact ⟨rfl, below_drewN HB0.out _⟩

set_option maxRecDepth 100000 in
set_option maxHeartbeats 4000000 in
theorem lineF_any (w : World) (AK AL AC AR : Option Addr) (nK cK nL cL nC cC nR cR : Nat) (x : Fn) (hF : FnW w AK nK cK AL nL cL AC nC cC AR nR cR x) (hnn : nK ≤ 1000000 ∧ nL ≤ 1000000 ∧ nC ≤ 1000000 ∧ nR ≤ 1000000) (i : Int) :
    Calls Tryz.prog 20 #[.agg #[.int .i64 x.k, .slice AK nK cK, .int .i64 x.pd, .bool x.ns, .int .i64 x.f, .int .i64 x.t, .slice AL nL cL, .slice AC nC cC, .slice AR nR cR], .int .i64 i] w (CAns w (lineV i x.ls 0)) := by
  obtain ⟨k0, ks, pd, ns, f0, t0, ls, cs, rs⟩ := x
  obtain ⟨hk, hkl, hl, hc, hr⟩ := hF
  dsimp only at hk hkl hl hc hr ⊢
  have hll : ls.length = nL := hl.1
  have hcl : cs.length = nC := hc.1
  have hrl : rs.length = nR := hr.1
  obtain ⟨W1, hW1⟩ : ∃ W1, w.alloc (.cells #[.int .i64 k0, .slice AK nK cK, .int .i64 pd, .bool ns, .int .i64 f0, .int .i64 t0, .slice AL nL cL, .slice AC nC cC, .slice AR nR cR] 27) = W1 := ⟨_, rfl⟩
  have hsz1 : w.heap.size < W1.heap.size := by rw [← hW1]; simp
  have HB0 := Lib.hid (show Below w.heap.size w W1 by rw [← hW1]; exact alloc_ _ _)
  have HX := Lib.hid (show ∀ W, Below W1.heap.size W1 W → Blk W w.heap.size 27 #[.int .i64 k0, .slice AK nK cK, .int .i64 pd, .bool ns, .int .i64 f0, .int .i64 t0, .slice AL nL cL, .slice AC nC cC, .slice AR nR cR] from fun W hb => (hb.block _ hsz1).trans (by rw [← hW1]; exact Blk.new w _ _))
  obtain ⟨c0, c1, c2, c3, c4, c5, c6, c7, c8⟩ := blk9 (HX.out W1 (Below.refl _ _))
  have HCL := Lib.hid (fun W (hb : Below W1.heap.size W1 W) i (hi : i < nL) => (hl.on (to_ HB0.out hb)).at_ hi)
  have HS := Lib.hid (show ∀ k, k < nL → ls[k]? = some (lnAt ls k) from fun k hk => lnAt_some (by omega))
  have HLN := Lib.hid hll
  have hb4 := hnn.2.1
  clear hk hkl hl hc hr hll hcl hrl hsz1
  go_enter Tryz.func20, Tryz.ntmps20
  go_wp2_with fail
  clear hW1
  go_loopw [5, 11] (fun a j wr => ∃ (k : Nat) (z : Int), k ≤ nL ∧ j = .int .i64 (k : Int) ∧ a = .int .i64 z ∧ Hid (lineV i ls 0 = lineV i (ls.drop k) z) ∧ Below W1.heap.size W1 wr) (fun _ j _ => nL - (intOf j).toNat)
  case atStart => exact ⟨0, 0, Nat.zero_le _, rfl, rfl, Lib.hid (by rw [List.drop_zero]), Below.refl _ _⟩
  case round =>
    obtain ⟨k, z, hk, rfl, rfl, HO, hbel⟩ := hrel
    have HBE := Lib.hid hbel
    clear c0 c1 c2 c3 c4 c5 c6 c7 c8
    by_cases hlt : k < nL
    · have hkI : (k : Int) < (nL : Int) := by omega
      obtain ⟨ad, rfl, _, a0, a1⟩ := HCL.out wr hbel k hlt
      have HK := Lib.hid (HO.out.trans (line_at (HS.out k hlt)))
      generalize lnAt ls k = x at HK a0 a1
      obtain ⟨Wx, hWx⟩ : ∃ Wx, wr.alloc (.cells #[.int .i64 x.1, .int .i64 x.2] 85) = Wx := ⟨_, rfl⟩
      have HBX := Lib.hid (show Below wr.heap.size wr Wx from by rw [← hWx]; exact alloc_ _ _)
      have hbk : Blk Wx wr.heap.size 85 #[.int .i64 x.1, .int .i64 x.2] := by rw [← hWx]; exact Blk.new wr _ _
      have d0 := hbk.cell 0
      have d1 := hbk.cell 1
      clear hbel hbk
      by_cases hi : i < x.1
      · have hi2 : x.1 > i := hi
        rw [if_pos hi] at HK
        go_wp2_with fail
        go_ret
        exact ⟨ret_int (by rw [HK.out]), to_ HB0.out (to_ HBE.out HBX.out)⟩
      · have hi2 : ¬ x.1 > i := hi
        rw [if_neg hi] at HK
        go_wp2_with fail
        clear hWx d0 d1
        go_roundw
        case rel => exact ⟨k + 1, x.2, by omega, by go_num, rfl, HK, to_ HBE.out HBX.out⟩
        case measure => simp [intOf]; omega
    · obtain rfl : k = nL := by omega
      have HV := Lib.hid (show lineV i ls 0 = z from by rw [HO.out, List.drop_eq_nil_of_le (by have := HLN.out; omega)]; rfl)
      clear hbel
      go_wp2_with fail
      go_ret
      exact ⟨ret_int (by rw [HV.out]), to_ HB0.out HBE.out⟩

set_option maxRecDepth 100000 in
set_option maxHeartbeats 4000000 in
theorem rlineF_any (w : World) (AK AL AC AR : Option Addr) (nK cK nL cL nC cC nR cR : Nat) (x : Fn) (hF : FnW w AK nK cK AL nL cL AC nC cC AR nR cR x) (hnn : nK ≤ 1000000 ∧ nL ≤ 1000000 ∧ nC ≤ 1000000 ∧ nR ≤ 1000000) (i : Int) :
    Calls Tryz.prog 21 #[.agg #[.int .i64 x.k, .slice AK nK cK, .int .i64 x.pd, .bool x.ns, .int .i64 x.f, .int .i64 x.t, .slice AL nL cL, .slice AC nC cC, .slice AR nR cR], .int .i64 i] w (CAns w (lineV i x.ls 0)) := by
  obtain ⟨k0, ks, pd, ns, f0, t0, ls, cs, rs⟩ := x
  obtain ⟨hk, hkl, hl, hc, hr⟩ := hF
  dsimp only at hk hkl hl hc hr ⊢
  have hll : ls.length = nL := hl.1
  have hcl : cs.length = nC := hc.1
  have hrl : rs.length = nR := hr.1
  obtain ⟨W1, hW1⟩ : ∃ W1, w.alloc (.cells #[.int .i64 k0, .slice AK nK cK, .int .i64 pd, .bool ns, .int .i64 f0, .int .i64 t0, .slice AL nL cL, .slice AC nC cC, .slice AR nR cR] 27) = W1 := ⟨_, rfl⟩
  have hsz1 : w.heap.size < W1.heap.size := by rw [← hW1]; simp
  have HB0 := Lib.hid (show Below w.heap.size w W1 by rw [← hW1]; exact alloc_ _ _)
  have HX := Lib.hid (show ∀ W, Below W1.heap.size W1 W → Blk W w.heap.size 27 #[.int .i64 k0, .slice AK nK cK, .int .i64 pd, .bool ns, .int .i64 f0, .int .i64 t0, .slice AL nL cL, .slice AC nC cC, .slice AR nR cR] from fun W hb => (hb.block _ hsz1).trans (by rw [← hW1]; exact Blk.new w _ _))
  obtain ⟨c0, c1, c2, c3, c4, c5, c6, c7, c8⟩ := blk9 (HX.out W1 (Below.refl _ _))
  have HC0 := Lib.hid (fun i (hi : i < nL) => (hl.on HB0.out).at_ hi)
  have HS := Lib.hid (show ∀ k, k < nL → ls[k]? = some (lnAt ls k) from fun k hk => lnAt_some (by omega))
  have HLN := Lib.hid hll
  have hb4 := hnn.2.1
  clear hk hkl hl hc hr hll hcl hrl hsz1
  go_enter Tryz.func21, Tryz.ntmps21
  go_wp2_with fail
  go_loop [5, 6] (fun a j => ∃ (k : Nat) (z : Int), k ≤ nL ∧ j = .int .i64 (k : Int) ∧ a = .int .i64 z ∧ Hid (lineV i ls 0 = lineV i (ls.drop k) z)) (fun _ j => nL - (intOf j).toNat)
  case atStart => exact ⟨0, 0, Nat.zero_le _, rfl, rfl, Lib.hid (by rw [List.drop_zero])⟩
  case round =>
    obtain ⟨k, z, hk, rfl, rfl, HO⟩ := hrel
    by_cases hlt : k < nL
    · have hkI : (k : Int) < (nL : Int) := by omega
      obtain ⟨ad, rfl, _, a0, a1⟩ := HC0.out k hlt
      have HK := Lib.hid (HO.out.trans (line_at (HS.out k hlt)))
      generalize lnAt ls k = x at HK a0 a1
      by_cases hi : i < x.1
      · have hi2 : ¬ x.1 ≤ i := by omega
        rw [if_pos hi] at HK
        go_wp2_with fail
        go_ret
        exact ⟨ret_int (by rw [HK.out]), HB0.out⟩
      · have hi2 : x.1 ≤ i := by omega
        rw [if_neg hi] at HK
        go_wp2_with fail
        go_round
        case rel => exact ⟨k + 1, x.2, by omega, by go_num, rfl, HK⟩
        case measure => simp [intOf]; omega
    · obtain rfl : k = nL := by omega
      have HV := Lib.hid (show lineV i ls 0 = z from by rw [HO.out, List.drop_eq_nil_of_le (by have := HLN.out; omega)]; rfl)
      go_wp2_with fail
      go_ret
      exact ⟨ret_int (by rw [HV.out]), HB0.out⟩

set_option maxRecDepth 100000 in
set_option maxHeartbeats 4000000 in
theorem rcode_any (w : World) (AK AL AC AR : Option Addr) (nK cK nL cL nC cC nR cR : Nat) (x : Fn) (hF : FnW w AK nK cK AL nL cL AC nC cC AR nR cR x) (hnn : nK ≤ 1000000 ∧ nL ≤ 1000000 ∧ nC ≤ 1000000 ∧ nR ≤ 1000000) (hB : ∀ k, k < x.cs.length → -9223372036854775808 ≤ (inAt x.cs k).1 ∧ (inAt x.cs k).1 ≤ 9223372036854775807) :
    Calls Tryz.prog 64 #[.agg #[.int .i64 x.k, .slice AK nK cK, .int .i64 x.pd, .bool x.ns, .int .i64 x.f, .int .i64 x.t, .slice AL nL cL, .slice AC nC cC, .slice AR nR cR]] w (CAns w (cdV x)) := by
  obtain ⟨k0, ks, pd, ns, f0, t0, ls, cs, rs⟩ := x
  obtain ⟨hk, hkl, hl, hc, hr⟩ := hF
  dsimp only at hk hkl hl hc hr hB ⊢
  have hll : ls.length = nL := hl.1
  have hcl : cs.length = nC := hc.1
  have hrl : rs.length = nR := hr.1
  obtain ⟨W1, hW1⟩ : ∃ W1, w.alloc (.cells #[.int .i64 k0, .slice AK nK cK, .int .i64 pd, .bool ns, .int .i64 f0, .int .i64 t0, .slice AL nL cL, .slice AC nC cC, .slice AR nR cR] 27) = W1 := ⟨_, rfl⟩
  have hsz1 : w.heap.size < W1.heap.size := by rw [← hW1]; simp
  have HB0 := Lib.hid (show Below w.heap.size w W1 by rw [← hW1]; exact alloc_ _ _)
  have HX := Lib.hid (show ∀ W, Below W1.heap.size W1 W → Blk W w.heap.size 27 #[.int .i64 k0, .slice AK nK cK, .int .i64 pd, .bool ns, .int .i64 f0, .int .i64 t0, .slice AL nL cL, .slice AC nC cC, .slice AR nR cR] from fun W hb => (hb.block _ hsz1).trans (by rw [← hW1]; exact Blk.new w _ _))
  obtain ⟨c0, c1, c2, c3, c4, c5, c6, c7, c8⟩ := blk9 (HX.out W1 (Below.refl _ _))
  have HFC := Lib.hid (rfcheck_any W1 AC nC cC _ _ (Cd.of_in (hc.on HB0.out)))
  have HIC := Lib.hid (fun W k (hk : k < nC) => rcheck_any (inAt cs k).1 (inAt cs k).2.1 (inAt cs k).2.2.1 (inAt cs k).2.2.2.1 (inAt cs k).2.2.2.2 W (hB k (by omega)).1 (hB k (by omega)).2)
  have HOW := Lib.hid (fun z W => rown_any z W)
  have HCC := Lib.hid (fun W (hb : Below W1.heap.size W1 W) i (hi : i < nC) => (hc.on (to_ HB0.out hb)).at_ hi)
  have HS := Lib.hid (show ∀ k, k < nC → cs[k]? = some (inAt cs k) from fun k hk => inAt_some (by omega))
  have HLN := Lib.hid hcl
  unfold cdV flowV
  dsimp only
  rw [hcl]
  generalize chk nC (gph nC (fun i => (inAt cs i).1) (fun i => (inAt cs i).2.2.2.2)) = y at HFC ⊢
  have hb4 := hnn.2.2.1
  clear hk hkl hl hc hr hll hcl hrl hsz1 hB
  by_cases hy : y = 0
  · subst hy
    rw [if_neg (by simp)]
    go_enter Tryz.func64, Tryz.ntmps64
    go_wp2_with (go_at_call 146; refine HFC.out.mono ?_; rintro e w2 ⟨rfl, hb2⟩; have HB2 := Lib.hid hb2; clear c0 c1 c2 c3 c4 c5 c6 c7 c8; obtain ⟨c0, c1, c2, c3, c4, c5, c6, c7, c8⟩ := blk9 (HX.out w2 hb2); clear hb2)
    clear hW1
    go_loopw [4] (fun i wr => ∃ k : Nat, k ≤ nC ∧ i = .int .i64 (k : Int) ∧ Hid (codL cs = codL (cs.drop k)) ∧ Below W1.heap.size W1 wr) (fun i _ => nC - (intOf i).toNat)
    case atStart => exact ⟨0, Nat.zero_le _, rfl, Lib.hid (by rw [List.drop_zero]), HB2.out⟩
    case round =>
      obtain ⟨k, hk, rfl, HO, hbel⟩ := hrel
      have HBE := Lib.hid hbel
      clear c0 c1 c2 c3 c4 c5 c6 c7 c8
      obtain ⟨c0, c1, c2, c3, c4, c5, c6, c7, c8⟩ := blk9 (HX.out wr hbel)
      by_cases hlt : k < nC
      · have hkI : (k : Int) < (nC : Int) := by omega
        obtain ⟨ad, had⟩ : ∃ ad, AC = some ad := (HCC.out wr hbel k hlt).imp fun _ h => h.1
        subst had
        have HCQ := Lib.hid (fun W hb => HCC.out W hb k hlt)
        have HK := Lib.hid (HO.out.trans (codL_at (HS.out k hlt)))
        have HIX := Lib.hid (fun W => HIC.out W k hlt)
        generalize inAt cs k = x at HK HCQ HIX
        obtain ⟨ad1, e1, _, a0, a1, a2, a3, a4⟩ := HCQ.out wr hbel
        injection e1 with e1
        subst e1
        have HOX := Lib.hid (fun W => HOW.out x.1 W)
        clear hbel
        generalize chV x.1 x.2.1 x.2.2.1 x.2.2.2.1 x.2.2.2.2 = z at HK HIX
        by_cases hz : z = 0
        · subst hz
          rw [if_neg (by simp)] at HK
          cases ho : ownV x.1 with
          | false =>
            rw [ho, if_pos rfl] at HK
            rw [ho] at HOX
            clear ho
            go_wp2_with (first
              | (go_at_call 147; refine (HIX.out _).mono ?_; rintro e w9 ⟨rfl, b9⟩; have HB9 := Lib.hid (to_ HBE.out b9); clear b9 a0 a1 a2 a3 a4 c0 c1 c2 c3 c4 c5 c6 c7 c8; obtain ⟨c0, c1, c2, c3, c4, c5, c6, c7, c8⟩ := blk9 (HX.out w9 HB9.out); obtain ⟨ad1, e1, _, a0, a1, a2, a3, a4⟩ := HCQ.out w9 HB9.out; injection e1 with e1; subst e1)
              | (go_at_call 148; refine (HOX.out _).mono ?_; rintro e w8 ⟨rfl, rfl⟩))
            go_ret
            exact ⟨ret_int (by rw [HK.out]), to_ HB0.out HB9.out⟩
          | true =>
            rw [ho, if_neg (by simp)] at HK
            rw [ho] at HOX
            clear ho
            go_wp2_with (first
              | (go_at_call 147; refine (HIX.out _).mono ?_; rintro e w9 ⟨rfl, b9⟩; have HB9 := Lib.hid (to_ HBE.out b9); clear b9 a0 a1 a2 a3 a4 c0 c1 c2 c3 c4 c5 c6 c7 c8; obtain ⟨c0, c1, c2, c3, c4, c5, c6, c7, c8⟩ := blk9 (HX.out w9 HB9.out); obtain ⟨ad1, e1, _, a0, a1, a2, a3, a4⟩ := HCQ.out w9 HB9.out; injection e1 with e1; subst e1)
              | (go_at_call 148; refine (HOX.out _).mono ?_; rintro e w8 ⟨rfl, rfl⟩))
            go_roundw
            case rel => exact ⟨k + 1, by omega, by go_num, HK, HB9.out⟩
            case measure => simp [intOf]; omega
        · have hz2 : (z == 0) = false := by simp [hz]
          rw [if_pos hz] at HK
          clear hz
          go_wp2_with (go_at_call 147; refine (HIX.out _).mono ?_; rintro e w9 ⟨rfl, b9⟩; have HB9 := Lib.hid (to_ HBE.out b9); clear b9)
          go_ret
          exact ⟨ret_int (by rw [HK.out]), to_ HB0.out HB9.out⟩
      · obtain rfl : k = nC := by omega
        have HV := Lib.hid (show codL cs = 0 from by rw [HO.out, List.drop_eq_nil_of_le (by have := HLN.out; omega)]; rfl)
        clear hbel
        go_wp2_with fail
        go_ret
        exact ⟨ret_int (by rw [HV.out]), to_ HB0.out HBE.out⟩
  · have hy2 : (y == 0) = false := by simp [hy]
    rw [if_pos hy]
    clear hy
    go_enter Tryz.func64, Tryz.ntmps64
    go_wp2_with (go_at_call 146; refine HFC.out.mono ?_; rintro e w2 ⟨rfl, hb2⟩; have HB2 := Lib.hid hb2; clear hb2)
    go_ret
    exact ⟨rfl, to_ HB0.out HB2.out⟩
end Go.Proofs.YtbknmapkdjmcjaaGreatDoor.By

namespace Go.Proofs.YtbknmapkdjmcjaaGreatDoor.By
open Go.RowKit
open Mem Gm Rf
set_option linter.unusedSimpArgs false
set_option linter.unusedVariables false

/-- A kind that is wrong at a place. -/
def kdB (p : Int) (k : Nat) (z : Int) : Bool := nkB z || (decide ((k : Int) < p) && nnB z)
def kdL (p : Int) : Nat → List Int → Bool
  | _, [] => false
  | k, z :: r => kdB p k z || kdL p (k + 1) r
theorem kdL_at {p : Int} {j : Nat} : ∀ {l : List Int} {k : Nat}, k < l.length → kdL p (j + k) (l.drop k) = (kdB p (j + k) (el l k) || kdL p (j + (k + 1)) (l.drop (k + 1))) := by
  intro l k hk
  rw [List.drop_eq_getElem_cons hk, el_at hk]
  rfl
theorem kdL_any (p : Nat) : ∀ (l : List Int) (k : Nat), kdL (p : Int) k l = (l.any nkB || (l.take (p - k)).any nnB)
  | [], k => by simp [kdL]
  | z :: r, k => by
    rw [kdL, kdL_any p r (k + 1), kdB, List.any_cons]
    by_cases h : k < p
    · have e : p - k = (p - (k + 1)) + 1 := by omega
      have hI : decide ((k : Int) < (p : Int)) = true := decide_eq_true (by omega)
      rw [e, List.take_succ_cons, List.any_cons, hI]
      cases nkB z <;> cases nnB z <;> cases r.any nkB <;> simp
    · have e : p - k = 0 := by omega
      have e2 : p - (k + 1) = 0 := by omega
      have hI : decide ((k : Int) < (p : Int)) = false := decide_eq_false (by omega)
      rw [e, e2, hI]
      cases nkB z <;> simp
theorem el_mem {l : List Int} {k : Nat} (h : k < l.length) : el l k ∈ l := by
  rw [← el_at h]
  exact List.getElem_mem h
theorem kind_txt (z : Int) : ((ByteArray.toList (Si.textV z)).isEmpty = nkB z) := by
  rcases Si.eight z with h | h | rfl | rfl | rfl | rfl | rfl | rfl | rfl | rfl | rfl
  · rw [show Si.textV z = ⟨#[]⟩ from by unfold Si.textV; rw [if_neg (by omega)], show nkB z = true from by unfold nkB; simp; omega, ByteArray.toList_eq]; rfl
  · rw [show Si.textV z = ⟨#[]⟩ from by unfold Si.textV; rw [if_neg (by omega)], show nkB z = true from by unfold nkB; simp; omega, ByteArray.toList_eq]; rfl
  all_goals
    rw [ByteArray.toList_eq]
    decide
def slV (x : Fn) : Int := if Si.isC x.k = false then 14 else if 16 < x.ks.length then 6 else if (x.ks.length : Int) < Si.parV x.k then 2 else if kdL (Si.parV x.k) 0 x.ks = true then 8 else 0

set_option maxRecDepth 100000 in
set_option maxHeartbeats 8000000 in
theorem rslots_any (w : World) (AK AL AC AR : Option Addr) (nK cK nL cL nC cC nR cR : Nat) (x : Fn) (hF : FnW w AK nK cK AL nL cL AC nC cC AR nR cR x) (hnn : nK ≤ 1000000 ∧ nL ≤ 1000000 ∧ nC ≤ 1000000 ∧ nR ≤ 1000000) (hB : ∀ z ∈ x.ks, -9223372036854775808 ≤ z ∧ z ≤ 9223372036854775807) :
    Calls Tryz.prog 63 #[.agg #[.int .i64 x.k, .slice AK nK cK, .int .i64 x.pd, .bool x.ns, .int .i64 x.f, .int .i64 x.t, .slice AL nL cL, .slice AC nC cC, .slice AR nR cR]] w (CAns w (slV x)) := by
  obtain ⟨k0, ks, pd, ns, f0, t0, ls, cs, rs⟩ := x
  obtain ⟨hk, hkl, hl, hc, hr⟩ := hF
  dsimp only at hk hkl hl hc hr hB ⊢
  have hll : ls.length = nL := hl.1
  have hcl : cs.length = nC := hc.1
  have hrl : rs.length = nR := hr.1
  obtain ⟨W1, hW1⟩ : ∃ W1, w.alloc (.cells #[.int .i64 k0, .slice AK nK cK, .int .i64 pd, .bool ns, .int .i64 f0, .int .i64 t0, .slice AL nL cL, .slice AC nC cC, .slice AR nR cR] 27) = W1 := ⟨_, rfl⟩
  have hsz1 : w.heap.size < W1.heap.size := by rw [← hW1]; simp
  have HB0 := Lib.hid (show Below w.heap.size w W1 by rw [← hW1]; exact alloc_ _ _)
  have HX := Lib.hid (show ∀ W, Below W1.heap.size W1 W → Blk W w.heap.size 27 #[.int .i64 k0, .slice AK nK cK, .int .i64 pd, .bool ns, .int .i64 f0, .int .i64 t0, .slice AL nL cL, .slice AC nC cC, .slice AR nR cR] from fun W hb => (hb.block _ hsz1).trans (by rw [← hW1]; exact Blk.new w _ _))
  obtain ⟨c0, c1, c2, c3, c4, c5, c6, c7, c8⟩ := blk9 (HX.out W1 (Below.refl _ _))
  have HIS := Lib.hid (fun W => Si.ris_any k0 W)
  have HPA := Lib.hid (fun W => Si.rpar_any k0 W)
  have HPQ := Lib.hid (fun W => (Si.rpar_any k0 W).mono fun e w' hh => (⟨hh.1, hh.2.symm⟩ : e = .returned (.int .i64 (Si.parV k0)) ∧ w' = W))
  have HRT := Lib.hid (fun W k (hk : k < nK) => Si.rtext_any (el ks k) (hB _ (el_mem (by omega))).1 (hB _ (el_mem (by omega))).2 W)
  have HKC := Lib.hid (fun W (hb : Below W1.heap.size W1 W) i (hi : i < nK) => iw_cell (hk.on (to_ HB0.out hb)) hkl hi)
  have HKD := Lib.hid (fun k (hk : k < nK) => kdL_at (p := Si.parV k0) (j := 0) (l := ks) (k := k) (by omega))
  have HLN := Lib.hid hkl
  have hb4 := hnn.1
  unfold slV
  dsimp only
  rw [hkl]
  clear hk hkl hl hc hr hll hcl hrl hsz1 hB
  by_cases h1 : Si.isC k0 = false
  · rw [if_pos h1]
    rw [h1] at HIS
    go_enter Tryz.func63, Tryz.ntmps63
    go_wp2_with (go_at_call 100; refine (HIS.out _).mono ?_; rintro e w9 ⟨rfl, rfl⟩)
    go_ret
    exact ⟨rfl, HB0.out⟩
  · have h1' : Si.isC k0 = true := by simpa using h1
    rw [if_neg h1]
    rw [h1'] at HIS
    by_cases h2 : 16 < nK
    · have h2I : (16 : Int) < (nK : Int) := by omega
      rw [if_pos h2]
      go_enter Tryz.func63, Tryz.ntmps63
      go_wp2_with (go_at_call 100; refine (HIS.out _).mono ?_; rintro e w9 ⟨rfl, rfl⟩)
      go_ret
      exact ⟨rfl, HB0.out⟩
    · have h2I : ¬ (16 : Int) < (nK : Int) := by omega
      rw [if_neg h2]
      generalize Si.parV k0 = p at HPA HPQ HKD ⊢
      by_cases h3 : (nK : Int) < p
      · rw [if_pos h3]
        clear h1 h1'
        go_enter Tryz.func63, Tryz.ntmps63
        go_wp2_with (go_at_call 100; refine (HIS.out _).mono ?_; rintro e w9 ⟨rfl, rfl⟩)
        clear hW1
        go_quiet ((go_at_call 144; exact Calls.quiet_of_same (HPQ.out _)))
        go_wp2_with fail
        go_ret
        exact ⟨rfl, below_drewN HB0.out _⟩
      · rw [if_neg h3]
        clear h1 h1'
        obtain ⟨rr, hrr⟩ : ∃ r : Int, (if kdL p 0 ks = true then (8 : Int) else 0) = r := ⟨_, rfl⟩
        rw [hrr]
        have HRR := Lib.hid hrr
        clear hrr
        go_enter Tryz.func63, Tryz.ntmps63
        go_wp2_with (go_at_call 100; refine (HIS.out _).mono ?_; rintro e w9 ⟨rfl, rfl⟩)
        clear hW1
        go_quiet ((go_at_call 144; exact Calls.quiet_of_same (HPQ.out _)))
        go_wp2_with fail
        go_loopw [3] (fun i wr => ∃ k : Nat, k ≤ nK ∧ i = .int .i64 (k : Int) ∧ Hid (kdL p 0 ks = kdL p (0 + k) (ks.drop k)) ∧ Below W1.heap.size W1 wr) (fun i _ => nK - (intOf i).toNat)
        case atStart => exact ⟨0, Nat.zero_le _, rfl, Lib.hid (by rw [List.drop_zero]), below_drewN (Below.refl _ _) _⟩
        case round =>
          obtain ⟨k, hk, rfl, HO, hbel⟩ := hrel
          have HBE := Lib.hid hbel
          clear c0 c1 c2 c3 c4 c5 c6 c7 c8
          obtain ⟨c0, c1, c2, c3, c4, c5, c6, c7, c8⟩ := blk9 (HX.out wr hbel)
          by_cases hlt : k < nK
          · have hkI : (k : Int) < (nK : Int) := by omega
            obtain ⟨ad, had⟩ : ∃ ad, AK = some ad := (HKC.out wr hbel k hlt).imp fun _ h => h.1
            subst had
            have HCQ := Lib.hid (fun W hb => HKC.out W hb k hlt)
            have HK := Lib.hid (HO.out.trans (HKD.out k hlt))
            have HRX := Lib.hid (fun W => HRT.out W k hlt)
            obtain ⟨z, hz⟩ : ∃ z, el ks k = z := ⟨_, rfl⟩
            rw [hz] at HK HCQ HRX
            obtain ⟨ad1, e1, _, a0⟩ := HCQ.out wr hbel
            injection e1 with e1
            subst e1
            have hem := kind_txt z
            clear hbel hz
            unfold kdB at HK
            rw [Nat.zero_add] at HK
            generalize Si.textV z = y at HRX hem
            by_cases hn : nkB z = true
            · rw [hn, Bool.true_or, Bool.true_or] at HK
              rw [hn] at hem
              go_wp2_with (first
                | (go_at_call 145; refine (HRX.out _).mono ?_; rintro e w9 ⟨rfl, b9⟩; have HB9 := Lib.hid (to_ HBE.out b9); clear b9 a0 c0 c1 c2 c3 c4 c5 c6 c7 c8; obtain ⟨c0, c1, c2, c3, c4, c5, c6, c7, c8⟩ := blk9 (HX.out w9 HB9.out); obtain ⟨ad1, e1, _, a0⟩ := HCQ.out w9 HB9.out; injection e1 with e1; subst e1)
                | (go_at_call 144; refine (HPA.out _).mono ?_; rintro e w8 ⟨rfl, rfl⟩))
              go_ret
              exact ⟨ret_int (by rw [← HRR.out, HK.out, if_pos rfl]), to_ HB0.out HB9.out⟩
            · have hn2 : nkB z = false := by simpa using hn
              rw [hn2, Bool.false_or] at HK
              rw [hn2] at hem
              clear hn hn2
              by_cases hp : (k : Int) < p
              · rw [decide_eq_true hp, Bool.true_and] at HK
                by_cases h0 : z = 0
                · subst h0
                  rw [show nnB 0 = false from rfl, Bool.false_or] at HK
                  go_wp2_with (first
                    | (go_at_call 145; refine (HRX.out _).mono ?_; rintro e w9 ⟨rfl, b9⟩; have HB9 := Lib.hid (to_ HBE.out b9); clear b9 a0 c0 c1 c2 c3 c4 c5 c6 c7 c8; obtain ⟨c0, c1, c2, c3, c4, c5, c6, c7, c8⟩ := blk9 (HX.out w9 HB9.out); obtain ⟨ad1, e1, _, a0⟩ := HCQ.out w9 HB9.out; injection e1 with e1; subst e1)
                    | (go_at_call 144; refine (HPA.out _).mono ?_; rintro e w8 ⟨rfl, rfl⟩))
                  go_roundw
                  case rel => exact ⟨k + 1, by omega, by go_num, HK, HB9.out⟩
                  case measure => simp [intOf]; omega
                · have h02 : (z == 0) = false := by simp [h0]
                  rw [show nnB z = true from by unfold nnB; simp [h0], Bool.true_or] at HK
                  clear h0
                  go_wp2_with (first
                    | (go_at_call 145; refine (HRX.out _).mono ?_; rintro e w9 ⟨rfl, b9⟩; have HB9 := Lib.hid (to_ HBE.out b9); clear b9 a0 c0 c1 c2 c3 c4 c5 c6 c7 c8; obtain ⟨c0, c1, c2, c3, c4, c5, c6, c7, c8⟩ := blk9 (HX.out w9 HB9.out); obtain ⟨ad1, e1, _, a0⟩ := HCQ.out w9 HB9.out; injection e1 with e1; subst e1)
                    | (go_at_call 144; refine (HPA.out _).mono ?_; rintro e w8 ⟨rfl, rfl⟩))
                  go_ret
                  exact ⟨ret_int (by rw [← HRR.out, HK.out, if_pos rfl]), to_ HB0.out HB9.out⟩
              · rw [decide_eq_false hp, Bool.false_and, Bool.false_or] at HK
                go_wp2_with (first
                  | (go_at_call 145; refine (HRX.out _).mono ?_; rintro e w9 ⟨rfl, b9⟩; have HB9 := Lib.hid (to_ HBE.out b9); clear b9 a0 c0 c1 c2 c3 c4 c5 c6 c7 c8; obtain ⟨c0, c1, c2, c3, c4, c5, c6, c7, c8⟩ := blk9 (HX.out w9 HB9.out); obtain ⟨ad1, e1, _, a0⟩ := HCQ.out w9 HB9.out; injection e1 with e1; subst e1)
                  | (go_at_call 144; refine (HPA.out _).mono ?_; rintro e w8 ⟨rfl, rfl⟩))
                go_roundw
                case rel => exact ⟨k + 1, by omega, by go_num, HK, HB9.out⟩
                case measure => simp [intOf]; omega
          · obtain rfl : k = nK := by omega
            have HV := Lib.hid (show kdL p 0 ks = false from by rw [HO.out, List.drop_eq_nil_of_le (by have := HLN.out; omega)]; rfl)
            clear hbel
            go_wp2_with fail
            go_ret
            exact ⟨ret_int (by rw [← HRR.out, HV.out]; rfl), to_ HB0.out HBE.out⟩
end Go.Proofs.YtbknmapkdjmcjaaGreatDoor.By
