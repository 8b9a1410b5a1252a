/-
  WALKS of layer 17: Class. (Jp, Jq, Nh, Nx, Ti, Tk, Tl in one)
-/
import Derived.Test.YtbknmapkdjmcjaaGreatDoorJm
import Derived.Test.YtbknmapkdjmcjaaGreatDoorUj
import Derived.Test.YtbknmapkdjmcjaaGreatDoorIe
import Derived.Test.YtbknmapkdjmcjaaGreatDoorJn
import Derived.Test.YtbknmapkdjmcjaaGreatDoorEf
import Derived.Test.YtbknmapkdjmcjaaGreatDoorTh

namespace Go.Proofs.YtbknmapkdjmcjaaGreatDoor.By
open Go.RowKit
open Mem Gm Rf
set_option linter.defProp false in
def nmb (α : Type) := And.intro (@List.getElem_toArray α) (And.intro (@List.getElem_cons_zero α) (And.intro (@List.getElem_cons_succ α) (And.intro (@List.setIfInBounds_toArray α) (And.intro (@List.set_cons_zero α) (@List.set_cons_succ α)))))
theorem tkb {P : Program} {md : Region.Mode} {ops : Array Oper} {Q : Exit → Act → World → Prop} {S : World → Prop} (i : Nat) {oi : Oper} {v : Value} {fuel : Nat} {listed : Array Bool} {a : Act} {w : World} (hi : ops[i]? = some oi)
    (hQ : ∀ c a w, Q (.panic c) (a.put oi.dst v) w → Q (.panic c) a w) (hS : S w) (h : wpAnyH P md ops Q S fuel (listed.setIfInBounds i true) (a.put oi.dst v) w)
    (hs : Region.noSelect ops = true := by kernel_rfl) (hf : Region.free md ops listed i = true := by kernel_rfl) (hr : (Region.ready md ops listed).contains i = true := by kernel_rfl)
    (hy : YieldsIf P ops S oi v a := by exact Or.inl ⟨by rfl, by intro W hSW; (try dsimp only at hSW); go_simp; try (with_reducible rfl)⟩) : wpAnyH P md ops Q S (fuel + 1) listed a w :=
  wpAnyH_take hi hs hf hr hQ hy hS h
end Go.Proofs.YtbknmapkdjmcjaaGreatDoor.By

namespace Go.Proofs.YtbknmapkdjmcjaaGreatDoor.By
open Go.RowKit
open Mem Gm Rf
set_option linter.unusedSimpArgs false
set_option linter.unusedVariables false

def lineV (i : Int) : List Ln → Int → Int
  | [], z => z
  | a :: r, z => if i < a.1 then z else lineV i r a.2
theorem line_at {i z : Int} {l : List Ln} {k : Nat} {x : Ln} (h : l[k]? = some x) : lineV i (l.drop k) z = if i < x.1 then z else lineV i (l.drop (k + 1)) x.2 := by
  have hk := (List.getElem?_eq_some_iff.1 h).1
  have hx := (List.getElem?_eq_some_iff.1 h).2
  rw [List.drop_eq_getElem_cons hk, hx]
  rfl
def frmV (x : Fn) : Int := (x.ks.length : Int) + nearV x.pd 0 1048576
theorem near_in (n : Int) : 0 ≤ nearV n 0 1048576 ∧ nearV n 0 1048576 ≤ 1048576 := by
  unfold nearV
  split
  · omega
  · split <;> omega

set_option maxRecDepth 100000 in
set_option maxHeartbeats 4000000 in
theorem frameF_any (w : World) (AK AL AC AR : Option Addr) (nK cK nL cL nC cC nR cR : Nat) (x : Fn) (hF : FnW w AK nK cK AL nL cL AC nC cC AR nR cR x) (hnn : nK ≤ 1000000 ∧ nL ≤ 1000000 ∧ nC ≤ 1000000 ∧ nR ≤ 1000000) :
    Calls Tryz.prog 18 #[.agg #[.int .i64 x.k, .slice AK nK cK, .int .i64 x.pd, .bool x.ns, .int .i64 x.f, .int .i64 x.t, .slice AL nL cL, .slice AC nC cC, .slice AR nR cR]] w (CAns w (frmV x)) := by
  obtain ⟨k0, ks, pd, ns, f0, t0, ls, cs, rs⟩ := x
  obtain ⟨hk, hkl, hl, hc, hr⟩ := hF
  dsimp only at hk hkl hl hc hr ⊢
  have hll : ls.length = nL := hl.1
  have hcl : cs.length = nC := hc.1
  have hrl : rs.length = nR := hr.1
  obtain ⟨W1, hW1⟩ : ∃ W1, w.alloc (.cells #[.int .i64 k0, .slice AK nK cK, .int .i64 pd, .bool ns, .int .i64 f0, .int .i64 t0, .slice AL nL cL, .slice AC nC cC, .slice AR nR cR] 27) = W1 := ⟨_, rfl⟩
  have hsz1 : w.heap.size < W1.heap.size := by rw [← hW1]; simp
  have HB0 := Lib.hid (show Below w.heap.size w W1 by rw [← hW1]; exact alloc_ _ _)
  have HX := Lib.hid (show ∀ W, Below W1.heap.size W1 W → Blk W w.heap.size 27 #[.int .i64 k0, .slice AK nK cK, .int .i64 pd, .bool ns, .int .i64 f0, .int .i64 t0, .slice AL nL cL, .slice AC nC cC, .slice AR nR cR] from fun W hb => (hb.block _ hsz1).trans (by rw [← hW1]; exact Blk.new w _ _))
  obtain ⟨c0, c1, c2, c3, c4, c5, c6, c7, c8⟩ := blk9 (HX.out W1 (Below.refl _ _))
  have HN := Lib.hid (fun W => (near_any pd 0 1048576 W).mono fun e w' hh => (⟨hh.1, hh.2.symm⟩ : e = .returned (.int .i64 (nearV pd 0 1048576)) ∧ w' = W))
  have hnr := near_in pd
  unfold frmV
  dsimp only
  rw [hkl]
  generalize nearV pd 0 1048576 = y at HN hnr ⊢
  have hb1 := hnn.1
  clear hk hl hc hr hll hcl hrl hsz1
  go_enter Tryz.func18, Tryz.ntmps18
  go_wp2_with fail
  clear hW1
  go_quiet ((go_at_call 66; exact Calls.quiet_of_same (HN.out _)))
  go_wp2_with fail
  go_ret
  exact ⟨rfl, below_drewN HB0.out _⟩

set_option maxRecDepth 100000 in
set_option maxHeartbeats 4000000 in
theorem rframeF_any (w : World) (AK AL AC AR : Option Addr) (nK cK nL cL nC cC nR cR : Nat) (x : Fn) (hF : FnW w AK nK cK AL nL cL AC nC cC AR nR cR x) (hnn : nK ≤ 1000000 ∧ nL ≤ 1000000 ∧ nC ≤ 1000000 ∧ nR ≤ 1000000) :
    Calls Tryz.prog 19 #[.agg #[.int .i64 x.k, .slice AK nK cK, .int .i64 x.pd, .bool x.ns, .int .i64 x.f, .int .i64 x.t, .slice AL nL cL, .slice AC nC cC, .slice AR nR cR]] w (CAns w (frmV x)) := by
  obtain ⟨k0, ks, pd, ns, f0, t0, ls, cs, rs⟩ := x
  obtain ⟨hk, hkl, hl, hc, hr⟩ := hF
  dsimp only at hk hkl hl hc hr ⊢
  have hll : ls.length = nL := hl.1
  have hcl : cs.length = nC := hc.1
  have hrl : rs.length = nR := hr.1
  obtain ⟨W1, hW1⟩ : ∃ W1, w.alloc (.cells #[.int .i64 k0, .slice AK nK cK, .int .i64 pd, .bool ns, .int .i64 f0, .int .i64 t0, .slice AL nL cL, .slice AC nC cC, .slice AR nR cR] 27) = W1 := ⟨_, rfl⟩
  have hsz1 : w.heap.size < W1.heap.size := by rw [← hW1]; simp
  have HB0 := Lib.hid (show Below w.heap.size w W1 by rw [← hW1]; exact alloc_ _ _)
  have HX := Lib.hid (show ∀ W, Below W1.heap.size W1 W → Blk W w.heap.size 27 #[.int .i64 k0, .slice AK nK cK, .int .i64 pd, .bool ns, .int .i64 f0, .int .i64 t0, .slice AL nL cL, .slice AC nC cC, .slice AR nR cR] from fun W hb => (hb.block _ hsz1).trans (by rw [← hW1]; exact Blk.new w _ _))
  obtain ⟨c0, c1, c2, c3, c4, c5, c6, c7, c8⟩ := blk9 (HX.out W1 (Below.refl _ _))
  have HN := Lib.hid (fun W => (rnear_any pd 0 1048576 W).mono fun e w' hh => (⟨hh.1, hh.2.symm⟩ : e = .returned (.int .i64 (nearV pd 0 1048576)) ∧ w' = W))
  have hnr := near_in pd
  unfold frmV
  dsimp only
  rw [hkl]
  generalize nearV pd 0 1048576 = y at HN hnr ⊢
  have hb1 := hnn.1
  clear hk hl hc hr hll hcl hrl hsz1
  go_enter Tryz.func19, Tryz.ntmps19
  go_wp2_with fail
  clear hW1
  go_quiet ((go_at_call 67; exact Calls.quiet_of_same (HN.out _)))
  go_wp2_with fail
  go_ret
  exact ⟨rfl, below_drewN HB0.out _⟩

set_option maxRecDepth 100000 in
set_option maxHeartbeats 4000000 in
theorem lineF_any (w : World) (AK AL AC AR : Option Addr) (nK cK nL cL nC cC nR cR : Nat) (x : Fn) (hF : FnW w AK nK cK AL nL cL AC nC cC AR nR cR x) (hnn : nK ≤ 1000000 ∧ nL ≤ 1000000 ∧ nC ≤ 1000000 ∧ nR ≤ 1000000) (i : Int) :
    Calls Tryz.prog 20 #[.agg #[.int .i64 x.k, .slice AK nK cK, .int .i64 x.pd, .bool x.ns, .int .i64 x.f, .int .i64 x.t, .slice AL nL cL, .slice AC nC cC, .slice AR nR cR], .int .i64 i] w (CAns w (lineV i x.ls 0)) := by
  obtain ⟨k0, ks, pd, ns, f0, t0, ls, cs, rs⟩ := x
  obtain ⟨hk, hkl, hl, hc, hr⟩ := hF
  dsimp only at hk hkl hl hc hr ⊢
  have hll : ls.length = nL := hl.1
  have hcl : cs.length = nC := hc.1
  have hrl : rs.length = nR := hr.1
  obtain ⟨W1, hW1⟩ : ∃ W1, w.alloc (.cells #[.int .i64 k0, .slice AK nK cK, .int .i64 pd, .bool ns, .int .i64 f0, .int .i64 t0, .slice AL nL cL, .slice AC nC cC, .slice AR nR cR] 27) = W1 := ⟨_, rfl⟩
  have hsz1 : w.heap.size < W1.heap.size := by rw [← hW1]; simp
  have HB0 := Lib.hid (show Below w.heap.size w W1 by rw [← hW1]; exact alloc_ _ _)
  have HX := Lib.hid (show ∀ W, Below W1.heap.size W1 W → Blk W w.heap.size 27 #[.int .i64 k0, .slice AK nK cK, .int .i64 pd, .bool ns, .int .i64 f0, .int .i64 t0, .slice AL nL cL, .slice AC nC cC, .slice AR nR cR] from fun W hb => (hb.block _ hsz1).trans (by rw [← hW1]; exact Blk.new w _ _))
  obtain ⟨c0, c1, c2, c3, c4, c5, c6, c7, c8⟩ := blk9 (HX.out W1 (Below.refl _ _))
  have HCL := Lib.hid (fun W (hb : Below W1.heap.size W1 W) i (hi : i < nL) => (hl.on (to_ HB0.out hb)).at_ hi)
  have HS := Lib.hid (show ∀ k, k < nL → ls[k]? = some (lnAt ls k) from fun k hk => lnAt_some (by omega))
  have HLN := Lib.hid hll
  have hb4 := hnn.2.1
  clear hk hkl hl hc hr hll hcl hrl hsz1
  go_enter Tryz.func20, Tryz.ntmps20
  go_wp2_with fail
  clear hW1
  go_loopw [5, 11] (fun a j wr => ∃ (k : Nat) (z : Int), k ≤ nL ∧ j = .int .i64 (k : Int) ∧ a = .int .i64 z ∧ Hid (lineV i ls 0 = lineV i (ls.drop k) z) ∧ Below W1.heap.size W1 wr) (fun _ j _ => nL - (intOf j).toNat)
  case atStart => exact ⟨0, 0, Nat.zero_le _, rfl, rfl, Lib.hid (by rw [List.drop_zero]), Below.refl _ _⟩
  case round =>
    obtain ⟨k, z, hk, rfl, rfl, HO, hbel⟩ := hrel
    have HBE := Lib.hid hbel
    clear c0 c1 c2 c3 c4 c5 c6 c7 c8
    by_cases hlt : k < nL
    · have hkI : (k : Int) < (nL : Int) := by omega
      obtain ⟨ad, rfl, _, a0, a1⟩ := HCL.out wr hbel k hlt
      have HK := Lib.hid (HO.out.trans (line_at (HS.out k hlt)))
      generalize lnAt ls k = x at HK a0 a1
      obtain ⟨Wx, hWx⟩ : ∃ Wx, wr.alloc (.cells #[.int .i64 x.1, .int .i64 x.2] 85) = Wx := ⟨_, rfl⟩
      have HBX := Lib.hid (show Below wr.heap.size wr Wx from by rw [← hWx]; exact alloc_ _ _)
      have hbk : Blk Wx wr.heap.size 85 #[.int .i64 x.1, .int .i64 x.2] := by rw [← hWx]; exact Blk.new wr _ _
      have d0 := hbk.cell 0
      have d1 := hbk.cell 1
      clear hbel hbk
      by_cases hi : i < x.1
      · have hi2 : x.1 > i := hi
        rw [if_pos hi] at HK
        go_wp2_with fail
        go_ret
        exact ⟨ret_int (by rw [HK.out]), to_ HB0.out (to_ HBE.out HBX.out)⟩
      · have hi2 : ¬ x.1 > i := hi
        rw [if_neg hi] at HK
        go_wp2_with fail
        clear hWx d0 d1
        go_roundw
        case rel => exact ⟨k + 1, x.2, by omega, by go_num, rfl, HK, to_ HBE.out HBX.out⟩
        case measure => simp [intOf]; omega
    · obtain rfl : k = nL := by omega
      have HV := Lib.hid (show lineV i ls 0 = z from by rw [HO.out, List.drop_eq_nil_of_le (by have := HLN.out; omega)]; rfl)
      clear hbel
      go_wp2_with fail
      go_ret
      exact ⟨ret_int (by rw [HV.out]), to_ HB0.out HBE.out⟩

set_option maxRecDepth 100000 in
set_option maxHeartbeats 4000000 in
theorem rlineF_any (w : World) (AK AL AC AR : Option Addr) (nK cK nL cL nC cC nR cR : Nat) (x : Fn) (hF : FnW w AK nK cK AL nL cL AC nC cC AR nR cR x) (hnn : nK ≤ 1000000 ∧ nL ≤ 1000000 ∧ nC ≤ 1000000 ∧ nR ≤ 1000000) (i : Int) :
    Calls Tryz.prog 21 #[.agg #[.int .i64 x.k, .slice AK nK cK, .int .i64 x.pd, .bool x.ns, .int .i64 x.f, .int .i64 x.t, .slice AL nL cL, .slice AC nC cC, .slice AR nR cR], .int .i64 i] w (CAns w (lineV i x.ls 0)) := by
  obtain ⟨k0, ks, pd, ns, f0, t0, ls, cs, rs⟩ := x
  obtain ⟨hk, hkl, hl, hc, hr⟩ := hF
  dsimp only at hk hkl hl hc hr ⊢
  have hll : ls.length = nL := hl.1
  have hcl : cs.length = nC := hc.1
  have hrl : rs.length = nR := hr.1
  obtain ⟨W1, hW1⟩ : ∃ W1, w.alloc (.cells #[.int .i64 k0, .slice AK nK cK, .int .i64 pd, .bool ns, .int .i64 f0, .int .i64 t0, .slice AL nL cL, .slice AC nC cC, .slice AR nR cR] 27) = W1 := ⟨_, rfl⟩
  have hsz1 : w.heap.size < W1.heap.size := by rw [← hW1]; simp
  have HB0 := Lib.hid (show Below w.heap.size w W1 by rw [← hW1]; exact alloc_ _ _)
  have HX := Lib.hid (show ∀ W, Below W1.heap.size W1 W → Blk W w.heap.size 27 #[.int .i64 k0, .slice AK nK cK, .int .i64 pd, .bool ns, .int .i64 f0, .int .i64 t0, .slice AL nL cL, .slice AC nC cC, .slice AR nR cR] from fun W hb => (hb.block _ hsz1).trans (by rw [← hW1]; exact Blk.new w _ _))
  obtain ⟨c0, c1, c2, c3, c4, c5, c6, c7, c8⟩ := blk9 (HX.out W1 (Below.refl _ _))
  have HC0 := Lib.hid (fun i (hi : i < nL) => (hl.on HB0.out).at_ hi)
  have HS := Lib.hid (show ∀ k, k < nL → ls[k]? = some (lnAt ls k) from fun k hk => lnAt_some (by omega))
  have HLN := Lib.hid hll
  have hb4 := hnn.2.1
  clear hk hkl hl hc hr hll hcl hrl hsz1
  go_enter Tryz.func21, Tryz.ntmps21
  go_wp2_with fail
  go_loop [5, 6] (fun a j => ∃ (k : Nat) (z : Int), k ≤ nL ∧ j = .int .i64 (k : Int) ∧ a = .int .i64 z ∧ Hid (lineV i ls 0 = lineV i (ls.drop k) z)) (fun _ j => nL - (intOf j).toNat)
  case atStart => exact ⟨0, 0, Nat.zero_le _, rfl, rfl, Lib.hid (by rw [List.drop_zero])⟩
  case round =>
    obtain ⟨k, z, hk, rfl, rfl, HO⟩ := hrel
    by_cases hlt : k < nL
    · have hkI : (k : Int) < (nL : Int) := by omega
      obtain ⟨ad, rfl, _, a0, a1⟩ := HC0.out k hlt
      have HK := Lib.hid (HO.out.trans (line_at (HS.out k hlt)))
      generalize lnAt ls k = x at HK a0 a1
      by_cases hi : i < x.1
      · have hi2 : ¬ x.1 ≤ i := by omega
        rw [if_pos hi] at HK
        go_wp2_with fail
        go_ret
        exact ⟨ret_int (by rw [HK.out]), HB0.out⟩
      · have hi2 : x.1 ≤ i := by omega
        rw [if_neg hi] at HK
        go_wp2_with fail
        go_round
        case rel => exact ⟨k + 1, x.2, by omega, by go_num, rfl, HK⟩
        case measure => simp [intOf]; omega
    · obtain rfl : k = nL := by omega
      have HV := Lib.hid (show lineV i ls 0 = z from by rw [HO.out, List.drop_eq_nil_of_le (by have := HLN.out; omega)]; rfl)
      go_wp2_with fail
      go_ret
      exact ⟨ret_int (by rw [HV.out]), HB0.out⟩

set_option maxRecDepth 100000 in
set_option maxHeartbeats 4000000 in
theorem rcode_any (w : World) (AK AL AC AR : Option Addr) (nK cK nL cL nC cC nR cR : Nat) (x : Fn) (hF : FnW w AK nK cK AL nL cL AC nC cC AR nR cR x) (hnn : nK ≤ 1000000 ∧ nL ≤ 1000000 ∧ nC ≤ 1000000 ∧ nR ≤ 1000000) (hB : ∀ k, k < x.cs.length → -9223372036854775808 ≤ (inAt x.cs k).1 ∧ (inAt x.cs k).1 ≤ 9223372036854775807) :
    Calls Tryz.prog 64 #[.agg #[.int .i64 x.k, .slice AK nK cK, .int .i64 x.pd, .bool x.ns, .int .i64 x.f, .int .i64 x.t, .slice AL nL cL, .slice AC nC cC, .slice AR nR cR]] w (CAns w (cdV x)) := by
  obtain ⟨k0, ks, pd, ns, f0, t0, ls, cs, rs⟩ := x
  obtain ⟨hk, hkl, hl, hc, hr⟩ := hF
  dsimp only at hk hkl hl hc hr hB ⊢
  have hll : ls.length = nL := hl.1
  have hcl : cs.length = nC := hc.1
  have hrl : rs.length = nR := hr.1
  obtain ⟨W1, hW1⟩ : ∃ W1, w.alloc (.cells #[.int .i64 k0, .slice AK nK cK, .int .i64 pd, .bool ns, .int .i64 f0, .int .i64 t0, .slice AL nL cL, .slice AC nC cC, .slice AR nR cR] 27) = W1 := ⟨_, rfl⟩
  have hsz1 : w.heap.size < W1.heap.size := by rw [← hW1]; simp
  have HB0 := Lib.hid (show Below w.heap.size w W1 by rw [← hW1]; exact alloc_ _ _)
  have HX := Lib.hid (show ∀ W, Below W1.heap.size W1 W → Blk W w.heap.size 27 #[.int .i64 k0, .slice AK nK cK, .int .i64 pd, .bool ns, .int .i64 f0, .int .i64 t0, .slice AL nL cL, .slice AC nC cC, .slice AR nR cR] from fun W hb => (hb.block _ hsz1).trans (by rw [← hW1]; exact Blk.new w _ _))
  obtain ⟨c0, c1, c2, c3, c4, c5, c6, c7, c8⟩ := blk9 (HX.out W1 (Below.refl _ _))
  have HFC := Lib.hid (rfcheck_any W1 AC nC cC _ _ (Cd.of_in (hc.on HB0.out)))
  have HIC := Lib.hid (fun W k (hk : k < nC) => rcheck_any (inAt cs k).1 (inAt cs k).2.1 (inAt cs k).2.2.1 (inAt cs k).2.2.2.1 (inAt cs k).2.2.2.2 W (hB k (by omega)).1 (hB k (by omega)).2)
  have HOW := Lib.hid (fun z W => rown_any z W)
  have HCC := Lib.hid (fun W (hb : Below W1.heap.size W1 W) i (hi : i < nC) => (hc.on (to_ HB0.out hb)).at_ hi)
  have HS := Lib.hid (show ∀ k, k < nC → cs[k]? = some (inAt cs k) from fun k hk => inAt_some (by omega))
  have HLN := Lib.hid hcl
  unfold cdV flowV
  dsimp only
  rw [hcl]
  generalize chk nC (gph nC (fun i => (inAt cs i).1) (fun i => (inAt cs i).2.2.2.2)) = y at HFC ⊢
  have hb4 := hnn.2.2.1
  clear hk hkl hl hc hr hll hcl hrl hsz1 hB
  by_cases hy : y = 0
  · subst hy
    rw [if_neg (by simp)]
    go_enter Tryz.func64, Tryz.ntmps64
    go_wp2_with (go_at_call 146; refine HFC.out.mono ?_; rintro e w2 ⟨rfl, hb2⟩; have HB2 := Lib.hid hb2; clear c0 c1 c2 c3 c4 c5 c6 c7 c8; obtain ⟨c0, c1, c2, c3, c4, c5, c6, c7, c8⟩ := blk9 (HX.out w2 hb2); clear hb2)
    clear hW1
    go_loopw [4] (fun i wr => ∃ k : Nat, k ≤ nC ∧ i = .int .i64 (k : Int) ∧ Hid (codL cs = codL (cs.drop k)) ∧ Below W1.heap.size W1 wr) (fun i _ => nC - (intOf i).toNat)
    case atStart => exact ⟨0, Nat.zero_le _, rfl, Lib.hid (by rw [List.drop_zero]), HB2.out⟩
    case round =>
      obtain ⟨k, hk, rfl, HO, hbel⟩ := hrel
      have HBE := Lib.hid hbel
      clear c0 c1 c2 c3 c4 c5 c6 c7 c8
      obtain ⟨c0, c1, c2, c3, c4, c5, c6, c7, c8⟩ := blk9 (HX.out wr hbel)
      by_cases hlt : k < nC
      · have hkI : (k : Int) < (nC : Int) := by omega
        obtain ⟨ad, had⟩ : ∃ ad, AC = some ad := (HCC.out wr hbel k hlt).imp fun _ h => h.1
        subst had
        have HCQ := Lib.hid (fun W hb => HCC.out W hb k hlt)
        have HK := Lib.hid (HO.out.trans (codL_at (HS.out k hlt)))
        have HIX := Lib.hid (fun W => HIC.out W k hlt)
        generalize inAt cs k = x at HK HCQ HIX
        obtain ⟨ad1, e1, _, a0, a1, a2, a3, a4⟩ := HCQ.out wr hbel
        injection e1 with e1
        subst e1
        have HOX := Lib.hid (fun W => HOW.out x.1 W)
        clear hbel
        generalize chV x.1 x.2.1 x.2.2.1 x.2.2.2.1 x.2.2.2.2 = z at HK HIX
        by_cases hz : z = 0
        · subst hz
          rw [if_neg (by simp)] at HK
          cases ho : ownV x.1 with
          | false =>
            rw [ho, if_pos rfl] at HK
            rw [ho] at HOX
            clear ho
            go_wp2_with (first
              | (go_at_call 147; refine (HIX.out _).mono ?_; rintro e w9 ⟨rfl, b9⟩; have HB9 := Lib.hid (to_ HBE.out b9); clear b9 a0 a1 a2 a3 a4 c0 c1 c2 c3 c4 c5 c6 c7 c8; obtain ⟨c0, c1, c2, c3, c4, c5, c6, c7, c8⟩ := blk9 (HX.out w9 HB9.out); obtain ⟨ad1, e1, _, a0, a1, a2, a3, a4⟩ := HCQ.out w9 HB9.out; injection e1 with e1; subst e1)
              | (go_at_call 148; refine (HOX.out _).mono ?_; rintro e w8 ⟨rfl, rfl⟩))
            go_ret
            exact ⟨ret_int (by rw [HK.out]), to_ HB0.out HB9.out⟩
          | true =>
            rw [ho, if_neg (by simp)] at HK
            rw [ho] at HOX
            clear ho
            go_wp2_with (first
              | (go_at_call 147; refine (HIX.out _).mono ?_; rintro e w9 ⟨rfl, b9⟩; have HB9 := Lib.hid (to_ HBE.out b9); clear b9 a0 a1 a2 a3 a4 c0 c1 c2 c3 c4 c5 c6 c7 c8; obtain ⟨c0, c1, c2, c3, c4, c5, c6, c7, c8⟩ := blk9 (HX.out w9 HB9.out); obtain ⟨ad1, e1, _, a0, a1, a2, a3, a4⟩ := HCQ.out w9 HB9.out; injection e1 with e1; subst e1)
              | (go_at_call 148; refine (HOX.out _).mono ?_; rintro e w8 ⟨rfl, rfl⟩))
            go_roundw
            case rel => exact ⟨k + 1, by omega, by go_num, HK, HB9.out⟩
            case measure => simp [intOf]; omega
        · have hz2 : (z == 0) = false := by simp [hz]
          rw [if_pos hz] at HK
          clear hz
          go_wp2_with (go_at_call 147; refine (HIX.out _).mono ?_; rintro e w9 ⟨rfl, b9⟩; have HB9 := Lib.hid (to_ HBE.out b9); clear b9)
          go_ret
          exact ⟨ret_int (by rw [HK.out]), to_ HB0.out HB9.out⟩
      · obtain rfl : k = nC := by omega
        have HV := Lib.hid (show codL cs = 0 from by rw [HO.out, List.drop_eq_nil_of_le (by have := HLN.out; omega)]; rfl)
        clear hbel
        go_wp2_with fail
        go_ret
        exact ⟨ret_int (by rw [HV.out]), to_ HB0.out HBE.out⟩
  · have hy2 : (y == 0) = false := by simp [hy]
    rw [if_pos hy]
    clear hy
    go_enter Tryz.func64, Tryz.ntmps64
    go_wp2_with (go_at_call 146; refine HFC.out.mono ?_; rintro e w2 ⟨rfl, hb2⟩; have HB2 := Lib.hid hb2; clear hb2)
    go_ret
    exact ⟨rfl, to_ HB0.out HB2.out⟩
end Go.Proofs.YtbknmapkdjmcjaaGreatDoor.By

namespace Go.Proofs.YtbknmapkdjmcjaaGreatDoor.By
open Go.RowKit
open Mem Gm Rf
set_option linter.unusedSimpArgs false
set_option linter.unusedVariables false

/-- A kind that is wrong at a place. -/
def kdB (p : Int) (k : Nat) (z : Int) : Bool := nkB z || (decide ((k : Int) < p) && nnB z)
def kdL (p : Int) : Nat → List Int → Bool
  | _, [] => false
  | k, z :: r => kdB p k z || kdL p (k + 1) r
theorem kdL_at {p : Int} {j : Nat} : ∀ {l : List Int} {k : Nat}, k < l.length → kdL p (j + k) (l.drop k) = (kdB p (j + k) (el l k) || kdL p (j + (k + 1)) (l.drop (k + 1))) := by
  intro l k hk
  rw [List.drop_eq_getElem_cons hk, el_at hk]
  rfl
theorem kdL_any (p : Nat) : ∀ (l : List Int) (k : Nat), kdL (p : Int) k l = (l.any nkB || (l.take (p - k)).any nnB)
  | [], k => by simp [kdL]
  | z :: r, k => by
    rw [kdL, kdL_any p r (k + 1), kdB, List.any_cons]
    by_cases h : k < p
    · have e : p - k = (p - (k + 1)) + 1 := by omega
      have hI : decide ((k : Int) < (p : Int)) = true := decide_eq_true (by omega)
      rw [e, List.take_succ_cons, List.any_cons, hI]
      cases nkB z <;> cases nnB z <;> cases r.any nkB <;> simp
    · have e : p - k = 0 := by omega
      have e2 : p - (k + 1) = 0 := by omega
      have hI : decide ((k : Int) < (p : Int)) = false := decide_eq_false (by omega)
      rw [e, e2, hI]
      cases nkB z <;> simp
theorem el_mem {l : List Int} {k : Nat} (h : k < l.length) : el l k ∈ l := by
  rw [← el_at h]
  exact List.getElem_mem h
theorem kind_txt (z : Int) : ((ByteArray.toList (Si.textV z)).isEmpty = nkB z) := by
  rcases Si.eight z with h | h | rfl | rfl | rfl | rfl | rfl | rfl | rfl | rfl | rfl
  · rw [show Si.textV z = ⟨#[]⟩ from by unfold Si.textV; rw [if_neg (by omega)], show nkB z = true from by unfold nkB; simp; omega, ByteArray.toList_eq]; rfl
  · rw [show Si.textV z = ⟨#[]⟩ from by unfold Si.textV; rw [if_neg (by omega)], show nkB z = true from by unfold nkB; simp; omega, ByteArray.toList_eq]; rfl
  all_goals
    rw [ByteArray.toList_eq]
    decide
def slV (x : Fn) : Int := if Si.isC x.k = false then 14 else if 16 < x.ks.length then 6 else if (x.ks.length : Int) < Si.parV x.k then 2 else if kdL (Si.parV x.k) 0 x.ks = true then 8 else 0

set_option maxRecDepth 100000 in
set_option maxHeartbeats 8000000 in
theorem rslots_any (w : World) (AK AL AC AR : Option Addr) (nK cK nL cL nC cC nR cR : Nat) (x : Fn) (hF : FnW w AK nK cK AL nL cL AC nC cC AR nR cR x) (hnn : nK ≤ 1000000 ∧ nL ≤ 1000000 ∧ nC ≤ 1000000 ∧ nR ≤ 1000000) (hB : ∀ z ∈ x.ks, -9223372036854775808 ≤ z ∧ z ≤ 9223372036854775807) :
    Calls Tryz.prog 63 #[.agg #[.int .i64 x.k, .slice AK nK cK, .int .i64 x.pd, .bool x.ns, .int .i64 x.f, .int .i64 x.t, .slice AL nL cL, .slice AC nC cC, .slice AR nR cR]] w (CAns w (slV x)) := by
  obtain ⟨k0, ks, pd, ns, f0, t0, ls, cs, rs⟩ := x
  obtain ⟨hk, hkl, hl, hc, hr⟩ := hF
  dsimp only at hk hkl hl hc hr hB ⊢
  have hll : ls.length = nL := hl.1
  have hcl : cs.length = nC := hc.1
  have hrl : rs.length = nR := hr.1
  obtain ⟨W1, hW1⟩ : ∃ W1, w.alloc (.cells #[.int .i64 k0, .slice AK nK cK, .int .i64 pd, .bool ns, .int .i64 f0, .int .i64 t0, .slice AL nL cL, .slice AC nC cC, .slice AR nR cR] 27) = W1 := ⟨_, rfl⟩
  have hsz1 : w.heap.size < W1.heap.size := by rw [← hW1]; simp
  have HB0 := Lib.hid (show Below w.heap.size w W1 by rw [← hW1]; exact alloc_ _ _)
  have HX := Lib.hid (show ∀ W, Below W1.heap.size W1 W → Blk W w.heap.size 27 #[.int .i64 k0, .slice AK nK cK, .int .i64 pd, .bool ns, .int .i64 f0, .int .i64 t0, .slice AL nL cL, .slice AC nC cC, .slice AR nR cR] from fun W hb => (hb.block _ hsz1).trans (by rw [← hW1]; exact Blk.new w _ _))
  obtain ⟨c0, c1, c2, c3, c4, c5, c6, c7, c8⟩ := blk9 (HX.out W1 (Below.refl _ _))
  have HIS := Lib.hid (fun W => Si.ris_any k0 W)
  have HPA := Lib.hid (fun W => Si.rpar_any k0 W)
  have HPQ := Lib.hid (fun W => (Si.rpar_any k0 W).mono fun e w' hh => (⟨hh.1, hh.2.symm⟩ : e = .returned (.int .i64 (Si.parV k0)) ∧ w' = W))
  have HRT := Lib.hid (fun W k (hk : k < nK) => Si.rtext_any (el ks k) (hB _ (el_mem (by omega))).1 (hB _ (el_mem (by omega))).2 W)
  have HKC := Lib.hid (fun W (hb : Below W1.heap.size W1 W) i (hi : i < nK) => iw_cell (hk.on (to_ HB0.out hb)) hkl hi)
  have HKD := Lib.hid (fun k (hk : k < nK) => kdL_at (p := Si.parV k0) (j := 0) (l := ks) (k := k) (by omega))
  have HLN := Lib.hid hkl
  have hb4 := hnn.1
  unfold slV
  dsimp only
  rw [hkl]
  clear hk hkl hl hc hr hll hcl hrl hsz1 hB
  by_cases h1 : Si.isC k0 = false
  · rw [if_pos h1]
    rw [h1] at HIS
    go_enter Tryz.func63, Tryz.ntmps63
    go_wp2_with (go_at_call 100; refine (HIS.out _).mono ?_; rintro e w9 ⟨rfl, rfl⟩)
    go_ret
    exact ⟨rfl, HB0.out⟩
  · have h1' : Si.isC k0 = true := by simpa using h1
    rw [if_neg h1]
    rw [h1'] at HIS
    by_cases h2 : 16 < nK
    · have h2I : (16 : Int) < (nK : Int) := by omega
      rw [if_pos h2]
      go_enter Tryz.func63, Tryz.ntmps63
      go_wp2_with (go_at_call 100; refine (HIS.out _).mono ?_; rintro e w9 ⟨rfl, rfl⟩)
      go_ret
      exact ⟨rfl, HB0.out⟩
    · have h2I : ¬ (16 : Int) < (nK : Int) := by omega
      rw [if_neg h2]
      generalize Si.parV k0 = p at HPA HPQ HKD ⊢
      by_cases h3 : (nK : Int) < p
      · rw [if_pos h3]
        clear h1 h1'
        go_enter Tryz.func63, Tryz.ntmps63
        go_wp2_with (go_at_call 100; refine (HIS.out _).mono ?_; rintro e w9 ⟨rfl, rfl⟩)
        clear hW1
        go_quiet ((go_at_call 144; exact Calls.quiet_of_same (HPQ.out _)))
        go_wp2_with fail
        go_ret
        exact ⟨rfl, below_drewN HB0.out _⟩
      · rw [if_neg h3]
        clear h1 h1'
        obtain ⟨rr, hrr⟩ : ∃ r : Int, (if kdL p 0 ks = true then (8 : Int) else 0) = r := ⟨_, rfl⟩
        rw [hrr]
        have HRR := Lib.hid hrr
        clear hrr
        go_enter Tryz.func63, Tryz.ntmps63
        go_wp2_with (go_at_call 100; refine (HIS.out _).mono ?_; rintro e w9 ⟨rfl, rfl⟩)
        clear hW1
        go_quiet ((go_at_call 144; exact Calls.quiet_of_same (HPQ.out _)))
        go_wp2_with fail
        go_loopw [3] (fun i wr => ∃ k : Nat, k ≤ nK ∧ i = .int .i64 (k : Int) ∧ Hid (kdL p 0 ks = kdL p (0 + k) (ks.drop k)) ∧ Below W1.heap.size W1 wr) (fun i _ => nK - (intOf i).toNat)
        case atStart => exact ⟨0, Nat.zero_le _, rfl, Lib.hid (by rw [List.drop_zero]), below_drewN (Below.refl _ _) _⟩
        case round =>
          obtain ⟨k, hk, rfl, HO, hbel⟩ := hrel
          have HBE := Lib.hid hbel
          clear c0 c1 c2 c3 c4 c5 c6 c7 c8
          obtain ⟨c0, c1, c2, c3, c4, c5, c6, c7, c8⟩ := blk9 (HX.out wr hbel)
          by_cases hlt : k < nK
          · have hkI : (k : Int) < (nK : Int) := by omega
            obtain ⟨ad, had⟩ : ∃ ad, AK = some ad := (HKC.out wr hbel k hlt).imp fun _ h => h.1
            subst had
            have HCQ := Lib.hid (fun W hb => HKC.out W hb k hlt)
            have HK := Lib.hid (HO.out.trans (HKD.out k hlt))
            have HRX := Lib.hid (fun W => HRT.out W k hlt)
            obtain ⟨z, hz⟩ : ∃ z, el ks k = z := ⟨_, rfl⟩
            rw [hz] at HK HCQ HRX
            obtain ⟨ad1, e1, _, a0⟩ := HCQ.out wr hbel
            injection e1 with e1
            subst e1
            have hem := kind_txt z
            clear hbel hz
            unfold kdB at HK
            rw [Nat.zero_add] at HK
            generalize Si.textV z = y at HRX hem
            by_cases hn : nkB z = true
            · rw [hn, Bool.true_or, Bool.true_or] at HK
              rw [hn] at hem
              go_wp2_with (first
                | (go_at_call 145; refine (HRX.out _).mono ?_; rintro e w9 ⟨rfl, b9⟩; have HB9 := Lib.hid (to_ HBE.out b9); clear b9 a0 c0 c1 c2 c3 c4 c5 c6 c7 c8; obtain ⟨c0, c1, c2, c3, c4, c5, c6, c7, c8⟩ := blk9 (HX.out w9 HB9.out); obtain ⟨ad1, e1, _, a0⟩ := HCQ.out w9 HB9.out; injection e1 with e1; subst e1)
                | (go_at_call 144; refine (HPA.out _).mono ?_; rintro e w8 ⟨rfl, rfl⟩))
              go_ret
              exact ⟨ret_int (by rw [← HRR.out, HK.out, if_pos rfl]), to_ HB0.out HB9.out⟩
            · have hn2 : nkB z = false := by simpa using hn
              rw [hn2, Bool.false_or] at HK
              rw [hn2] at hem
              clear hn hn2
              by_cases hp : (k : Int) < p
              · rw [decide_eq_true hp, Bool.true_and] at HK
                by_cases h0 : z = 0
                · subst h0
                  rw [show nnB 0 = false from rfl, Bool.false_or] at HK
                  go_wp2_with (first
                    | (go_at_call 145; refine (HRX.out _).mono ?_; rintro e w9 ⟨rfl, b9⟩; have HB9 := Lib.hid (to_ HBE.out b9); clear b9 a0 c0 c1 c2 c3 c4 c5 c6 c7 c8; obtain ⟨c0, c1, c2, c3, c4, c5, c6, c7, c8⟩ := blk9 (HX.out w9 HB9.out); obtain ⟨ad1, e1, _, a0⟩ := HCQ.out w9 HB9.out; injection e1 with e1; subst e1)
                    | (go_at_call 144; refine (HPA.out _).mono ?_; rintro e w8 ⟨rfl, rfl⟩))
                  go_roundw
                  case rel => exact ⟨k + 1, by omega, by go_num, HK, HB9.out⟩
                  case measure => simp [intOf]; omega
                · have h02 : (z == 0) = false := by simp [h0]
                  rw [show nnB z = true from by unfold nnB; simp [h0], Bool.true_or] at HK
                  clear h0
                  go_wp2_with (first
                    | (go_at_call 145; refine (HRX.out _).mono ?_; rintro e w9 ⟨rfl, b9⟩; have HB9 := Lib.hid (to_ HBE.out b9); clear b9 a0 c0 c1 c2 c3 c4 c5 c6 c7 c8; obtain ⟨c0, c1, c2, c3, c4, c5, c6, c7, c8⟩ := blk9 (HX.out w9 HB9.out); obtain ⟨ad1, e1, _, a0⟩ := HCQ.out w9 HB9.out; injection e1 with e1; subst e1)
                    | (go_at_call 144; refine (HPA.out _).mono ?_; rintro e w8 ⟨rfl, rfl⟩))
                  go_ret
                  exact ⟨ret_int (by rw [← HRR.out, HK.out, if_pos rfl]), to_ HB0.out HB9.out⟩
              · rw [decide_eq_false hp, Bool.false_and, Bool.false_or] at HK
                go_wp2_with (first
                  | (go_at_call 145; refine (HRX.out _).mono ?_; rintro e w9 ⟨rfl, b9⟩; have HB9 := Lib.hid (to_ HBE.out b9); clear b9 a0 c0 c1 c2 c3 c4 c5 c6 c7 c8; obtain ⟨c0, c1, c2, c3, c4, c5, c6, c7, c8⟩ := blk9 (HX.out w9 HB9.out); obtain ⟨ad1, e1, _, a0⟩ := HCQ.out w9 HB9.out; injection e1 with e1; subst e1)
                  | (go_at_call 144; refine (HPA.out _).mono ?_; rintro e w8 ⟨rfl, rfl⟩))
                go_roundw
                case rel => exact ⟨k + 1, by omega, by go_num, HK, HB9.out⟩
                case measure => simp [intOf]; omega
          · obtain rfl : k = nK := by omega
            have HV := Lib.hid (show kdL p 0 ks = false from by rw [HO.out, List.drop_eq_nil_of_le (by have := HLN.out; omega)]; rfl)
            clear hbel
            go_wp2_with fail
            go_ret
            exact ⟨ret_int (by rw [← HRR.out, HV.out]; rfl), to_ HB0.out HBE.out⟩
end Go.Proofs.YtbknmapkdjmcjaaGreatDoor.By

namespace Go.Proofs.YtbknmapkdjmcjaaGreatDoor.By
open Go.RowKit
open Mem Gm Rf
set_option linter.unusedSimpArgs false
set_option linter.unusedVariables false

def okL (m : Int) (l : List Ln) : Bool := f0B l && (risB m (-1) (l.map fun y => y.1) && !(l.any lnB9))
def okR (m z : Int) (l : List Ln) : Bool := risB m z (l.map fun y => y.1) && !(l.any lnB9)
theorem okR_at {m z : Int} {l : List Ln} {k : Nat} {x : Ln} (h : l[k]? = some x) : okR m z (l.drop k) = ((decide (z < x.1) && decide (x.1 < m)) && (!lnB9 x && okR m x.1 (l.drop (k + 1)))) := by
  have hk := (List.getElem?_eq_some_iff.1 h).1
  have hx := (List.getElem?_eq_some_iff.1 h).2
  unfold okR
  rw [List.drop_eq_getElem_cons hk, hx, List.map_cons, List.any_cons, risB]
  cases decide (z < x.1) <;> cases decide (x.1 < m) <;> cases lnB9 x <;> simp
theorem okL_at {m : Int} {l : List Ln} {x : Ln} (h : l[0]? = some x) : okL m l = (decide (x.1 = 0) && (decide (x.1 < m) && (!lnB9 x && okR m x.1 (l.drop (0 + 1))))) := by
  cases l with
  | nil => simp at h
  | cons a r =>
    have : a = x := by simpa using h
    subst this
    unfold okL okR
    rw [f0B, List.map_cons, risB, List.any_cons, List.drop_succ_cons, List.drop_zero]
    by_cases h0 : a.1 = 0
    · rw [h0]
      cases lnB9 a <;> simp [Bool.and_assoc]
    · rw [decide_eq_false h0]; simp

set_option maxRecDepth 100000 in
set_option maxHeartbeats 8000000 in
theorem rlines_any (w : World) (AK AL AC AR : Option Addr) (nK cK nL cL nC cC nR cR : Nat) (x : Fn) (hF : FnW w AK nK cK AL nL cL AC nC cC AR nR cR x) (hnn : nK ≤ 1000000 ∧ nL ≤ 1000000 ∧ nC ≤ 1000000 ∧ nR ≤ 1000000) :
    Calls Tryz.prog 65 #[.agg #[.int .i64 x.k, .slice AK nK cK, .int .i64 x.pd, .bool x.ns, .int .i64 x.f, .int .i64 x.t, .slice AL nL cL, .slice AC nC cC, .slice AR nR cR]] w (CAns w (lnV9 x)) := by
  obtain ⟨k0, ks, pd, ns, f0, t0, ls, cs, rs⟩ := x
  obtain ⟨hk, hkl, hl, hc, hr⟩ := hF
  dsimp only at hk hkl hl hc hr ⊢
  have hll : ls.length = nL := hl.1
  have hcl : cs.length = nC := hc.1
  have hrl : rs.length = nR := hr.1
  obtain ⟨W1, hW1⟩ : ∃ W1, w.alloc (.cells #[.int .i64 k0, .slice AK nK cK, .int .i64 pd, .bool ns, .int .i64 f0, .int .i64 t0, .slice AL nL cL, .slice AC nC cC, .slice AR nR cR] 27) = W1 := ⟨_, rfl⟩
  have hsz1 : w.heap.size < W1.heap.size := by rw [← hW1]; simp
  have HB0 := Lib.hid (show Below w.heap.size w W1 by rw [← hW1]; exact alloc_ _ _)
  have HX := Lib.hid (show ∀ W, Below W1.heap.size W1 W → Blk W w.heap.size 27 #[.int .i64 k0, .slice AK nK cK, .int .i64 pd, .bool ns, .int .i64 f0, .int .i64 t0, .slice AL nL cL, .slice AC nC cC, .slice AR nR cR] from fun W hb => (hb.block _ hsz1).trans (by rw [← hW1]; exact Blk.new w _ _))
  obtain ⟨c0, c1, c2, c3, c4, c5, c6, c7, c8⟩ := blk9 (HX.out W1 (Below.refl _ _))
  have HCL := Lib.hid (fun W (hb : Below W1.heap.size W1 W) i (hi : i < nL) => (hl.on (to_ HB0.out hb)).at_ hi)
  have HS := Lib.hid (show ∀ k, k < nL → ls[k]? = some (lnAt ls k) from fun k hk => lnAt_some (by omega))
  have HLN := Lib.hid hll
  have hb4 := hnn.2.1
  have HVV := Lib.hid (show lnV9 ⟨k0, ks, pd, ns, f0, t0, ls, cs, rs⟩ = if 16 < nL then 6 else if okL (nC : Int) ls = true then 0 else 9 from by unfold lnV9 okL; dsimp only; rw [hll, hcl])
  rw [HVV.out]
  clear hk hkl hl hc hr hll hcl hrl hsz1 HVV
  by_cases h1 : 16 < nL
  · have h1I : (16 : Int) < (nL : Int) := by omega
    rw [if_pos h1]
    go_enter Tryz.func65, Tryz.ntmps65
    go_wp2_with fail
    go_ret
    exact ⟨rfl, HB0.out⟩
  · have h1I : ¬ (16 : Int) < (nL : Int) := by omega
    rw [if_neg h1]
    obtain ⟨rr, hrr⟩ : ∃ r : Int, (if okL (nC : Int) ls = true then (0 : Int) else 9) = r := ⟨_, rfl⟩
    rw [hrr]
    have HRR := Lib.hid hrr
    clear hrr
    go_enter Tryz.func65, Tryz.ntmps65
    go_wp2_with fail
    clear hW1
    go_loopw [3] (fun i wr => ∃ k : Nat, k ≤ nL ∧ i = .int .i64 (k : Int) ∧ Hid (∀ j : Nat, k = j + 1 → okL (nC : Int) ls = okR (nC : Int) (lnAt ls j).1 (ls.drop (j + 1)) ∧ 0 ≤ (lnAt ls j).1) ∧ Below W1.heap.size W1 wr) (fun i _ => nL - (intOf i).toNat)
    case atStart => exact ⟨0, Nat.zero_le _, rfl, Lib.hid (fun j hj => by omega), Below.refl _ _⟩
    case round =>
      obtain ⟨k, hk, rfl, HO, hbel⟩ := hrel
      have HBE := Lib.hid hbel
      clear c0 c1 c2 c3 c4 c5 c6 c7 c8
      obtain ⟨c0, c1, c2, c3, c4, c5, c6, c7, c8⟩ := blk9 (HX.out wr hbel)
      by_cases hlt : k < nL
      · have hkI : (k : Int) < (nL : Int) := by omega
        cases k with
        | zero =>
          obtain ⟨ad, rfl, _, a0, a1⟩ := HCL.out wr hbel 0 hlt
          have HK := Lib.hid (okL_at (m := (nC : Int)) (HS.out 0 hlt))
          obtain ⟨x, hx⟩ : ∃ x, lnAt ls 0 = x := ⟨_, rfl⟩
          have HX2 := Lib.hid hx
          rw [hx] at HK a0 a1
          clear hx
          obtain ⟨x0, x1⟩ := x
          dsimp only at HK HX2 a0 a1
          have a0' : wr.cell? ad = some (.int .i64 x0) := by have h9 := a0; rw [Nat.zero_mul] at h9; exact h9
          have a1' : wr.cell? ⟨ad.block, ad.off + 1, none⟩ = some (.int .i64 x1) := by have h9 := a1; rw [Nat.zero_mul] at h9; exact h9
          obtain ⟨Wx, hWx⟩ : ∃ Wx, wr.alloc (.cells #[.int .i64 x0, .int .i64 x1] 85) = Wx := ⟨_, rfl⟩
          have HBX := Lib.hid (show Below wr.heap.size wr Wx from by rw [← hWx]; exact alloc_ _ _)
          have hbk : Blk Wx wr.heap.size 85 #[.int .i64 x0, .int .i64 x1] := by rw [← hWx]; exact Blk.new wr _ _
          have HBD := Lib.hid (show Below W1.heap.size W1 Wx.drew from (to_ HBE.out HBX.out).drew)
          have HBKD := Lib.hid (show Blk Wx.drew wr.heap.size 85 #[.int .i64 x0, .int .i64 x1] from hbk)
          clear hbk hbel
          have HH := Lib.hid (show (Wx.drew.cell? ⟨wr.heap.size, 0, none⟩ = some (.int .i64 x0) ∧ Wx.drew.cell? ⟨wr.heap.size, 1, none⟩ = some (.int .i64 x1)) ∧ Wx.drew.cell? ⟨w.heap.size, 6, none⟩ = some (.slice (some ad) nL cL) ∧ Wx.drew.cell? ⟨w.heap.size, 7, none⟩ = some (.slice AC nC cC) from ⟨⟨HBKD.out.cell 0, HBKD.out.cell 1⟩, (HX.out _ HBD.out).cell 6, (HX.out _ HBD.out).cell 7⟩)
          by_cases h1 : x0 = 0
          · subst h1
            by_cases h3 : nC = 0
            · have g3 : decide (nC = 0) = true := decide_eq_true h3
              have h3' : ¬ (0 : Int) < (nC : Int) := by omega
              clear h3
              have HF := Lib.hid (show okL (nC : Int) ls = false from by rw [HK.out]; rw [decide_eq_false h3']; simp)
              have HRV := Lib.hid (show rr = 9 from by rw [← HRR.out, HF.out]; rfl)
              go_wp2_with fail
              refine wp_region_noPanic ?_
              refine wp_region_held_drew (S := fun W => ((W.cell? ⟨wr.heap.size, 0, none⟩ = some (.int .i64 0) ∧ W.cell? ⟨wr.heap.size, 1, none⟩ = some (.int .i64 x1)) ∧ W.cell? ⟨w.heap.size, 6, none⟩ = some (.slice (some ad) nL cL) ∧ W.cell? ⟨w.heap.size, 7, none⟩ = some (.slice AC nC cC))) (by kernel_rfl) (HH.out) (fun hHeld => ?_)
              refine tkb 0 rfl (fun _ _ _ h => h) hHeld ?_
              try simp only [Act.put, nmb]
              refine tkb 1 rfl (fun _ _ _ h => h) hHeld ?_
              try simp only [Act.put, nmb]
              refine tkb 2 rfl (fun _ _ _ h => h) hHeld ?_
              try simp only [Act.put, nmb]
              refine tkb 3 rfl (fun _ _ _ h => h) hHeld ?_
              try simp only [Act.put, nmb]
              refine tkb 4 rfl (fun _ _ _ h => h) hHeld ?_
              try simp only [Act.put, nmb]
              refine tkb 5 rfl (fun _ _ _ h => h) hHeld ?_
              try simp only [Act.put, nmb]
              refine tkb 6 rfl (fun _ _ _ h => h) hHeld ?_
              try simp only [Act.put, nmb]
              refine tkb 7 rfl (fun _ _ _ h => h) hHeld ?_
              try simp only [Act.put, nmb]
              refine tkb 8 rfl (fun _ _ _ h => h) hHeld ?_
              try simp only [Act.put, nmb]
              refine tkb 9 rfl (fun _ _ _ h => h) hHeld ?_
              try simp only [Act.put, nmb]
              refine tkb 10 rfl (fun _ _ _ h => h) hHeld ?_
              try simp only [Act.put, nmb]
              refine tkb 11 rfl (fun _ _ _ h => h) hHeld ?_
              try simp only [Act.put, nmb]
              refine tkb 12 rfl (fun _ _ _ h => h) hHeld ?_
              try simp only [Act.put, nmb]
              refine tkb 13 rfl (fun _ _ _ h => h) hHeld ?_
              try simp only [Act.put, nmb]
              refine tkb 14 rfl (fun _ _ _ h => h) hHeld ?_
              try simp only [Act.put, nmb]
              refine tkb 15 rfl (fun _ _ _ h => h) hHeld ?_
              try simp only [Act.put, nmb]
              refine tkb 16 rfl (fun _ _ _ h => h) hHeld ?_
              try simp only [Act.put, nmb]
              refine tkb 17 rfl (fun _ _ _ h => h) hHeld ?_
              try simp only [Act.put, nmb]
              refine tkb 18 rfl (fun _ _ _ h => h) hHeld ?_
              try simp only [Act.put, nmb]
              refine tkb 19 rfl (fun _ _ _ h => h) hHeld ?_
              try simp only [Act.put, nmb]
              refine tkb 20 rfl (fun _ _ _ h => h) hHeld ?_
              try simp only [Act.put, nmb]
              refine wpAnyH_take (i := 21) rfl (by kernel_rfl) (by kernel_rfl) (by kernel_rfl) (fun _ _ _ h => h) (Or.inr ⟨by rfl, rfl⟩) hHeld ?_
              try simp only [Act.put, nmb]
              refine wpAnyH_take (i := 22) rfl (by kernel_rfl) (by kernel_rfl) (by kernel_rfl) (fun _ _ _ h => h) (Or.inr ⟨by rfl, rfl⟩) hHeld ?_
              try simp only [Act.put, nmb]
              refine wpAnyH_take (i := 23) rfl (by kernel_rfl) (by kernel_rfl) (by kernel_rfl) (fun _ _ _ h => h) (Or.inr ⟨by rfl, rfl⟩) hHeld ?_
              try simp only [Act.put, nmb]
              refine wpAnyH_take (i := 24) rfl (by kernel_rfl) (by kernel_rfl) (by kernel_rfl) (fun _ _ _ h => h) (Or.inr ⟨by rfl, rfl⟩) hHeld ?_
              try simp only [Act.put, nmb]
              refine wpAnyH_take (i := 25) rfl (by kernel_rfl) (by kernel_rfl) (by kernel_rfl) (fun _ _ _ h => h) (Or.inr ⟨by rfl, rfl⟩) hHeld ?_
              try simp only [Act.put, nmb]
              refine wpAnyH_take (i := 26) rfl (by kernel_rfl) (by kernel_rfl) (by kernel_rfl) (fun _ _ _ h => h) (Or.inr ⟨by rfl, rfl⟩) hHeld ?_
              try simp only [Act.put, nmb]
              refine wpAnyH_take (i := 27) rfl (by kernel_rfl) (by kernel_rfl) (by kernel_rfl) (fun _ _ _ h => h) (Or.inr ⟨by rfl, rfl⟩) hHeld ?_
              try simp only [Act.put, nmb]
              refine wpAnyH_take (i := 28) rfl (by kernel_rfl) (by kernel_rfl) (by kernel_rfl) (fun _ _ _ h => h) (Or.inr ⟨by rfl, rfl⟩) hHeld ?_
              try simp only [Act.put, nmb]
              refine wpAnyH_take (i := 29) rfl (by kernel_rfl) (by kernel_rfl) (by kernel_rfl) (fun _ _ _ h => h) (Or.inr ⟨by rfl, rfl⟩) hHeld ?_
              try simp only [Act.put, nmb]
              refine wpAnyH_take (i := 30) rfl (by kernel_rfl) (by kernel_rfl) (by kernel_rfl) (fun _ _ _ h => h) (Or.inr ⟨by rfl, rfl⟩) hHeld ?_
              try simp only [Act.put, nmb]
              refine wpAnyH_take (i := 31) rfl (by kernel_rfl) (by kernel_rfl) (by kernel_rfl) (fun _ _ _ h => h) (Or.inr ⟨by rfl, rfl⟩) hHeld ?_
              try simp only [Act.put, nmb]
              refine wpAnyH_take (i := 32) rfl (by kernel_rfl) (by kernel_rfl) (by kernel_rfl) (fun _ _ _ h => h) (Or.inr ⟨by rfl, rfl⟩) hHeld ?_
              try simp only [Act.put, nmb]
              refine wpAnyH_take (i := 33) rfl (by kernel_rfl) (by kernel_rfl) (by kernel_rfl) (fun _ _ _ h => h) (Or.inr ⟨by rfl, rfl⟩) hHeld ?_
              try simp only [Act.put, nmb]
              refine wpAnyH_take (i := 34) rfl (by kernel_rfl) (by kernel_rfl) (by kernel_rfl) (fun _ _ _ h => h) (Or.inr ⟨by rfl, rfl⟩) hHeld ?_
              try simp only [Act.put, nmb]
              refine tkb 35 rfl (fun _ _ _ h => h) hHeld ?_
              try simp only [Act.put, nmb]
              refine tkb 36 rfl (fun _ _ _ h => h) hHeld ?_
              try simp only [Act.put, nmb]
              refine wpAnyH_take (i := 37) rfl (by kernel_rfl) (by kernel_rfl) (by kernel_rfl) (fun _ _ _ h => h) (Or.inr ⟨by rfl, rfl⟩) hHeld ?_
              try simp only [Act.put, nmb]
              refine wpAnyH_take (i := 38) rfl (by kernel_rfl) (by kernel_rfl) (by kernel_rfl) (fun _ _ _ h => h) (Or.inr ⟨by rfl, rfl⟩) hHeld ?_
              try simp only [Act.put, nmb]
              refine wpAnyH_take (i := 39) rfl (by kernel_rfl) (by kernel_rfl) (by kernel_rfl) (fun _ _ _ h => h) (Or.inr ⟨by rfl, rfl⟩) hHeld ?_
              try simp only [Act.put, nmb]
              refine tkb 40 rfl (fun _ _ _ h => h) hHeld ?_
              try simp only [Act.put, nmb]
              refine tkb 41 rfl (fun _ _ _ h => h) hHeld ?_
              try simp only [Act.put, nmb]
              refine wpAnyH_take (i := 42) rfl (by kernel_rfl) (by kernel_rfl) (by kernel_rfl) (fun _ _ _ h => h) (Or.inr ⟨by rfl, rfl⟩) hHeld ?_
              try simp only [Act.put, nmb]
              refine wpAnyH_take (i := 43) rfl (by kernel_rfl) (by kernel_rfl) (by kernel_rfl) (fun _ _ _ h => h) (Or.inr ⟨by rfl, rfl⟩) hHeld ?_
              try simp only [Act.put, nmb]
              refine wpAnyH_take (i := 44) rfl (by kernel_rfl) (by kernel_rfl) (by kernel_rfl) (fun _ _ _ h => h) (Or.inr ⟨by rfl, rfl⟩) hHeld ?_
              try simp only [Act.put, nmb]
              refine tkb 45 rfl (fun _ _ _ h => h) hHeld ?_
              try simp only [Act.put, nmb]
              refine wpAnyH_done (by kernel_rfl) ?_ _
              refine NoPanic.normal ?_
              go_wp2_with fail
              go_ret
              exact ⟨ret_int (by rw [HRV.out]), to_ HB0.out HBD.out⟩
            · have g3 : decide (nC = 0) = false := decide_eq_false h3
              have h3' : (0 : Int) < (nC : Int) := by omega
              clear h3
              by_cases h5 : x1 < 0
              · have g5 : decide (x1 < 0) = true := decide_eq_true h5
                have hl5 : lnB9 (0, x1) = true := by unfold lnB9 frB; rw [decide_eq_false (show ¬ (0 : Int) ≤ x1 by omega)]; rfl
                have HF := Lib.hid (show okL (nC : Int) ls = false from by rw [HK.out]; rw [hl5]; simp)
                have HRV := Lib.hid (show rr = 9 from by rw [← HRR.out, HF.out]; rfl)
                go_wp2_with fail
                refine wp_region_noPanic ?_
                refine wp_region_held_drew (S := fun W => ((W.cell? ⟨wr.heap.size, 0, none⟩ = some (.int .i64 0) ∧ W.cell? ⟨wr.heap.size, 1, none⟩ = some (.int .i64 x1)) ∧ W.cell? ⟨w.heap.size, 6, none⟩ = some (.slice (some ad) nL cL) ∧ W.cell? ⟨w.heap.size, 7, none⟩ = some (.slice AC nC cC))) (by kernel_rfl) (HH.out) (fun hHeld => ?_)
                refine tkb 0 rfl (fun _ _ _ h => h) hHeld ?_
                try simp only [Act.put, nmb]
                refine tkb 1 rfl (fun _ _ _ h => h) hHeld ?_
                try simp only [Act.put, nmb]
                refine tkb 2 rfl (fun _ _ _ h => h) hHeld ?_
                try simp only [Act.put, nmb]
                refine tkb 3 rfl (fun _ _ _ h => h) hHeld ?_
                try simp only [Act.put, nmb]
                refine tkb 4 rfl (fun _ _ _ h => h) hHeld ?_
                try simp only [Act.put, nmb]
                refine tkb 5 rfl (fun _ _ _ h => h) hHeld ?_
                try simp only [Act.put, nmb]
                refine tkb 6 rfl (fun _ _ _ h => h) hHeld ?_
                try simp only [Act.put, nmb]
                refine tkb 7 rfl (fun _ _ _ h => h) hHeld ?_
                try simp only [Act.put, nmb]
                refine tkb 8 rfl (fun _ _ _ h => h) hHeld ?_
                try simp only [Act.put, nmb]
                refine tkb 9 rfl (fun _ _ _ h => h) hHeld ?_
                try simp only [Act.put, nmb]
                refine tkb 10 rfl (fun _ _ _ h => h) hHeld ?_
                try simp only [Act.put, nmb]
                refine tkb 11 rfl (fun _ _ _ h => h) hHeld ?_
                try simp only [Act.put, nmb]
                refine tkb 12 rfl (fun _ _ _ h => h) hHeld ?_
                try simp only [Act.put, nmb]
                refine tkb 13 rfl (fun _ _ _ h => h) hHeld ?_
                try simp only [Act.put, nmb]
                refine tkb 14 rfl (fun _ _ _ h => h) hHeld ?_
                try simp only [Act.put, nmb]
                refine tkb 15 rfl (fun _ _ _ h => h) hHeld ?_
                try simp only [Act.put, nmb]
                refine tkb 16 rfl (fun _ _ _ h => h) hHeld ?_
                try simp only [Act.put, nmb]
                refine tkb 17 rfl (fun _ _ _ h => h) hHeld ?_
                try simp only [Act.put, nmb]
                refine tkb 18 rfl (fun _ _ _ h => h) hHeld ?_
                try simp only [Act.put, nmb]
                refine tkb 19 rfl (fun _ _ _ h => h) hHeld ?_
                try simp only [Act.put, nmb]
                refine tkb 20 rfl (fun _ _ _ h => h) hHeld ?_
                try simp only [Act.put, nmb]
                refine tkb 21 rfl (fun _ _ _ h => h) hHeld ?_
                try simp only [Act.put, nmb]
                refine tkb 22 rfl (fun _ _ _ h => h) hHeld ?_
                try simp only [Act.put, nmb]
                refine tkb 23 rfl (fun _ _ _ h => h) hHeld ?_
                try simp only [Act.put, nmb]
                refine wpAnyH_take (i := 24) rfl (by kernel_rfl) (by kernel_rfl) (by kernel_rfl) (fun _ _ _ h => h) (Or.inr ⟨by rfl, rfl⟩) hHeld ?_
                try simp only [Act.put, nmb]
                refine wpAnyH_take (i := 25) rfl (by kernel_rfl) (by kernel_rfl) (by kernel_rfl) (fun _ _ _ h => h) (Or.inr ⟨by rfl, rfl⟩) hHeld ?_
                try simp only [Act.put, nmb]
                refine wpAnyH_take (i := 26) rfl (by kernel_rfl) (by kernel_rfl) (by kernel_rfl) (fun _ _ _ h => h) (Or.inr ⟨by rfl, rfl⟩) hHeld ?_
                try simp only [Act.put, nmb]
                refine wpAnyH_take (i := 27) rfl (by kernel_rfl) (by kernel_rfl) (by kernel_rfl) (fun _ _ _ h => h) (Or.inr ⟨by rfl, rfl⟩) hHeld ?_
                try simp only [Act.put, nmb]
                refine wpAnyH_take (i := 28) rfl (by kernel_rfl) (by kernel_rfl) (by kernel_rfl) (fun _ _ _ h => h) (Or.inr ⟨by rfl, rfl⟩) hHeld ?_
                try simp only [Act.put, nmb]
                refine wpAnyH_take (i := 29) rfl (by kernel_rfl) (by kernel_rfl) (by kernel_rfl) (fun _ _ _ h => h) (Or.inr ⟨by rfl, rfl⟩) hHeld ?_
                try simp only [Act.put, nmb]
                refine wpAnyH_take (i := 30) rfl (by kernel_rfl) (by kernel_rfl) (by kernel_rfl) (fun _ _ _ h => h) (Or.inr ⟨by rfl, rfl⟩) hHeld ?_
                try simp only [Act.put, nmb]
                refine wpAnyH_take (i := 31) rfl (by kernel_rfl) (by kernel_rfl) (by kernel_rfl) (fun _ _ _ h => h) (Or.inr ⟨by rfl, rfl⟩) hHeld ?_
                try simp only [Act.put, nmb]
                refine wpAnyH_take (i := 32) rfl (by kernel_rfl) (by kernel_rfl) (by kernel_rfl) (fun _ _ _ h => h) (Or.inr ⟨by rfl, rfl⟩) hHeld ?_
                try simp only [Act.put, nmb]
                refine wpAnyH_take (i := 33) rfl (by kernel_rfl) (by kernel_rfl) (by kernel_rfl) (fun _ _ _ h => h) (Or.inr ⟨by rfl, rfl⟩) hHeld ?_
                try simp only [Act.put, nmb]
                refine tkb 34 rfl (fun _ _ _ h => h) hHeld ?_
                try simp only [Act.put, nmb]
                refine tkb 35 rfl (fun _ _ _ h => h) hHeld ?_
                try simp only [Act.put, nmb]
                refine tkb 36 rfl (fun _ _ _ h => h) hHeld ?_
                try simp only [Act.put, nmb]
                refine tkb 37 rfl (fun _ _ _ h => h) hHeld ?_
                try simp only [Act.put, nmb]
                refine tkb 38 rfl (fun _ _ _ h => h) hHeld ?_
                try simp only [Act.put, nmb]
                refine tkb 39 rfl (fun _ _ _ h => h) hHeld ?_
                try simp only [Act.put, nmb]
                refine tkb 40 rfl (fun _ _ _ h => h) hHeld ?_
                try simp only [Act.put, nmb]
                refine tkb 41 rfl (fun _ _ _ h => h) hHeld ?_
                try simp only [Act.put, nmb]
                refine wpAnyH_take (i := 42) rfl (by kernel_rfl) (by kernel_rfl) (by kernel_rfl) (fun _ _ _ h => h) (Or.inr ⟨by rfl, rfl⟩) hHeld ?_
                try simp only [Act.put, nmb]
                refine wpAnyH_take (i := 43) rfl (by kernel_rfl) (by kernel_rfl) (by kernel_rfl) (fun _ _ _ h => h) (Or.inr ⟨by rfl, rfl⟩) hHeld ?_
                try simp only [Act.put, nmb]
                refine wpAnyH_take (i := 44) rfl (by kernel_rfl) (by kernel_rfl) (by kernel_rfl) (fun _ _ _ h => h) (Or.inr ⟨by rfl, rfl⟩) hHeld ?_
                try simp only [Act.put, nmb]
                refine tkb 45 rfl (fun _ _ _ h => h) hHeld ?_
                try simp only [Act.put, nmb]
                refine wpAnyH_done (by kernel_rfl) ?_ _
                refine NoPanic.normal ?_
                go_wp2_with fail
                go_ret
                exact ⟨ret_int (by rw [HRV.out]), to_ HB0.out HBD.out⟩
              · have g5 : decide (x1 < 0) = false := decide_eq_false h5
                by_cases h6 : (65535 : Int) < x1
                · have g6 : decide ((65535 : Int) < x1) = true := decide_eq_true h6
                  have hl6 : lnB9 (0, x1) = true := by unfold lnB9 frB; rw [decide_eq_false (show ¬ x1 ≤ (65535 : Int) by omega)]; simp
                  have HF := Lib.hid (show okL (nC : Int) ls = false from by rw [HK.out]; rw [hl6]; simp)
                  have HRV := Lib.hid (show rr = 9 from by rw [← HRR.out, HF.out]; rfl)
                  go_wp2_with fail
                  refine wp_region_noPanic ?_
                  refine wp_region_held_drew (S := fun W => ((W.cell? ⟨wr.heap.size, 0, none⟩ = some (.int .i64 0) ∧ W.cell? ⟨wr.heap.size, 1, none⟩ = some (.int .i64 x1)) ∧ W.cell? ⟨w.heap.size, 6, none⟩ = some (.slice (some ad) nL cL) ∧ W.cell? ⟨w.heap.size, 7, none⟩ = some (.slice AC nC cC))) (by kernel_rfl) (HH.out) (fun hHeld => ?_)
                  refine tkb 0 rfl (fun _ _ _ h => h) hHeld ?_
                  try simp only [Act.put, nmb]
                  refine tkb 1 rfl (fun _ _ _ h => h) hHeld ?_
                  try simp only [Act.put, nmb]
                  refine tkb 2 rfl (fun _ _ _ h => h) hHeld ?_
                  try simp only [Act.put, nmb]
                  refine tkb 3 rfl (fun _ _ _ h => h) hHeld ?_
                  try simp only [Act.put, nmb]
                  refine tkb 4 rfl (fun _ _ _ h => h) hHeld ?_
                  try simp only [Act.put, nmb]
                  refine tkb 5 rfl (fun _ _ _ h => h) hHeld ?_
                  try simp only [Act.put, nmb]
                  refine tkb 6 rfl (fun _ _ _ h => h) hHeld ?_
                  try simp only [Act.put, nmb]
                  refine tkb 7 rfl (fun _ _ _ h => h) hHeld ?_
                  try simp only [Act.put, nmb]
                  refine tkb 8 rfl (fun _ _ _ h => h) hHeld ?_
                  try simp only [Act.put, nmb]
                  refine tkb 9 rfl (fun _ _ _ h => h) hHeld ?_
                  try simp only [Act.put, nmb]
                  refine tkb 10 rfl (fun _ _ _ h => h) hHeld ?_
                  try simp only [Act.put, nmb]
                  refine tkb 11 rfl (fun _ _ _ h => h) hHeld ?_
                  try simp only [Act.put, nmb]
                  refine tkb 12 rfl (fun _ _ _ h => h) hHeld ?_
                  try simp only [Act.put, nmb]
                  refine tkb 13 rfl (fun _ _ _ h => h) hHeld ?_
                  try simp only [Act.put, nmb]
                  refine tkb 14 rfl (fun _ _ _ h => h) hHeld ?_
                  try simp only [Act.put, nmb]
                  refine tkb 15 rfl (fun _ _ _ h => h) hHeld ?_
                  try simp only [Act.put, nmb]
                  refine tkb 16 rfl (fun _ _ _ h => h) hHeld ?_
                  try simp only [Act.put, nmb]
                  refine tkb 17 rfl (fun _ _ _ h => h) hHeld ?_
                  try simp only [Act.put, nmb]
                  refine tkb 18 rfl (fun _ _ _ h => h) hHeld ?_
                  try simp only [Act.put, nmb]
                  refine tkb 19 rfl (fun _ _ _ h => h) hHeld ?_
                  try simp only [Act.put, nmb]
                  refine tkb 20 rfl (fun _ _ _ h => h) hHeld ?_
                  try simp only [Act.put, nmb]
                  refine tkb 21 rfl (fun _ _ _ h => h) hHeld ?_
                  try simp only [Act.put, nmb]
                  refine tkb 22 rfl (fun _ _ _ h => h) hHeld ?_
                  try simp only [Act.put, nmb]
                  refine tkb 23 rfl (fun _ _ _ h => h) hHeld ?_
                  try simp only [Act.put, nmb]
                  refine wpAnyH_take (i := 24) rfl (by kernel_rfl) (by kernel_rfl) (by kernel_rfl) (fun _ _ _ h => h) (Or.inr ⟨by rfl, rfl⟩) hHeld ?_
                  try simp only [Act.put, nmb]
                  refine wpAnyH_take (i := 25) rfl (by kernel_rfl) (by kernel_rfl) (by kernel_rfl) (fun _ _ _ h => h) (Or.inr ⟨by rfl, rfl⟩) hHeld ?_
                  try simp only [Act.put, nmb]
                  refine wpAnyH_take (i := 26) rfl (by kernel_rfl) (by kernel_rfl) (by kernel_rfl) (fun _ _ _ h => h) (Or.inr ⟨by rfl, rfl⟩) hHeld ?_
                  try simp only [Act.put, nmb]
                  refine wpAnyH_take (i := 27) rfl (by kernel_rfl) (by kernel_rfl) (by kernel_rfl) (fun _ _ _ h => h) (Or.inr ⟨by rfl, rfl⟩) hHeld ?_
                  try simp only [Act.put, nmb]
                  refine wpAnyH_take (i := 28) rfl (by kernel_rfl) (by kernel_rfl) (by kernel_rfl) (fun _ _ _ h => h) (Or.inr ⟨by rfl, rfl⟩) hHeld ?_
                  try simp only [Act.put, nmb]
                  refine wpAnyH_take (i := 29) rfl (by kernel_rfl) (by kernel_rfl) (by kernel_rfl) (fun _ _ _ h => h) (Or.inr ⟨by rfl, rfl⟩) hHeld ?_
                  try simp only [Act.put, nmb]
                  refine wpAnyH_take (i := 30) rfl (by kernel_rfl) (by kernel_rfl) (by kernel_rfl) (fun _ _ _ h => h) (Or.inr ⟨by rfl, rfl⟩) hHeld ?_
                  try simp only [Act.put, nmb]
                  refine wpAnyH_take (i := 31) rfl (by kernel_rfl) (by kernel_rfl) (by kernel_rfl) (fun _ _ _ h => h) (Or.inr ⟨by rfl, rfl⟩) hHeld ?_
                  try simp only [Act.put, nmb]
                  refine wpAnyH_take (i := 32) rfl (by kernel_rfl) (by kernel_rfl) (by kernel_rfl) (fun _ _ _ h => h) (Or.inr ⟨by rfl, rfl⟩) hHeld ?_
                  try simp only [Act.put, nmb]
                  refine wpAnyH_take (i := 33) rfl (by kernel_rfl) (by kernel_rfl) (by kernel_rfl) (fun _ _ _ h => h) (Or.inr ⟨by rfl, rfl⟩) hHeld ?_
                  try simp only [Act.put, nmb]
                  refine tkb 34 rfl (fun _ _ _ h => h) hHeld ?_
                  try simp only [Act.put, nmb]
                  refine tkb 35 rfl (fun _ _ _ h => h) hHeld ?_
                  try simp only [Act.put, nmb]
                  refine tkb 36 rfl (fun _ _ _ h => h) hHeld ?_
                  try simp only [Act.put, nmb]
                  refine tkb 37 rfl (fun _ _ _ h => h) hHeld ?_
                  try simp only [Act.put, nmb]
                  refine tkb 38 rfl (fun _ _ _ h => h) hHeld ?_
                  try simp only [Act.put, nmb]
                  refine tkb 39 rfl (fun _ _ _ h => h) hHeld ?_
                  try simp only [Act.put, nmb]
                  refine tkb 40 rfl (fun _ _ _ h => h) hHeld ?_
                  try simp only [Act.put, nmb]
                  refine tkb 41 rfl (fun _ _ _ h => h) hHeld ?_
                  try simp only [Act.put, nmb]
                  refine tkb 42 rfl (fun _ _ _ h => h) hHeld ?_
                  try simp only [Act.put, nmb]
                  refine tkb 43 rfl (fun _ _ _ h => h) hHeld ?_
                  try simp only [Act.put, nmb]
                  refine tkb 44 rfl (fun _ _ _ h => h) hHeld ?_
                  try simp only [Act.put, nmb]
                  refine tkb 45 rfl (fun _ _ _ h => h) hHeld ?_
                  try simp only [Act.put, nmb]
                  refine wpAnyH_done (by kernel_rfl) ?_ _
                  refine NoPanic.normal ?_
                  go_wp2_with fail
                  go_ret
                  exact ⟨ret_int (by rw [HRV.out]), to_ HB0.out HBD.out⟩
                · have g6 : decide ((65535 : Int) < x1) = false := decide_eq_false h6
                  have hl7 : lnB9 (0, x1) = false := by unfold lnB9 frB; rw [decide_eq_true (show (0 : Int) ≤ x1 by omega), decide_eq_true (show x1 ≤ (65535 : Int) by omega)]; rfl
                  have HF := Lib.hid (show okL (nC : Int) ls = okR (nC : Int) 0 (ls.drop (0 + 1)) from by rw [HK.out]; rw [hl7, decide_eq_true h3']; simp)
                  go_wp2_with fail
                  refine wp_region_noPanic ?_
                  refine wp_region_held_drew (S := fun W => ((W.cell? ⟨wr.heap.size, 0, none⟩ = some (.int .i64 0) ∧ W.cell? ⟨wr.heap.size, 1, none⟩ = some (.int .i64 x1)) ∧ W.cell? ⟨w.heap.size, 6, none⟩ = some (.slice (some ad) nL cL) ∧ W.cell? ⟨w.heap.size, 7, none⟩ = some (.slice AC nC cC))) (by kernel_rfl) (HH.out) (fun hHeld => ?_)
                  refine tkb 0 rfl (fun _ _ _ h => h) hHeld ?_
                  try simp only [Act.put, nmb]
                  refine tkb 1 rfl (fun _ _ _ h => h) hHeld ?_
                  try simp only [Act.put, nmb]
                  refine tkb 2 rfl (fun _ _ _ h => h) hHeld ?_
                  try simp only [Act.put, nmb]
                  refine tkb 3 rfl (fun _ _ _ h => h) hHeld ?_
                  try simp only [Act.put, nmb]
                  refine tkb 4 rfl (fun _ _ _ h => h) hHeld ?_
                  try simp only [Act.put, nmb]
                  refine tkb 5 rfl (fun _ _ _ h => h) hHeld ?_
                  try simp only [Act.put, nmb]
                  refine tkb 6 rfl (fun _ _ _ h => h) hHeld ?_
                  try simp only [Act.put, nmb]
                  refine tkb 7 rfl (fun _ _ _ h => h) hHeld ?_
                  try simp only [Act.put, nmb]
                  refine tkb 8 rfl (fun _ _ _ h => h) hHeld ?_
                  try simp only [Act.put, nmb]
                  refine tkb 9 rfl (fun _ _ _ h => h) hHeld ?_
                  try simp only [Act.put, nmb]
                  refine tkb 10 rfl (fun _ _ _ h => h) hHeld ?_
                  try simp only [Act.put, nmb]
                  refine tkb 11 rfl (fun _ _ _ h => h) hHeld ?_
                  try simp only [Act.put, nmb]
                  refine tkb 12 rfl (fun _ _ _ h => h) hHeld ?_
                  try simp only [Act.put, nmb]
                  refine tkb 13 rfl (fun _ _ _ h => h) hHeld ?_
                  try simp only [Act.put, nmb]
                  refine tkb 14 rfl (fun _ _ _ h => h) hHeld ?_
                  try simp only [Act.put, nmb]
                  refine tkb 15 rfl (fun _ _ _ h => h) hHeld ?_
                  try simp only [Act.put, nmb]
                  refine tkb 16 rfl (fun _ _ _ h => h) hHeld ?_
                  try simp only [Act.put, nmb]
                  refine tkb 17 rfl (fun _ _ _ h => h) hHeld ?_
                  try simp only [Act.put, nmb]
                  refine tkb 18 rfl (fun _ _ _ h => h) hHeld ?_
                  try simp only [Act.put, nmb]
                  refine tkb 19 rfl (fun _ _ _ h => h) hHeld ?_
                  try simp only [Act.put, nmb]
                  refine tkb 20 rfl (fun _ _ _ h => h) hHeld ?_
                  try simp only [Act.put, nmb]
                  refine tkb 21 rfl (fun _ _ _ h => h) hHeld ?_
                  try simp only [Act.put, nmb]
                  refine tkb 22 rfl (fun _ _ _ h => h) hHeld ?_
                  try simp only [Act.put, nmb]
                  refine tkb 23 rfl (fun _ _ _ h => h) hHeld ?_
                  try simp only [Act.put, nmb]
                  refine wpAnyH_take (i := 24) rfl (by kernel_rfl) (by kernel_rfl) (by kernel_rfl) (fun _ _ _ h => h) (Or.inr ⟨by rfl, rfl⟩) hHeld ?_
                  try simp only [Act.put, nmb]
                  refine wpAnyH_take (i := 25) rfl (by kernel_rfl) (by kernel_rfl) (by kernel_rfl) (fun _ _ _ h => h) (Or.inr ⟨by rfl, rfl⟩) hHeld ?_
                  try simp only [Act.put, nmb]
                  refine wpAnyH_take (i := 26) rfl (by kernel_rfl) (by kernel_rfl) (by kernel_rfl) (fun _ _ _ h => h) (Or.inr ⟨by rfl, rfl⟩) hHeld ?_
                  try simp only [Act.put, nmb]
                  refine wpAnyH_take (i := 27) rfl (by kernel_rfl) (by kernel_rfl) (by kernel_rfl) (fun _ _ _ h => h) (Or.inr ⟨by rfl, rfl⟩) hHeld ?_
                  try simp only [Act.put, nmb]
                  refine wpAnyH_take (i := 28) rfl (by kernel_rfl) (by kernel_rfl) (by kernel_rfl) (fun _ _ _ h => h) (Or.inr ⟨by rfl, rfl⟩) hHeld ?_
                  try simp only [Act.put, nmb]
                  refine wpAnyH_take (i := 29) rfl (by kernel_rfl) (by kernel_rfl) (by kernel_rfl) (fun _ _ _ h => h) (Or.inr ⟨by rfl, rfl⟩) hHeld ?_
                  try simp only [Act.put, nmb]
                  refine wpAnyH_take (i := 30) rfl (by kernel_rfl) (by kernel_rfl) (by kernel_rfl) (fun _ _ _ h => h) (Or.inr ⟨by rfl, rfl⟩) hHeld ?_
                  try simp only [Act.put, nmb]
                  refine wpAnyH_take (i := 31) rfl (by kernel_rfl) (by kernel_rfl) (by kernel_rfl) (fun _ _ _ h => h) (Or.inr ⟨by rfl, rfl⟩) hHeld ?_
                  try simp only [Act.put, nmb]
                  refine wpAnyH_take (i := 32) rfl (by kernel_rfl) (by kernel_rfl) (by kernel_rfl) (fun _ _ _ h => h) (Or.inr ⟨by rfl, rfl⟩) hHeld ?_
                  try simp only [Act.put, nmb]
                  refine wpAnyH_take (i := 33) rfl (by kernel_rfl) (by kernel_rfl) (by kernel_rfl) (fun _ _ _ h => h) (Or.inr ⟨by rfl, rfl⟩) hHeld ?_
                  try simp only [Act.put, nmb]
                  refine tkb 34 rfl (fun _ _ _ h => h) hHeld ?_
                  try simp only [Act.put, nmb]
                  refine tkb 35 rfl (fun _ _ _ h => h) hHeld ?_
                  try simp only [Act.put, nmb]
                  refine tkb 36 rfl (fun _ _ _ h => h) hHeld ?_
                  try simp only [Act.put, nmb]
                  refine tkb 37 rfl (fun _ _ _ h => h) hHeld ?_
                  try simp only [Act.put, nmb]
                  refine tkb 38 rfl (fun _ _ _ h => h) hHeld ?_
                  try simp only [Act.put, nmb]
                  refine tkb 39 rfl (fun _ _ _ h => h) hHeld ?_
                  try simp only [Act.put, nmb]
                  refine tkb 40 rfl (fun _ _ _ h => h) hHeld ?_
                  try simp only [Act.put, nmb]
                  refine tkb 41 rfl (fun _ _ _ h => h) hHeld ?_
                  try simp only [Act.put, nmb]
                  refine tkb 42 rfl (fun _ _ _ h => h) hHeld ?_
                  try simp only [Act.put, nmb]
                  refine tkb 43 rfl (fun _ _ _ h => h) hHeld ?_
                  try simp only [Act.put, nmb]
                  refine tkb 44 rfl (fun _ _ _ h => h) hHeld ?_
                  try simp only [Act.put, nmb]
                  refine tkb 45 rfl (fun _ _ _ h => h) hHeld ?_
                  try simp only [Act.put, nmb]
                  refine wpAnyH_done (by kernel_rfl) ?_ _
                  refine NoPanic.normal ?_
                  go_wp2_with fail
                  go_roundw
                  case rel => exact ⟨0 + 1, by omega, by go_num, Lib.hid (fun j hj => by
                    have hj2 : j = 0 := by omega
                    subst hj2
                    rw [HX2.out]
                    exact ⟨HF.out, by dsimp only; omega⟩), HBD.out⟩
                  case measure => simp [intOf]; omega
          · have g1 : (x0 == 0) = false := by simpa using h1
            have g1' : (x0 != 0) = true := by simpa using h1
            have HF := Lib.hid (show okL (nC : Int) ls = false from by rw [HK.out]; rw [decide_eq_false h1]; rfl)
            have HRV := Lib.hid (show rr = 9 from by rw [← HRR.out, HF.out]; rfl)
            go_wp2_with fail
            refine wp_region_noPanic ?_
            refine wp_region_held_drew (S := fun W => ((W.cell? ⟨wr.heap.size, 0, none⟩ = some (.int .i64 x0) ∧ W.cell? ⟨wr.heap.size, 1, none⟩ = some (.int .i64 x1)) ∧ W.cell? ⟨w.heap.size, 6, none⟩ = some (.slice (some ad) nL cL) ∧ W.cell? ⟨w.heap.size, 7, none⟩ = some (.slice AC nC cC))) (by kernel_rfl) (HH.out) (fun hHeld => ?_)
            refine tkb 0 rfl (fun _ _ _ h => h) hHeld ?_
            try simp only [Act.put, nmb]
            refine tkb 1 rfl (fun _ _ _ h => h) hHeld ?_
            try simp only [Act.put, nmb]
            refine tkb 2 rfl (fun _ _ _ h => h) hHeld ?_
            try simp only [Act.put, nmb]
            refine tkb 3 rfl (fun _ _ _ h => h) hHeld ?_
            try simp only [Act.put, nmb]
            refine tkb 4 rfl (fun _ _ _ h => h) hHeld ?_
            try simp only [Act.put, nmb]
            refine tkb 5 rfl (fun _ _ _ h => h) hHeld ?_
            try simp only [Act.put, nmb]
            refine tkb 6 rfl (fun _ _ _ h => h) hHeld ?_
            try simp only [Act.put, nmb]
            refine tkb 7 rfl (fun _ _ _ h => h) hHeld ?_
            try simp only [Act.put, nmb]
            refine wpAnyH_take (i := 8) rfl (by kernel_rfl) (by kernel_rfl) (by kernel_rfl) (fun _ _ _ h => h) (Or.inr ⟨by rfl, rfl⟩) hHeld ?_
            try simp only [Act.put, nmb]
            refine wpAnyH_take (i := 9) rfl (by kernel_rfl) (by kernel_rfl) (by kernel_rfl) (fun _ _ _ h => h) (Or.inr ⟨by rfl, rfl⟩) hHeld ?_
            try simp only [Act.put, nmb]
            refine wpAnyH_take (i := 10) rfl (by kernel_rfl) (by kernel_rfl) (by kernel_rfl) (fun _ _ _ h => h) (Or.inr ⟨by rfl, rfl⟩) hHeld ?_
            try simp only [Act.put, nmb]
            refine tkb 11 rfl (fun _ _ _ h => h) hHeld ?_
            try simp only [Act.put, nmb]
            refine tkb 12 rfl (fun _ _ _ h => h) hHeld ?_
            try simp only [Act.put, nmb]
            refine wpAnyH_take (i := 13) rfl (by kernel_rfl) (by kernel_rfl) (by kernel_rfl) (fun _ _ _ h => h) (Or.inr ⟨by rfl, rfl⟩) hHeld ?_
            try simp only [Act.put, nmb]
            refine wpAnyH_take (i := 14) rfl (by kernel_rfl) (by kernel_rfl) (by kernel_rfl) (fun _ _ _ h => h) (Or.inr ⟨by rfl, rfl⟩) hHeld ?_
            try simp only [Act.put, nmb]
            refine wpAnyH_take (i := 15) rfl (by kernel_rfl) (by kernel_rfl) (by kernel_rfl) (fun _ _ _ h => h) (Or.inr ⟨by rfl, rfl⟩) hHeld ?_
            try simp only [Act.put, nmb]
            refine wpAnyH_take (i := 16) rfl (by kernel_rfl) (by kernel_rfl) (by kernel_rfl) (fun _ _ _ h => h) (Or.inr ⟨by rfl, rfl⟩) hHeld ?_
            try simp only [Act.put, nmb]
            refine wpAnyH_take (i := 17) rfl (by kernel_rfl) (by kernel_rfl) (by kernel_rfl) (fun _ _ _ h => h) (Or.inr ⟨by rfl, rfl⟩) hHeld ?_
            try simp only [Act.put, nmb]
            refine wpAnyH_take (i := 18) rfl (by kernel_rfl) (by kernel_rfl) (by kernel_rfl) (fun _ _ _ h => h) (Or.inr ⟨by rfl, rfl⟩) hHeld ?_
            try simp only [Act.put, nmb]
            refine tkb 19 rfl (fun _ _ _ h => h) hHeld ?_
            try simp only [Act.put, nmb]
            refine tkb 20 rfl (fun _ _ _ h => h) hHeld ?_
            try simp only [Act.put, nmb]
            refine wpAnyH_take (i := 21) rfl (by kernel_rfl) (by kernel_rfl) (by kernel_rfl) (fun _ _ _ h => h) (Or.inr ⟨by rfl, rfl⟩) hHeld ?_
            try simp only [Act.put, nmb]
            refine wpAnyH_take (i := 22) rfl (by kernel_rfl) (by kernel_rfl) (by kernel_rfl) (fun _ _ _ h => h) (Or.inr ⟨by rfl, rfl⟩) hHeld ?_
            try simp only [Act.put, nmb]
            refine wpAnyH_take (i := 23) rfl (by kernel_rfl) (by kernel_rfl) (by kernel_rfl) (fun _ _ _ h => h) (Or.inr ⟨by rfl, rfl⟩) hHeld ?_
            try simp only [Act.put, nmb]
            refine wpAnyH_take (i := 24) rfl (by kernel_rfl) (by kernel_rfl) (by kernel_rfl) (fun _ _ _ h => h) (Or.inr ⟨by rfl, rfl⟩) hHeld ?_
            try simp only [Act.put, nmb]
            refine wpAnyH_take (i := 25) rfl (by kernel_rfl) (by kernel_rfl) (by kernel_rfl) (fun _ _ _ h => h) (Or.inr ⟨by rfl, rfl⟩) hHeld ?_
            try simp only [Act.put, nmb]
            refine wpAnyH_take (i := 26) rfl (by kernel_rfl) (by kernel_rfl) (by kernel_rfl) (fun _ _ _ h => h) (Or.inr ⟨by rfl, rfl⟩) hHeld ?_
            try simp only [Act.put, nmb]
            refine wpAnyH_take (i := 27) rfl (by kernel_rfl) (by kernel_rfl) (by kernel_rfl) (fun _ _ _ h => h) (Or.inr ⟨by rfl, rfl⟩) hHeld ?_
            try simp only [Act.put, nmb]
            refine wpAnyH_take (i := 28) rfl (by kernel_rfl) (by kernel_rfl) (by kernel_rfl) (fun _ _ _ h => h) (Or.inr ⟨by rfl, rfl⟩) hHeld ?_
            try simp only [Act.put, nmb]
            refine wpAnyH_take (i := 29) rfl (by kernel_rfl) (by kernel_rfl) (by kernel_rfl) (fun _ _ _ h => h) (Or.inr ⟨by rfl, rfl⟩) hHeld ?_
            try simp only [Act.put, nmb]
            refine wpAnyH_take (i := 30) rfl (by kernel_rfl) (by kernel_rfl) (by kernel_rfl) (fun _ _ _ h => h) (Or.inr ⟨by rfl, rfl⟩) hHeld ?_
            try simp only [Act.put, nmb]
            refine wpAnyH_take (i := 31) rfl (by kernel_rfl) (by kernel_rfl) (by kernel_rfl) (fun _ _ _ h => h) (Or.inr ⟨by rfl, rfl⟩) hHeld ?_
            try simp only [Act.put, nmb]
            refine wpAnyH_take (i := 32) rfl (by kernel_rfl) (by kernel_rfl) (by kernel_rfl) (fun _ _ _ h => h) (Or.inr ⟨by rfl, rfl⟩) hHeld ?_
            try simp only [Act.put, nmb]
            refine wpAnyH_take (i := 33) rfl (by kernel_rfl) (by kernel_rfl) (by kernel_rfl) (fun _ _ _ h => h) (Or.inr ⟨by rfl, rfl⟩) hHeld ?_
            try simp only [Act.put, nmb]
            refine wpAnyH_take (i := 34) rfl (by kernel_rfl) (by kernel_rfl) (by kernel_rfl) (fun _ _ _ h => h) (Or.inr ⟨by rfl, rfl⟩) hHeld ?_
            try simp only [Act.put, nmb]
            refine tkb 35 rfl (fun _ _ _ h => h) hHeld ?_
            try simp only [Act.put, nmb]
            refine tkb 36 rfl (fun _ _ _ h => h) hHeld ?_
            try simp only [Act.put, nmb]
            refine wpAnyH_take (i := 37) rfl (by kernel_rfl) (by kernel_rfl) (by kernel_rfl) (fun _ _ _ h => h) (Or.inr ⟨by rfl, rfl⟩) hHeld ?_
            try simp only [Act.put, nmb]
            refine wpAnyH_take (i := 38) rfl (by kernel_rfl) (by kernel_rfl) (by kernel_rfl) (fun _ _ _ h => h) (Or.inr ⟨by rfl, rfl⟩) hHeld ?_
            try simp only [Act.put, nmb]
            refine wpAnyH_take (i := 39) rfl (by kernel_rfl) (by kernel_rfl) (by kernel_rfl) (fun _ _ _ h => h) (Or.inr ⟨by rfl, rfl⟩) hHeld ?_
            try simp only [Act.put, nmb]
            refine tkb 40 rfl (fun _ _ _ h => h) hHeld ?_
            try simp only [Act.put, nmb]
            refine tkb 41 rfl (fun _ _ _ h => h) hHeld ?_
            try simp only [Act.put, nmb]
            refine wpAnyH_take (i := 42) rfl (by kernel_rfl) (by kernel_rfl) (by kernel_rfl) (fun _ _ _ h => h) (Or.inr ⟨by rfl, rfl⟩) hHeld ?_
            try simp only [Act.put, nmb]
            refine wpAnyH_take (i := 43) rfl (by kernel_rfl) (by kernel_rfl) (by kernel_rfl) (fun _ _ _ h => h) (Or.inr ⟨by rfl, rfl⟩) hHeld ?_
            try simp only [Act.put, nmb]
            refine wpAnyH_take (i := 44) rfl (by kernel_rfl) (by kernel_rfl) (by kernel_rfl) (fun _ _ _ h => h) (Or.inr ⟨by rfl, rfl⟩) hHeld ?_
            try simp only [Act.put, nmb]
            refine tkb 45 rfl (fun _ _ _ h => h) hHeld ?_
            try simp only [Act.put, nmb]
            refine wpAnyH_done (by kernel_rfl) ?_ _
            refine NoPanic.normal ?_
            go_wp2_with fail
            go_ret
            exact ⟨ret_int (by rw [HRV.out]), to_ HB0.out HBD.out⟩
        | succ k =>
          obtain ⟨ad, rfl, _, a0, a1⟩ := HCL.out wr hbel (k + 1) hlt
          obtain ⟨hok, hz0⟩ := HO.out k rfl
          have hpv := HCL.out
          have HK := Lib.hid (hok.trans (okR_at (m := (nC : Int)) (HS.out (k + 1) hlt)))
          obtain ⟨x, hx⟩ : ∃ x, lnAt ls (k + 1) = x := ⟨_, rfl⟩
          have HX2 := Lib.hid hx
          rw [hx] at HK a0 a1
          clear hx hok
          obtain ⟨x0, x1⟩ := x
          dsimp only at HK HX2 a0 a1
          obtain ⟨Wx, hWx⟩ : ∃ Wx, wr.alloc (.cells #[.int .i64 x0, .int .i64 x1] 85) = Wx := ⟨_, rfl⟩
          have HBX := Lib.hid (show Below wr.heap.size wr Wx from by rw [← hWx]; exact alloc_ _ _)
          have hbk : Blk Wx wr.heap.size 85 #[.int .i64 x0, .int .i64 x1] := by rw [← hWx]; exact Blk.new wr _ _
          have HBD := Lib.hid (show Below W1.heap.size W1 Wx.drew from (to_ HBE.out HBX.out).drew)
          have HBKD := Lib.hid (show Blk Wx.drew wr.heap.size 85 #[.int .i64 x0, .int .i64 x1] from hbk)
          clear hbk hbel
          obtain ⟨ad2, e2, _, p0, _⟩ := HCL.out Wx.drew HBD.out k (by omega)
          injection e2 with e2
          subst e2
          obtain ⟨z, hz⟩ : ∃ z, (lnAt ls k).1 = z := ⟨_, rfl⟩
          rw [hz] at HK p0 hz0
          have HZ0 := Lib.hid hz0
          have HH := Lib.hid (show ((Wx.drew.cell? ⟨wr.heap.size, 0, none⟩ = some (.int .i64 x0) ∧ Wx.drew.cell? ⟨wr.heap.size, 1, none⟩ = some (.int .i64 x1)) ∧ Wx.drew.cell? ⟨w.heap.size, 6, none⟩ = some (.slice (some ad) nL cL) ∧ Wx.drew.cell? ⟨w.heap.size, 7, none⟩ = some (.slice AC nC cC)) ∧ Wx.drew.cell? (ad.add (k * 2)) = some (.int .i64 z) from ⟨⟨⟨HBKD.out.cell 0, HBKD.out.cell 1⟩, (HX.out _ HBD.out).cell 6, (HX.out _ HBD.out).cell 7⟩, p0⟩)
          clear hz p0 hz0 hpv
          have q1 : (((k + 1 : Nat) : Int) == 0) = false := by simp; omega
          have q2 : decide ((0 : Int) < ((k + 1 : Nat) : Int)) = true := decide_eq_true (by omega)
          have q1b : ((((k : Nat) : Int) + 1) == 0) = false := by simp; omega
          have q2b : decide ((0 : Int) < ((k : Nat) : Int) + 1) = true := decide_eq_true (by omega)
          have q3 : IntKind.i64.wrap (k : Int) = (k : Int) := by
            have e1 : (k : Int) < 9223372036854775808 := by omega
            have e2 : -9223372036854775808 ≤ (k : Int) := by omega
            exact IntWalk.i64_in _ (by omega)
          have q4 : (0 : Int) ≤ (k : Int) := by omega
          have q5 : (k : Int) < (nL : Int) := by omega
          by_cases h2 : x0 < 0
          · have g2 : decide (x0 < 0) = true := decide_eq_true h2
            have HF := Lib.hid (show okL (nC : Int) ls = false from by rw [HK.out]; rw [decide_eq_false (show ¬ z < x0 by have := HZ0.out; omega)]; rfl)
            have HRV := Lib.hid (show rr = 9 from by rw [← HRR.out, HF.out]; rfl)
            go_wp2_with fail
            refine wp_region_noPanic ?_
            refine wp_region_held_drew (S := fun W => ((W.cell? ⟨wr.heap.size, 0, none⟩ = some (.int .i64 x0) ∧ W.cell? ⟨wr.heap.size, 1, none⟩ = some (.int .i64 x1)) ∧ W.cell? ⟨w.heap.size, 6, none⟩ = some (.slice (some ad) nL cL) ∧ W.cell? ⟨w.heap.size, 7, none⟩ = some (.slice AC nC cC)) ∧ W.cell? (ad.add (k * 2)) = some (.int .i64 z)) (by kernel_rfl) (HH.out) (fun hHeld => ?_)
            refine tkb 0 rfl (fun _ _ _ h => h) hHeld ?_
            try simp only [Act.put, nmb]
            refine tkb 1 rfl (fun _ _ _ h => h) hHeld ?_
            try simp only [Act.put, nmb]
            refine tkb 2 rfl (fun _ _ _ h => h) hHeld ?_
            try simp only [Act.put, nmb]
            refine wpAnyH_take (i := 3) rfl (by kernel_rfl) (by kernel_rfl) (by kernel_rfl) (fun _ _ _ h => h) (Or.inr ⟨by rfl, rfl⟩) hHeld ?_
            try simp only [Act.put, nmb]
            refine wpAnyH_take (i := 4) rfl (by kernel_rfl) (by kernel_rfl) (by kernel_rfl) (fun _ _ _ h => h) (Or.inr ⟨by rfl, rfl⟩) hHeld ?_
            try simp only [Act.put, nmb]
            refine wpAnyH_take (i := 5) rfl (by kernel_rfl) (by kernel_rfl) (by kernel_rfl) (fun _ _ _ h => h) (Or.inr ⟨by rfl, rfl⟩) hHeld ?_
            try simp only [Act.put, nmb]
            refine tkb 6 rfl (fun _ _ _ h => h) hHeld ?_
            try simp only [Act.put, nmb]
            refine tkb 7 rfl (fun _ _ _ h => h) hHeld ?_
            try simp only [Act.put, nmb]
            refine tkb 8 rfl (fun _ _ _ h => h) hHeld ?_
            try simp only [Act.put, nmb]
            refine tkb 9 rfl (fun _ _ _ h => h) hHeld ?_
            try simp only [Act.put, nmb]
            refine tkb 10 rfl (fun _ _ _ h => h) hHeld ?_
            try simp only [Act.put, nmb]
            refine tkb 11 rfl (fun _ _ _ h => h) hHeld ?_
            try simp only [Act.put, nmb]
            refine tkb 12 rfl (fun _ _ _ h => h) hHeld ?_
            try simp only [Act.put, nmb]
            refine wpAnyH_take (i := 13) rfl (by kernel_rfl) (by kernel_rfl) (by kernel_rfl) (fun _ _ _ h => h) (Or.inr ⟨by rfl, rfl⟩) hHeld ?_
            try simp only [Act.put, nmb]
            refine wpAnyH_take (i := 14) rfl (by kernel_rfl) (by kernel_rfl) (by kernel_rfl) (fun _ _ _ h => h) (Or.inr ⟨by rfl, rfl⟩) hHeld ?_
            try simp only [Act.put, nmb]
            refine wpAnyH_take (i := 15) rfl (by kernel_rfl) (by kernel_rfl) (by kernel_rfl) (fun _ _ _ h => h) (Or.inr ⟨by rfl, rfl⟩) hHeld ?_
            try simp only [Act.put, nmb]
            refine wpAnyH_take (i := 16) rfl (by kernel_rfl) (by kernel_rfl) (by kernel_rfl) (fun _ _ _ h => h) (Or.inr ⟨by rfl, rfl⟩) hHeld ?_
            try simp only [Act.put, nmb]
            refine wpAnyH_take (i := 17) rfl (by kernel_rfl) (by kernel_rfl) (by kernel_rfl) (fun _ _ _ h => h) (Or.inr ⟨by rfl, rfl⟩) hHeld ?_
            try simp only [Act.put, nmb]
            refine wpAnyH_take (i := 18) rfl (by kernel_rfl) (by kernel_rfl) (by kernel_rfl) (fun _ _ _ h => h) (Or.inr ⟨by rfl, rfl⟩) hHeld ?_
            try simp only [Act.put, nmb]
            refine tkb 19 rfl (fun _ _ _ h => h) hHeld ?_
            try simp only [Act.put, nmb]
            refine tkb 20 rfl (fun _ _ _ h => h) hHeld ?_
            try simp only [Act.put, nmb]
            refine wpAnyH_take (i := 21) rfl (by kernel_rfl) (by kernel_rfl) (by kernel_rfl) (fun _ _ _ h => h) (Or.inr ⟨by rfl, rfl⟩) hHeld ?_
            try simp only [Act.put, nmb]
            refine wpAnyH_take (i := 22) rfl (by kernel_rfl) (by kernel_rfl) (by kernel_rfl) (fun _ _ _ h => h) (Or.inr ⟨by rfl, rfl⟩) hHeld ?_
            try simp only [Act.put, nmb]
            refine wpAnyH_take (i := 23) rfl (by kernel_rfl) (by kernel_rfl) (by kernel_rfl) (fun _ _ _ h => h) (Or.inr ⟨by rfl, rfl⟩) hHeld ?_
            try simp only [Act.put, nmb]
            refine wpAnyH_take (i := 24) rfl (by kernel_rfl) (by kernel_rfl) (by kernel_rfl) (fun _ _ _ h => h) (Or.inr ⟨by rfl, rfl⟩) hHeld ?_
            try simp only [Act.put, nmb]
            refine wpAnyH_take (i := 25) rfl (by kernel_rfl) (by kernel_rfl) (by kernel_rfl) (fun _ _ _ h => h) (Or.inr ⟨by rfl, rfl⟩) hHeld ?_
            try simp only [Act.put, nmb]
            refine wpAnyH_take (i := 26) rfl (by kernel_rfl) (by kernel_rfl) (by kernel_rfl) (fun _ _ _ h => h) (Or.inr ⟨by rfl, rfl⟩) hHeld ?_
            try simp only [Act.put, nmb]
            refine wpAnyH_take (i := 27) rfl (by kernel_rfl) (by kernel_rfl) (by kernel_rfl) (fun _ _ _ h => h) (Or.inr ⟨by rfl, rfl⟩) hHeld ?_
            try simp only [Act.put, nmb]
            refine wpAnyH_take (i := 28) rfl (by kernel_rfl) (by kernel_rfl) (by kernel_rfl) (fun _ _ _ h => h) (Or.inr ⟨by rfl, rfl⟩) hHeld ?_
            try simp only [Act.put, nmb]
            refine wpAnyH_take (i := 29) rfl (by kernel_rfl) (by kernel_rfl) (by kernel_rfl) (fun _ _ _ h => h) (Or.inr ⟨by rfl, rfl⟩) hHeld ?_
            try simp only [Act.put, nmb]
            refine wpAnyH_take (i := 30) rfl (by kernel_rfl) (by kernel_rfl) (by kernel_rfl) (fun _ _ _ h => h) (Or.inr ⟨by rfl, rfl⟩) hHeld ?_
            try simp only [Act.put, nmb]
            refine wpAnyH_take (i := 31) rfl (by kernel_rfl) (by kernel_rfl) (by kernel_rfl) (fun _ _ _ h => h) (Or.inr ⟨by rfl, rfl⟩) hHeld ?_
            try simp only [Act.put, nmb]
            refine wpAnyH_take (i := 32) rfl (by kernel_rfl) (by kernel_rfl) (by kernel_rfl) (fun _ _ _ h => h) (Or.inr ⟨by rfl, rfl⟩) hHeld ?_
            try simp only [Act.put, nmb]
            refine wpAnyH_take (i := 33) rfl (by kernel_rfl) (by kernel_rfl) (by kernel_rfl) (fun _ _ _ h => h) (Or.inr ⟨by rfl, rfl⟩) hHeld ?_
            try simp only [Act.put, nmb]
            refine wpAnyH_take (i := 34) rfl (by kernel_rfl) (by kernel_rfl) (by kernel_rfl) (fun _ _ _ h => h) (Or.inr ⟨by rfl, rfl⟩) hHeld ?_
            try simp only [Act.put, nmb]
            refine tkb 35 rfl (fun _ _ _ h => h) hHeld ?_
            try simp only [Act.put, nmb]
            refine tkb 36 rfl (fun _ _ _ h => h) hHeld ?_
            try simp only [Act.put, nmb]
            refine wpAnyH_take (i := 37) rfl (by kernel_rfl) (by kernel_rfl) (by kernel_rfl) (fun _ _ _ h => h) (Or.inr ⟨by rfl, rfl⟩) hHeld ?_
            try simp only [Act.put, nmb]
            refine wpAnyH_take (i := 38) rfl (by kernel_rfl) (by kernel_rfl) (by kernel_rfl) (fun _ _ _ h => h) (Or.inr ⟨by rfl, rfl⟩) hHeld ?_
            try simp only [Act.put, nmb]
            refine wpAnyH_take (i := 39) rfl (by kernel_rfl) (by kernel_rfl) (by kernel_rfl) (fun _ _ _ h => h) (Or.inr ⟨by rfl, rfl⟩) hHeld ?_
            try simp only [Act.put, nmb]
            refine tkb 40 rfl (fun _ _ _ h => h) hHeld ?_
            try simp only [Act.put, nmb]
            refine tkb 41 rfl (fun _ _ _ h => h) hHeld ?_
            try simp only [Act.put, nmb]
            refine wpAnyH_take (i := 42) rfl (by kernel_rfl) (by kernel_rfl) (by kernel_rfl) (fun _ _ _ h => h) (Or.inr ⟨by rfl, rfl⟩) hHeld ?_
            try simp only [Act.put, nmb]
            refine wpAnyH_take (i := 43) rfl (by kernel_rfl) (by kernel_rfl) (by kernel_rfl) (fun _ _ _ h => h) (Or.inr ⟨by rfl, rfl⟩) hHeld ?_
            try simp only [Act.put, nmb]
            refine wpAnyH_take (i := 44) rfl (by kernel_rfl) (by kernel_rfl) (by kernel_rfl) (fun _ _ _ h => h) (Or.inr ⟨by rfl, rfl⟩) hHeld ?_
            try simp only [Act.put, nmb]
            refine tkb 45 rfl (fun _ _ _ h => h) hHeld ?_
            try simp only [Act.put, nmb]
            refine wpAnyH_done (by kernel_rfl) ?_ _
            refine NoPanic.normal ?_
            go_wp2_with fail
            go_ret
            exact ⟨ret_int (by rw [HRV.out]), to_ HB0.out HBD.out⟩
          · have g2 : decide (x0 < 0) = false := decide_eq_false h2
            by_cases h3 : (nC : Int) ≤ x0
            · have g3 : decide ((nC : Int) ≤ x0) = true := decide_eq_true h3
              have HF := Lib.hid (show okL (nC : Int) ls = false from by rw [HK.out]; rw [decide_eq_false (show ¬ x0 < (nC : Int) by omega)]; simp)
              have HRV := Lib.hid (show rr = 9 from by rw [← HRR.out, HF.out]; rfl)
              go_wp2_with fail
              refine wp_region_noPanic ?_
              refine wp_region_held_drew (S := fun W => ((W.cell? ⟨wr.heap.size, 0, none⟩ = some (.int .i64 x0) ∧ W.cell? ⟨wr.heap.size, 1, none⟩ = some (.int .i64 x1)) ∧ W.cell? ⟨w.heap.size, 6, none⟩ = some (.slice (some ad) nL cL) ∧ W.cell? ⟨w.heap.size, 7, none⟩ = some (.slice AC nC cC)) ∧ W.cell? (ad.add (k * 2)) = some (.int .i64 z)) (by kernel_rfl) (HH.out) (fun hHeld => ?_)
              refine tkb 0 rfl (fun _ _ _ h => h) hHeld ?_
              try simp only [Act.put, nmb]
              refine tkb 1 rfl (fun _ _ _ h => h) hHeld ?_
              try simp only [Act.put, nmb]
              refine tkb 2 rfl (fun _ _ _ h => h) hHeld ?_
              try simp only [Act.put, nmb]
              refine wpAnyH_take (i := 3) rfl (by kernel_rfl) (by kernel_rfl) (by kernel_rfl) (fun _ _ _ h => h) (Or.inr ⟨by rfl, rfl⟩) hHeld ?_
              try simp only [Act.put, nmb]
              refine wpAnyH_take (i := 4) rfl (by kernel_rfl) (by kernel_rfl) (by kernel_rfl) (fun _ _ _ h => h) (Or.inr ⟨by rfl, rfl⟩) hHeld ?_
              try simp only [Act.put, nmb]
              refine wpAnyH_take (i := 5) rfl (by kernel_rfl) (by kernel_rfl) (by kernel_rfl) (fun _ _ _ h => h) (Or.inr ⟨by rfl, rfl⟩) hHeld ?_
              try simp only [Act.put, nmb]
              refine tkb 6 rfl (fun _ _ _ h => h) hHeld ?_
              try simp only [Act.put, nmb]
              refine tkb 7 rfl (fun _ _ _ h => h) hHeld ?_
              try simp only [Act.put, nmb]
              refine tkb 8 rfl (fun _ _ _ h => h) hHeld ?_
              try simp only [Act.put, nmb]
              refine tkb 9 rfl (fun _ _ _ h => h) hHeld ?_
              try simp only [Act.put, nmb]
              refine tkb 10 rfl (fun _ _ _ h => h) hHeld ?_
              try simp only [Act.put, nmb]
              refine tkb 11 rfl (fun _ _ _ h => h) hHeld ?_
              try simp only [Act.put, nmb]
              refine tkb 12 rfl (fun _ _ _ h => h) hHeld ?_
              try simp only [Act.put, nmb]
              refine tkb 13 rfl (fun _ _ _ h => h) hHeld ?_
              try simp only [Act.put, nmb]
              refine tkb 14 rfl (fun _ _ _ h => h) hHeld ?_
              try simp only [Act.put, nmb]
              refine tkb 15 rfl (fun _ _ _ h => h) hHeld ?_
              try simp only [Act.put, nmb]
              refine tkb 16 rfl (fun _ _ _ h => h) hHeld ?_
              try simp only [Act.put, nmb]
              refine tkb 17 rfl (fun _ _ _ h => h) hHeld ?_
              try simp only [Act.put, nmb]
              refine tkb 18 rfl (fun _ _ _ h => h) hHeld ?_
              try simp only [Act.put, nmb]
              refine tkb 19 rfl (fun _ _ _ h => h) hHeld ?_
              try simp only [Act.put, nmb]
              refine tkb 20 rfl (fun _ _ _ h => h) hHeld ?_
              try simp only [Act.put, nmb]
              refine wpAnyH_take (i := 21) rfl (by kernel_rfl) (by kernel_rfl) (by kernel_rfl) (fun _ _ _ h => h) (Or.inr ⟨by rfl, rfl⟩) hHeld ?_
              try simp only [Act.put, nmb]
              refine wpAnyH_take (i := 22) rfl (by kernel_rfl) (by kernel_rfl) (by kernel_rfl) (fun _ _ _ h => h) (Or.inr ⟨by rfl, rfl⟩) hHeld ?_
              try simp only [Act.put, nmb]
              refine wpAnyH_take (i := 23) rfl (by kernel_rfl) (by kernel_rfl) (by kernel_rfl) (fun _ _ _ h => h) (Or.inr ⟨by rfl, rfl⟩) hHeld ?_
              try simp only [Act.put, nmb]
              refine wpAnyH_take (i := 24) rfl (by kernel_rfl) (by kernel_rfl) (by kernel_rfl) (fun _ _ _ h => h) (Or.inr ⟨by rfl, rfl⟩) hHeld ?_
              try simp only [Act.put, nmb]
              refine wpAnyH_take (i := 25) rfl (by kernel_rfl) (by kernel_rfl) (by kernel_rfl) (fun _ _ _ h => h) (Or.inr ⟨by rfl, rfl⟩) hHeld ?_
              try simp only [Act.put, nmb]
              refine wpAnyH_take (i := 26) rfl (by kernel_rfl) (by kernel_rfl) (by kernel_rfl) (fun _ _ _ h => h) (Or.inr ⟨by rfl, rfl⟩) hHeld ?_
              try simp only [Act.put, nmb]
              refine wpAnyH_take (i := 27) rfl (by kernel_rfl) (by kernel_rfl) (by kernel_rfl) (fun _ _ _ h => h) (Or.inr ⟨by rfl, rfl⟩) hHeld ?_
              try simp only [Act.put, nmb]
              refine wpAnyH_take (i := 28) rfl (by kernel_rfl) (by kernel_rfl) (by kernel_rfl) (fun _ _ _ h => h) (Or.inr ⟨by rfl, rfl⟩) hHeld ?_
              try simp only [Act.put, nmb]
              refine wpAnyH_take (i := 29) rfl (by kernel_rfl) (by kernel_rfl) (by kernel_rfl) (fun _ _ _ h => h) (Or.inr ⟨by rfl, rfl⟩) hHeld ?_
              try simp only [Act.put, nmb]
              refine wpAnyH_take (i := 30) rfl (by kernel_rfl) (by kernel_rfl) (by kernel_rfl) (fun _ _ _ h => h) (Or.inr ⟨by rfl, rfl⟩) hHeld ?_
              try simp only [Act.put, nmb]
              refine wpAnyH_take (i := 31) rfl (by kernel_rfl) (by kernel_rfl) (by kernel_rfl) (fun _ _ _ h => h) (Or.inr ⟨by rfl, rfl⟩) hHeld ?_
              try simp only [Act.put, nmb]
              refine wpAnyH_take (i := 32) rfl (by kernel_rfl) (by kernel_rfl) (by kernel_rfl) (fun _ _ _ h => h) (Or.inr ⟨by rfl, rfl⟩) hHeld ?_
              try simp only [Act.put, nmb]
              refine wpAnyH_take (i := 33) rfl (by kernel_rfl) (by kernel_rfl) (by kernel_rfl) (fun _ _ _ h => h) (Or.inr ⟨by rfl, rfl⟩) hHeld ?_
              try simp only [Act.put, nmb]
              refine wpAnyH_take (i := 34) rfl (by kernel_rfl) (by kernel_rfl) (by kernel_rfl) (fun _ _ _ h => h) (Or.inr ⟨by rfl, rfl⟩) hHeld ?_
              try simp only [Act.put, nmb]
              refine tkb 35 rfl (fun _ _ _ h => h) hHeld ?_
              try simp only [Act.put, nmb]
              refine tkb 36 rfl (fun _ _ _ h => h) hHeld ?_
              try simp only [Act.put, nmb]
              refine wpAnyH_take (i := 37) rfl (by kernel_rfl) (by kernel_rfl) (by kernel_rfl) (fun _ _ _ h => h) (Or.inr ⟨by rfl, rfl⟩) hHeld ?_
              try simp only [Act.put, nmb]
              refine wpAnyH_take (i := 38) rfl (by kernel_rfl) (by kernel_rfl) (by kernel_rfl) (fun _ _ _ h => h) (Or.inr ⟨by rfl, rfl⟩) hHeld ?_
              try simp only [Act.put, nmb]
              refine wpAnyH_take (i := 39) rfl (by kernel_rfl) (by kernel_rfl) (by kernel_rfl) (fun _ _ _ h => h) (Or.inr ⟨by rfl, rfl⟩) hHeld ?_
              try simp only [Act.put, nmb]
              refine tkb 40 rfl (fun _ _ _ h => h) hHeld ?_
              try simp only [Act.put, nmb]
              refine tkb 41 rfl (fun _ _ _ h => h) hHeld ?_
              try simp only [Act.put, nmb]
              refine wpAnyH_take (i := 42) rfl (by kernel_rfl) (by kernel_rfl) (by kernel_rfl) (fun _ _ _ h => h) (Or.inr ⟨by rfl, rfl⟩) hHeld ?_
              try simp only [Act.put, nmb]
              refine wpAnyH_take (i := 43) rfl (by kernel_rfl) (by kernel_rfl) (by kernel_rfl) (fun _ _ _ h => h) (Or.inr ⟨by rfl, rfl⟩) hHeld ?_
              try simp only [Act.put, nmb]
              refine wpAnyH_take (i := 44) rfl (by kernel_rfl) (by kernel_rfl) (by kernel_rfl) (fun _ _ _ h => h) (Or.inr ⟨by rfl, rfl⟩) hHeld ?_
              try simp only [Act.put, nmb]
              refine tkb 45 rfl (fun _ _ _ h => h) hHeld ?_
              try simp only [Act.put, nmb]
              refine wpAnyH_done (by kernel_rfl) ?_ _
              refine NoPanic.normal ?_
              go_wp2_with fail
              go_ret
              exact ⟨ret_int (by rw [HRV.out]), to_ HB0.out HBD.out⟩
            · have g3 : decide ((nC : Int) ≤ x0) = false := decide_eq_false h3
              by_cases h4 : x0 ≤ z
              · have g4 : decide (x0 ≤ z) = true := decide_eq_true h4
                have HF := Lib.hid (show okL (nC : Int) ls = false from by rw [HK.out]; rw [decide_eq_false (show ¬ z < x0 by omega)]; rfl)
                have HRV := Lib.hid (show rr = 9 from by rw [← HRR.out, HF.out]; rfl)
                go_wp2_with fail
                refine wp_region_noPanic ?_
                refine wp_region_held_drew (S := fun W => ((W.cell? ⟨wr.heap.size, 0, none⟩ = some (.int .i64 x0) ∧ W.cell? ⟨wr.heap.size, 1, none⟩ = some (.int .i64 x1)) ∧ W.cell? ⟨w.heap.size, 6, none⟩ = some (.slice (some ad) nL cL) ∧ W.cell? ⟨w.heap.size, 7, none⟩ = some (.slice AC nC cC)) ∧ W.cell? (ad.add (k * 2)) = some (.int .i64 z)) (by kernel_rfl) (HH.out) (fun hHeld => ?_)
                refine tkb 0 rfl (fun _ _ _ h => h) hHeld ?_
                try simp only [Act.put, nmb]
                refine tkb 1 rfl (fun _ _ _ h => h) hHeld ?_
                try simp only [Act.put, nmb]
                refine tkb 2 rfl (fun _ _ _ h => h) hHeld ?_
                try simp only [Act.put, nmb]
                refine wpAnyH_take (i := 3) rfl (by kernel_rfl) (by kernel_rfl) (by kernel_rfl) (fun _ _ _ h => h) (Or.inr ⟨by rfl, rfl⟩) hHeld ?_
                try simp only [Act.put, nmb]
                refine wpAnyH_take (i := 4) rfl (by kernel_rfl) (by kernel_rfl) (by kernel_rfl) (fun _ _ _ h => h) (Or.inr ⟨by rfl, rfl⟩) hHeld ?_
                try simp only [Act.put, nmb]
                refine wpAnyH_take (i := 5) rfl (by kernel_rfl) (by kernel_rfl) (by kernel_rfl) (fun _ _ _ h => h) (Or.inr ⟨by rfl, rfl⟩) hHeld ?_
                try simp only [Act.put, nmb]
                refine tkb 6 rfl (fun _ _ _ h => h) hHeld ?_
                try simp only [Act.put, nmb]
                refine tkb 7 rfl (fun _ _ _ h => h) hHeld ?_
                try simp only [Act.put, nmb]
                refine tkb 8 rfl (fun _ _ _ h => h) hHeld ?_
                try simp only [Act.put, nmb]
                refine tkb 9 rfl (fun _ _ _ h => h) hHeld ?_
                try simp only [Act.put, nmb]
                refine tkb 10 rfl (fun _ _ _ h => h) hHeld ?_
                try simp only [Act.put, nmb]
                refine tkb 11 rfl (fun _ _ _ h => h) hHeld ?_
                try simp only [Act.put, nmb]
                refine tkb 12 rfl (fun _ _ _ h => h) hHeld ?_
                try simp only [Act.put, nmb]
                refine tkb 13 rfl (fun _ _ _ h => h) hHeld ?_
                try simp only [Act.put, nmb]
                refine tkb 14 rfl (fun _ _ _ h => h) hHeld ?_
                try simp only [Act.put, nmb]
                refine tkb 15 rfl (fun _ _ _ h => h) hHeld ?_
                try simp only [Act.put, nmb]
                refine tkb 16 rfl (fun _ _ _ h => h) hHeld ?_
                try simp only [Act.put, nmb]
                refine tkb 17 rfl (fun _ _ _ h => h) hHeld ?_
                try simp only [Act.put, nmb]
                refine tkb 18 rfl (fun _ _ _ h => h) hHeld ?_
                try simp only [Act.put, nmb]
                refine tkb 19 rfl (fun _ _ _ h => h) hHeld ?_
                try simp only [Act.put, nmb]
                refine tkb 20 rfl (fun _ _ _ h => h) hHeld ?_
                try simp only [Act.put, nmb]
                refine tkb 21 rfl (fun _ _ _ h => h) hHeld ?_
                try simp only [Act.put, nmb]
                refine tkb 22 rfl (fun _ _ _ h => h) hHeld ?_
                try simp only [Act.put, nmb]
                refine tkb 23 rfl (fun _ _ _ h => h) hHeld ?_
                try simp only [Act.put, nmb]
                refine tkb 24 rfl (fun _ _ _ h => h) hHeld ?_
                try simp only [Act.put, nmb]
                refine tkb 25 rfl (fun _ _ _ h => h) hHeld ?_
                try simp only [Act.put, nmb]
                refine tkb 26 rfl (fun _ _ _ h => h) hHeld ?_
                try simp only [Act.put, nmb]
                refine tkb 27 rfl (fun _ _ _ h => h) hHeld ?_
                try simp only [Act.put, nmb]
                refine tkb 28 rfl (fun _ _ _ h => h) hHeld ?_
                try simp only [Act.put, nmb]
                refine tkb 29 rfl (fun _ _ _ h => h) hHeld ?_
                try simp only [Act.put, nmb]
                refine tkb 30 rfl (fun _ _ _ h => h) hHeld ?_
                try simp only [Act.put, nmb]
                refine tkb 31 rfl (fun _ _ _ h => h) hHeld ?_
                try simp only [Act.put, nmb]
                refine tkb 32 rfl (fun _ _ _ h => h) hHeld ?_
                try simp only [Act.put, nmb]
                refine tkb 33 rfl (fun _ _ _ h => h) hHeld ?_
                try simp only [Act.put, nmb]
                refine tkb 34 rfl (fun _ _ _ h => h) hHeld ?_
                try simp only [Act.put, nmb]
                refine tkb 35 rfl (fun _ _ _ h => h) hHeld ?_
                try simp only [Act.put, nmb]
                refine tkb 36 rfl (fun _ _ _ h => h) hHeld ?_
                try simp only [Act.put, nmb]
                refine wpAnyH_take (i := 37) rfl (by kernel_rfl) (by kernel_rfl) (by kernel_rfl) (fun _ _ _ h => h) (Or.inr ⟨by rfl, rfl⟩) hHeld ?_
                try simp only [Act.put, nmb]
                refine wpAnyH_take (i := 38) rfl (by kernel_rfl) (by kernel_rfl) (by kernel_rfl) (fun _ _ _ h => h) (Or.inr ⟨by rfl, rfl⟩) hHeld ?_
                try simp only [Act.put, nmb]
                refine wpAnyH_take (i := 39) rfl (by kernel_rfl) (by kernel_rfl) (by kernel_rfl) (fun _ _ _ h => h) (Or.inr ⟨by rfl, rfl⟩) hHeld ?_
                try simp only [Act.put, nmb]
                refine tkb 40 rfl (fun _ _ _ h => h) hHeld ?_
                try simp only [Act.put, nmb]
                refine tkb 41 rfl (fun _ _ _ h => h) hHeld ?_
                try simp only [Act.put, nmb]
                refine wpAnyH_take (i := 42) rfl (by kernel_rfl) (by kernel_rfl) (by kernel_rfl) (fun _ _ _ h => h) (Or.inr ⟨by rfl, rfl⟩) hHeld ?_
                try simp only [Act.put, nmb]
                refine wpAnyH_take (i := 43) rfl (by kernel_rfl) (by kernel_rfl) (by kernel_rfl) (fun _ _ _ h => h) (Or.inr ⟨by rfl, rfl⟩) hHeld ?_
                try simp only [Act.put, nmb]
                refine wpAnyH_take (i := 44) rfl (by kernel_rfl) (by kernel_rfl) (by kernel_rfl) (fun _ _ _ h => h) (Or.inr ⟨by rfl, rfl⟩) hHeld ?_
                try simp only [Act.put, nmb]
                refine tkb 45 rfl (fun _ _ _ h => h) hHeld ?_
                try simp only [Act.put, nmb]
                refine wpAnyH_done (by kernel_rfl) ?_ _
                refine NoPanic.normal ?_
                go_wp2_with fail
                go_ret
                exact ⟨ret_int (by rw [HRV.out]), to_ HB0.out HBD.out⟩
              · have g4 : decide (x0 ≤ z) = false := decide_eq_false h4
                by_cases h5 : x1 < 0
                · have g5 : decide (x1 < 0) = true := decide_eq_true h5
                  have hl5 : lnB9 (x0, x1) = true := by unfold lnB9 frB; rw [decide_eq_false (show ¬ (0 : Int) ≤ x1 by omega)]; rfl
                  have HF := Lib.hid (show okL (nC : Int) ls = false from by rw [HK.out]; rw [hl5]; simp)
                  have HRV := Lib.hid (show rr = 9 from by rw [← HRR.out, HF.out]; rfl)
                  go_wp2_with fail
                  refine wp_region_noPanic ?_
                  refine wp_region_held_drew (S := fun W => ((W.cell? ⟨wr.heap.size, 0, none⟩ = some (.int .i64 x0) ∧ W.cell? ⟨wr.heap.size, 1, none⟩ = some (.int .i64 x1)) ∧ W.cell? ⟨w.heap.size, 6, none⟩ = some (.slice (some ad) nL cL) ∧ W.cell? ⟨w.heap.size, 7, none⟩ = some (.slice AC nC cC)) ∧ W.cell? (ad.add (k * 2)) = some (.int .i64 z)) (by kernel_rfl) (HH.out) (fun hHeld => ?_)
                  refine tkb 0 rfl (fun _ _ _ h => h) hHeld ?_
                  try simp only [Act.put, nmb]
                  refine tkb 1 rfl (fun _ _ _ h => h) hHeld ?_
                  try simp only [Act.put, nmb]
                  refine tkb 2 rfl (fun _ _ _ h => h) hHeld ?_
                  try simp only [Act.put, nmb]
                  refine wpAnyH_take (i := 3) rfl (by kernel_rfl) (by kernel_rfl) (by kernel_rfl) (fun _ _ _ h => h) (Or.inr ⟨by rfl, rfl⟩) hHeld ?_
                  try simp only [Act.put, nmb]
                  refine wpAnyH_take (i := 4) rfl (by kernel_rfl) (by kernel_rfl) (by kernel_rfl) (fun _ _ _ h => h) (Or.inr ⟨by rfl, rfl⟩) hHeld ?_
                  try simp only [Act.put, nmb]
                  refine wpAnyH_take (i := 5) rfl (by kernel_rfl) (by kernel_rfl) (by kernel_rfl) (fun _ _ _ h => h) (Or.inr ⟨by rfl, rfl⟩) hHeld ?_
                  try simp only [Act.put, nmb]
                  refine tkb 6 rfl (fun _ _ _ h => h) hHeld ?_
                  try simp only [Act.put, nmb]
                  refine tkb 7 rfl (fun _ _ _ h => h) hHeld ?_
                  try simp only [Act.put, nmb]
                  refine tkb 8 rfl (fun _ _ _ h => h) hHeld ?_
                  try simp only [Act.put, nmb]
                  refine tkb 9 rfl (fun _ _ _ h => h) hHeld ?_
                  try simp only [Act.put, nmb]
                  refine tkb 10 rfl (fun _ _ _ h => h) hHeld ?_
                  try simp only [Act.put, nmb]
                  refine tkb 11 rfl (fun _ _ _ h => h) hHeld ?_
                  try simp only [Act.put, nmb]
                  refine tkb 12 rfl (fun _ _ _ h => h) hHeld ?_
                  try simp only [Act.put, nmb]
                  refine tkb 13 rfl (fun _ _ _ h => h) hHeld ?_
                  try simp only [Act.put, nmb]
                  refine tkb 14 rfl (fun _ _ _ h => h) hHeld ?_
                  try simp only [Act.put, nmb]
                  refine tkb 15 rfl (fun _ _ _ h => h) hHeld ?_
                  try simp only [Act.put, nmb]
                  refine tkb 16 rfl (fun _ _ _ h => h) hHeld ?_
                  try simp only [Act.put, nmb]
                  refine tkb 17 rfl (fun _ _ _ h => h) hHeld ?_
                  try simp only [Act.put, nmb]
                  refine tkb 18 rfl (fun _ _ _ h => h) hHeld ?_
                  try simp only [Act.put, nmb]
                  refine tkb 19 rfl (fun _ _ _ h => h) hHeld ?_
                  try simp only [Act.put, nmb]
                  refine tkb 20 rfl (fun _ _ _ h => h) hHeld ?_
                  try simp only [Act.put, nmb]
                  refine tkb 21 rfl (fun _ _ _ h => h) hHeld ?_
                  try simp only [Act.put, nmb]
                  refine tkb 22 rfl (fun _ _ _ h => h) hHeld ?_
                  try simp only [Act.put, nmb]
                  refine tkb 23 rfl (fun _ _ _ h => h) hHeld ?_
                  try simp only [Act.put, nmb]
                  refine tkb 24 rfl (fun _ _ _ h => h) hHeld ?_
                  try simp only [Act.put, nmb]
                  refine tkb 25 rfl (fun _ _ _ h => h) hHeld ?_
                  try simp only [Act.put, nmb]
                  refine tkb 26 rfl (fun _ _ _ h => h) hHeld ?_
                  try simp only [Act.put, nmb]
                  refine tkb 27 rfl (fun _ _ _ h => h) hHeld ?_
                  try simp only [Act.put, nmb]
                  refine tkb 28 rfl (fun _ _ _ h => h) hHeld ?_
                  try simp only [Act.put, nmb]
                  refine tkb 29 rfl (fun _ _ _ h => h) hHeld ?_
                  try simp only [Act.put, nmb]
                  refine tkb 30 rfl (fun _ _ _ h => h) hHeld ?_
                  try simp only [Act.put, nmb]
                  refine tkb 31 rfl (fun _ _ _ h => h) hHeld ?_
                  try simp only [Act.put, nmb]
                  refine tkb 32 rfl (fun _ _ _ h => h) hHeld ?_
                  try simp only [Act.put, nmb]
                  refine tkb 33 rfl (fun _ _ _ h => h) hHeld ?_
                  try simp only [Act.put, nmb]
                  refine tkb 34 rfl (fun _ _ _ h => h) hHeld ?_
                  try simp only [Act.put, nmb]
                  refine tkb 35 rfl (fun _ _ _ h => h) hHeld ?_
                  try simp only [Act.put, nmb]
                  refine tkb 36 rfl (fun _ _ _ h => h) hHeld ?_
                  try simp only [Act.put, nmb]
                  refine tkb 37 rfl (fun _ _ _ h => h) hHeld ?_
                  try simp only [Act.put, nmb]
                  refine tkb 38 rfl (fun _ _ _ h => h) hHeld ?_
                  try simp only [Act.put, nmb]
                  refine tkb 39 rfl (fun _ _ _ h => h) hHeld ?_
                  try simp only [Act.put, nmb]
                  refine tkb 40 rfl (fun _ _ _ h => h) hHeld ?_
                  try simp only [Act.put, nmb]
                  refine tkb 41 rfl (fun _ _ _ h => h) hHeld ?_
                  try simp only [Act.put, nmb]
                  refine wpAnyH_take (i := 42) rfl (by kernel_rfl) (by kernel_rfl) (by kernel_rfl) (fun _ _ _ h => h) (Or.inr ⟨by rfl, rfl⟩) hHeld ?_
                  try simp only [Act.put, nmb]
                  refine wpAnyH_take (i := 43) rfl (by kernel_rfl) (by kernel_rfl) (by kernel_rfl) (fun _ _ _ h => h) (Or.inr ⟨by rfl, rfl⟩) hHeld ?_
                  try simp only [Act.put, nmb]
                  refine wpAnyH_take (i := 44) rfl (by kernel_rfl) (by kernel_rfl) (by kernel_rfl) (fun _ _ _ h => h) (Or.inr ⟨by rfl, rfl⟩) hHeld ?_
                  try simp only [Act.put, nmb]
                  refine tkb 45 rfl (fun _ _ _ h => h) hHeld ?_
                  try simp only [Act.put, nmb]
                  refine wpAnyH_done (by kernel_rfl) ?_ _
                  refine NoPanic.normal ?_
                  go_wp2_with fail
                  go_ret
                  exact ⟨ret_int (by rw [HRV.out]), to_ HB0.out HBD.out⟩
                · have g5 : decide (x1 < 0) = false := decide_eq_false h5
                  by_cases h6 : (65535 : Int) < x1
                  · have g6 : decide ((65535 : Int) < x1) = true := decide_eq_true h6
                    have hl6 : lnB9 (x0, x1) = true := by unfold lnB9 frB; rw [decide_eq_false (show ¬ x1 ≤ (65535 : Int) by omega)]; simp
                    have HF := Lib.hid (show okL (nC : Int) ls = false from by rw [HK.out]; rw [hl6]; simp)
                    have HRV := Lib.hid (show rr = 9 from by rw [← HRR.out, HF.out]; rfl)
                    go_wp2_with fail
                    refine wp_region_noPanic ?_
                    refine wp_region_held_drew (S := fun W => ((W.cell? ⟨wr.heap.size, 0, none⟩ = some (.int .i64 x0) ∧ W.cell? ⟨wr.heap.size, 1, none⟩ = some (.int .i64 x1)) ∧ W.cell? ⟨w.heap.size, 6, none⟩ = some (.slice (some ad) nL cL) ∧ W.cell? ⟨w.heap.size, 7, none⟩ = some (.slice AC nC cC)) ∧ W.cell? (ad.add (k * 2)) = some (.int .i64 z)) (by kernel_rfl) (HH.out) (fun hHeld => ?_)
                    refine tkb 0 rfl (fun _ _ _ h => h) hHeld ?_
                    try simp only [Act.put, nmb]
                    refine tkb 1 rfl (fun _ _ _ h => h) hHeld ?_
                    try simp only [Act.put, nmb]
                    refine tkb 2 rfl (fun _ _ _ h => h) hHeld ?_
                    try simp only [Act.put, nmb]
                    refine wpAnyH_take (i := 3) rfl (by kernel_rfl) (by kernel_rfl) (by kernel_rfl) (fun _ _ _ h => h) (Or.inr ⟨by rfl, rfl⟩) hHeld ?_
                    try simp only [Act.put, nmb]
                    refine wpAnyH_take (i := 4) rfl (by kernel_rfl) (by kernel_rfl) (by kernel_rfl) (fun _ _ _ h => h) (Or.inr ⟨by rfl, rfl⟩) hHeld ?_
                    try simp only [Act.put, nmb]
                    refine wpAnyH_take (i := 5) rfl (by kernel_rfl) (by kernel_rfl) (by kernel_rfl) (fun _ _ _ h => h) (Or.inr ⟨by rfl, rfl⟩) hHeld ?_
                    try simp only [Act.put, nmb]
                    refine tkb 6 rfl (fun _ _ _ h => h) hHeld ?_
                    try simp only [Act.put, nmb]
                    refine tkb 7 rfl (fun _ _ _ h => h) hHeld ?_
                    try simp only [Act.put, nmb]
                    refine tkb 8 rfl (fun _ _ _ h => h) hHeld ?_
                    try simp only [Act.put, nmb]
                    refine tkb 9 rfl (fun _ _ _ h => h) hHeld ?_
                    try simp only [Act.put, nmb]
                    refine tkb 10 rfl (fun _ _ _ h => h) hHeld ?_
                    try simp only [Act.put, nmb]
                    refine tkb 11 rfl (fun _ _ _ h => h) hHeld ?_
                    try simp only [Act.put, nmb]
                    refine tkb 12 rfl (fun _ _ _ h => h) hHeld ?_
                    try simp only [Act.put, nmb]
                    refine tkb 13 rfl (fun _ _ _ h => h) hHeld ?_
                    try simp only [Act.put, nmb]
                    refine tkb 14 rfl (fun _ _ _ h => h) hHeld ?_
                    try simp only [Act.put, nmb]
                    refine tkb 15 rfl (fun _ _ _ h => h) hHeld ?_
                    try simp only [Act.put, nmb]
                    refine tkb 16 rfl (fun _ _ _ h => h) hHeld ?_
                    try simp only [Act.put, nmb]
                    refine tkb 17 rfl (fun _ _ _ h => h) hHeld ?_
                    try simp only [Act.put, nmb]
                    refine tkb 18 rfl (fun _ _ _ h => h) hHeld ?_
                    try simp only [Act.put, nmb]
                    refine tkb 19 rfl (fun _ _ _ h => h) hHeld ?_
                    try simp only [Act.put, nmb]
                    refine tkb 20 rfl (fun _ _ _ h => h) hHeld ?_
                    try simp only [Act.put, nmb]
                    refine tkb 21 rfl (fun _ _ _ h => h) hHeld ?_
                    try simp only [Act.put, nmb]
                    refine tkb 22 rfl (fun _ _ _ h => h) hHeld ?_
                    try simp only [Act.put, nmb]
                    refine tkb 23 rfl (fun _ _ _ h => h) hHeld ?_
                    try simp only [Act.put, nmb]
                    refine tkb 24 rfl (fun _ _ _ h => h) hHeld ?_
                    try simp only [Act.put, nmb]
                    refine tkb 25 rfl (fun _ _ _ h => h) hHeld ?_
                    try simp only [Act.put, nmb]
                    refine tkb 26 rfl (fun _ _ _ h => h) hHeld ?_
                    try simp only [Act.put, nmb]
                    refine tkb 27 rfl (fun _ _ _ h => h) hHeld ?_
                    try simp only [Act.put, nmb]
                    refine tkb 28 rfl (fun _ _ _ h => h) hHeld ?_
                    try simp only [Act.put, nmb]
                    refine tkb 29 rfl (fun _ _ _ h => h) hHeld ?_
                    try simp only [Act.put, nmb]
                    refine tkb 30 rfl (fun _ _ _ h => h) hHeld ?_
                    try simp only [Act.put, nmb]
                    refine tkb 31 rfl (fun _ _ _ h => h) hHeld ?_
                    try simp only [Act.put, nmb]
                    refine tkb 32 rfl (fun _ _ _ h => h) hHeld ?_
                    try simp only [Act.put, nmb]
                    refine tkb 33 rfl (fun _ _ _ h => h) hHeld ?_
                    try simp only [Act.put, nmb]
                    refine tkb 34 rfl (fun _ _ _ h => h) hHeld ?_
                    try simp only [Act.put, nmb]
                    refine tkb 35 rfl (fun _ _ _ h => h) hHeld ?_
                    try simp only [Act.put, nmb]
                    refine tkb 36 rfl (fun _ _ _ h => h) hHeld ?_
                    try simp only [Act.put, nmb]
                    refine tkb 37 rfl (fun _ _ _ h => h) hHeld ?_
                    try simp only [Act.put, nmb]
                    refine tkb 38 rfl (fun _ _ _ h => h) hHeld ?_
                    try simp only [Act.put, nmb]
                    refine tkb 39 rfl (fun _ _ _ h => h) hHeld ?_
                    try simp only [Act.put, nmb]
                    refine tkb 40 rfl (fun _ _ _ h => h) hHeld ?_
                    try simp only [Act.put, nmb]
                    refine tkb 41 rfl (fun _ _ _ h => h) hHeld ?_
                    try simp only [Act.put, nmb]
                    refine tkb 42 rfl (fun _ _ _ h => h) hHeld ?_
                    try simp only [Act.put, nmb]
                    refine tkb 43 rfl (fun _ _ _ h => h) hHeld ?_
                    try simp only [Act.put, nmb]
                    refine tkb 44 rfl (fun _ _ _ h => h) hHeld ?_
                    try simp only [Act.put, nmb]
                    refine tkb 45 rfl (fun _ _ _ h => h) hHeld ?_
                    try simp only [Act.put, nmb]
                    refine wpAnyH_done (by kernel_rfl) ?_ _
                    refine NoPanic.normal ?_
                    go_wp2_with fail
                    go_ret
                    exact ⟨ret_int (by rw [HRV.out]), to_ HB0.out HBD.out⟩
                  · have g6 : decide ((65535 : Int) < x1) = false := decide_eq_false h6
                    have hl7 : lnB9 (x0, x1) = false := by unfold lnB9 frB; rw [decide_eq_true (show (0 : Int) ≤ x1 by omega), decide_eq_true (show x1 ≤ (65535 : Int) by omega)]; rfl
                    have HF := Lib.hid (show okL (nC : Int) ls = okR (nC : Int) x0 (ls.drop ((k + 1) + 1)) from by rw [HK.out]; rw [hl7, decide_eq_true (show z < x0 by omega), decide_eq_true (show x0 < (nC : Int) by omega)]; simp)
                    go_wp2_with fail
                    refine wp_region_noPanic ?_
                    refine wp_region_held_drew (S := fun W => ((W.cell? ⟨wr.heap.size, 0, none⟩ = some (.int .i64 x0) ∧ W.cell? ⟨wr.heap.size, 1, none⟩ = some (.int .i64 x1)) ∧ W.cell? ⟨w.heap.size, 6, none⟩ = some (.slice (some ad) nL cL) ∧ W.cell? ⟨w.heap.size, 7, none⟩ = some (.slice AC nC cC)) ∧ W.cell? (ad.add (k * 2)) = some (.int .i64 z)) (by kernel_rfl) (HH.out) (fun hHeld => ?_)
                    refine tkb 0 rfl (fun _ _ _ h => h) hHeld ?_
                    try simp only [Act.put, nmb]
                    refine tkb 1 rfl (fun _ _ _ h => h) hHeld ?_
                    try simp only [Act.put, nmb]
                    refine tkb 2 rfl (fun _ _ _ h => h) hHeld ?_
                    try simp only [Act.put, nmb]
                    refine wpAnyH_take (i := 3) rfl (by kernel_rfl) (by kernel_rfl) (by kernel_rfl) (fun _ _ _ h => h) (Or.inr ⟨by rfl, rfl⟩) hHeld ?_
                    try simp only [Act.put, nmb]
                    refine wpAnyH_take (i := 4) rfl (by kernel_rfl) (by kernel_rfl) (by kernel_rfl) (fun _ _ _ h => h) (Or.inr ⟨by rfl, rfl⟩) hHeld ?_
                    try simp only [Act.put, nmb]
                    refine wpAnyH_take (i := 5) rfl (by kernel_rfl) (by kernel_rfl) (by kernel_rfl) (fun _ _ _ h => h) (Or.inr ⟨by rfl, rfl⟩) hHeld ?_
                    try simp only [Act.put, nmb]
                    refine tkb 6 rfl (fun _ _ _ h => h) hHeld ?_
                    try simp only [Act.put, nmb]
                    refine tkb 7 rfl (fun _ _ _ h => h) hHeld ?_
                    try simp only [Act.put, nmb]
                    refine tkb 8 rfl (fun _ _ _ h => h) hHeld ?_
                    try simp only [Act.put, nmb]
                    refine tkb 9 rfl (fun _ _ _ h => h) hHeld ?_
                    try simp only [Act.put, nmb]
                    refine tkb 10 rfl (fun _ _ _ h => h) hHeld ?_
                    try simp only [Act.put, nmb]
                    refine tkb 11 rfl (fun _ _ _ h => h) hHeld ?_
                    try simp only [Act.put, nmb]
                    refine tkb 12 rfl (fun _ _ _ h => h) hHeld ?_
                    try simp only [Act.put, nmb]
                    refine tkb 13 rfl (fun _ _ _ h => h) hHeld ?_
                    try simp only [Act.put, nmb]
                    refine tkb 14 rfl (fun _ _ _ h => h) hHeld ?_
                    try simp only [Act.put, nmb]
                    refine tkb 15 rfl (fun _ _ _ h => h) hHeld ?_
                    try simp only [Act.put, nmb]
                    refine tkb 16 rfl (fun _ _ _ h => h) hHeld ?_
                    try simp only [Act.put, nmb]
                    refine tkb 17 rfl (fun _ _ _ h => h) hHeld ?_
                    try simp only [Act.put, nmb]
                    refine tkb 18 rfl (fun _ _ _ h => h) hHeld ?_
                    try simp only [Act.put, nmb]
                    refine tkb 19 rfl (fun _ _ _ h => h) hHeld ?_
                    try simp only [Act.put, nmb]
                    refine tkb 20 rfl (fun _ _ _ h => h) hHeld ?_
                    try simp only [Act.put, nmb]
                    refine tkb 21 rfl (fun _ _ _ h => h) hHeld ?_
                    try simp only [Act.put, nmb]
                    refine tkb 22 rfl (fun _ _ _ h => h) hHeld ?_
                    try simp only [Act.put, nmb]
                    refine tkb 23 rfl (fun _ _ _ h => h) hHeld ?_
                    try simp only [Act.put, nmb]
                    refine tkb 24 rfl (fun _ _ _ h => h) hHeld ?_
                    try simp only [Act.put, nmb]
                    refine tkb 25 rfl (fun _ _ _ h => h) hHeld ?_
                    try simp only [Act.put, nmb]
                    refine tkb 26 rfl (fun _ _ _ h => h) hHeld ?_
                    try simp only [Act.put, nmb]
                    refine tkb 27 rfl (fun _ _ _ h => h) hHeld ?_
                    try simp only [Act.put, nmb]
                    refine tkb 28 rfl (fun _ _ _ h => h) hHeld ?_
                    try simp only [Act.put, nmb]
                    refine tkb 29 rfl (fun _ _ _ h => h) hHeld ?_
                    try simp only [Act.put, nmb]
                    refine tkb 30 rfl (fun _ _ _ h => h) hHeld ?_
                    try simp only [Act.put, nmb]
                    refine tkb 31 rfl (fun _ _ _ h => h) hHeld ?_
                    try simp only [Act.put, nmb]
                    refine tkb 32 rfl (fun _ _ _ h => h) hHeld ?_
                    try simp only [Act.put, nmb]
                    refine tkb 33 rfl (fun _ _ _ h => h) hHeld ?_
                    try simp only [Act.put, nmb]
                    refine tkb 34 rfl (fun _ _ _ h => h) hHeld ?_
                    try simp only [Act.put, nmb]
                    refine tkb 35 rfl (fun _ _ _ h => h) hHeld ?_
                    try simp only [Act.put, nmb]
                    refine tkb 36 rfl (fun _ _ _ h => h) hHeld ?_
                    try simp only [Act.put, nmb]
                    refine tkb 37 rfl (fun _ _ _ h => h) hHeld ?_
                    try simp only [Act.put, nmb]
                    refine tkb 38 rfl (fun _ _ _ h => h) hHeld ?_
                    try simp only [Act.put, nmb]
                    refine tkb 39 rfl (fun _ _ _ h => h) hHeld ?_
                    try simp only [Act.put, nmb]
                    refine tkb 40 rfl (fun _ _ _ h => h) hHeld ?_
                    try simp only [Act.put, nmb]
                    refine tkb 41 rfl (fun _ _ _ h => h) hHeld ?_
                    try simp only [Act.put, nmb]
                    refine tkb 42 rfl (fun _ _ _ h => h) hHeld ?_
                    try simp only [Act.put, nmb]
                    refine tkb 43 rfl (fun _ _ _ h => h) hHeld ?_
                    try simp only [Act.put, nmb]
                    refine tkb 44 rfl (fun _ _ _ h => h) hHeld ?_
                    try simp only [Act.put, nmb]
                    refine tkb 45 rfl (fun _ _ _ h => h) hHeld ?_
                    try simp only [Act.put, nmb]
                    refine wpAnyH_done (by kernel_rfl) ?_ _
                    refine NoPanic.normal ?_
                    go_wp2_with fail
                    go_roundw
                    case rel => exact ⟨k + 1 + 1, by omega, by go_num, Lib.hid (fun j hj => by
                      have hj2 : j = k + 1 := by omega
                      subst hj2
                      rw [HX2.out]
                      exact ⟨HF.out, by dsimp only; omega⟩), HBD.out⟩
                    case measure => simp [intOf]; omega
      · obtain rfl : k = nL := by omega
        have HV := Lib.hid (show okL (nC : Int) ls = true from by
          cases k with
          | zero => rw [List.eq_nil_of_length_eq_zero HLN.out]; rfl
          | succ j => rw [(HO.out j rfl).1, List.drop_eq_nil_of_le (by have := HLN.out; omega)]; rfl)
        have HRV := Lib.hid (show rr = 0 from by rw [← HRR.out, HV.out]; rfl)
        clear hbel
        go_wp2_with fail
        go_ret
        exact ⟨ret_int (by rw [HRV.out]), to_ HB0.out HBE.out⟩
end Go.Proofs.YtbknmapkdjmcjaaGreatDoor.By

namespace Go.Proofs.YtbknmapkdjmcjaaGreatDoor.By
open Go.RowKit
open Mem Gm Rf
set_option linter.unusedSimpArgs false
set_option linter.unusedVariables false

theorem opd0 (k : Nat) : opdV 0 0 0 0 k = 0 := by
  unfold opdV
  simp
theorem ch0 (o : Int) (h : 1 ≤ o ∧ o ≤ 28) : chV o 0 0 0 0 = 0 :=
  ch_ok h (fun k hk => by rcases quad k hk with rfl | rfl | rfl | rfl <;> (unfold inV; decide)) fun k hk => fun ha => ha.2 (opd0 k)
theorem wd_lit {α : Type} {k : Nat} {enc : α → List Value} {w : World} {b : Nat} {t : TypeId} {cs : Array Value} (hk : ∀ x, (enc x).length = k) (l : List α) (n : Nat) (hn : l.length = n) (hm : n ≤ 1000) (hb : Blk w b t cs) (hc : cs.toList = l.flatMap enc) : Wd k enc w w.heap.size (some ⟨b, 0, none⟩) n n l :=
  ⟨hn, Nat.le_refl _, by unfold maxLen; omega, nofun, fun i x hi => ⟨_, rfl, hb.lt, fun j u hu => by
    rw [add_twice, add_plain, Nat.zero_add, hb.cell, ← Array.getElem?_toList, hc]
    exact flat_at hk l i x j u hi hu⟩⟩
theorem encLn_len (x : Ln) : (encLn x).length = 2 := rfl
theorem encIn_len (x : In5) : (encIn x).length = 5 := rfl
theorem blk9f {w : World} {g : Nat} {t : TypeId} {cs : Array Value} (h : Blk w g t cs) : w.frozen? ⟨g, 0, none⟩ = false ∧ w.frozen? ⟨g, 1, none⟩ = false ∧ w.frozen? ⟨g, 2, none⟩ = false ∧ w.frozen? ⟨g, 3, none⟩ = false ∧ w.frozen? ⟨g, 4, none⟩ = false ∧ w.frozen? ⟨g, 5, none⟩ = false ∧ w.frozen? ⟨g, 6, none⟩ = false ∧ w.frozen? ⟨g, 7, none⟩ = false ∧ w.frozen? ⟨g, 8, none⟩ = false :=
  ⟨h.frozen 0, h.frozen 1, h.frozen 2, h.frozen 3, h.frozen 4, h.frozen 5, h.frozen 6, h.frozen 7, h.frozen 8⟩
def set9 (w : World) (g : Nat) (a0 a1 a2 a3 a4 a5 a6 a7 a8 : Value) : World := ((((((((w.setCell ⟨g, 0, none⟩ a0).setCell ⟨g, 1, none⟩ a1).setCell ⟨g, 2, none⟩ a2).setCell ⟨g, 3, none⟩ a3).setCell ⟨g, 4, none⟩ a4).setCell ⟨g, 5, none⟩ a5).setCell ⟨g, 6, none⟩ a6).setCell ⟨g, 7, none⟩ a7).setCell ⟨g, 8, none⟩ a8
theorem blk_set9 {w : World} {g : Nat} {t : TypeId} (a0 a1 a2 a3 a4 a5 a6 a7 a8 : Value) (h : Blk w g t #[.int .i64 0, .slice none 0 0, .int .i64 0, .bool false, .int .i64 0, .int .i64 0, .slice none 0 0, .slice none 0 0, .slice none 0 0]) : Blk (set9 w g a0 a1 a2 a3 a4 a5 a6 a7 a8) g t #[a0, a1, a2, a3, a4, a5, a6, a7, a8] := by
  have h0 : Blk (w.setCell ⟨g, 0, none⟩ a0) g t #[a0, .slice none 0 0, .int .i64 0, .bool false, .int .i64 0, .int .i64 0, .slice none 0 0, .slice none 0 0, .slice none 0 0] := h.stored 0 a0
  have h1 : Blk ((w.setCell ⟨g, 0, none⟩ a0).setCell ⟨g, 1, none⟩ a1) g t #[a0, a1, .int .i64 0, .bool false, .int .i64 0, .int .i64 0, .slice none 0 0, .slice none 0 0, .slice none 0 0] := h0.stored 1 a1
  have h2 : Blk (((w.setCell ⟨g, 0, none⟩ a0).setCell ⟨g, 1, none⟩ a1).setCell ⟨g, 2, none⟩ a2) g t #[a0, a1, a2, .bool false, .int .i64 0, .int .i64 0, .slice none 0 0, .slice none 0 0, .slice none 0 0] := h1.stored 2 a2
  have h3 : Blk ((((w.setCell ⟨g, 0, none⟩ a0).setCell ⟨g, 1, none⟩ a1).setCell ⟨g, 2, none⟩ a2).setCell ⟨g, 3, none⟩ a3) g t #[a0, a1, a2, a3, .int .i64 0, .int .i64 0, .slice none 0 0, .slice none 0 0, .slice none 0 0] := h2.stored 3 a3
  have h4 : Blk (((((w.setCell ⟨g, 0, none⟩ a0).setCell ⟨g, 1, none⟩ a1).setCell ⟨g, 2, none⟩ a2).setCell ⟨g, 3, none⟩ a3).setCell ⟨g, 4, none⟩ a4) g t #[a0, a1, a2, a3, a4, .int .i64 0, .slice none 0 0, .slice none 0 0, .slice none 0 0] := h3.stored 4 a4
  have h5 : Blk ((((((w.setCell ⟨g, 0, none⟩ a0).setCell ⟨g, 1, none⟩ a1).setCell ⟨g, 2, none⟩ a2).setCell ⟨g, 3, none⟩ a3).setCell ⟨g, 4, none⟩ a4).setCell ⟨g, 5, none⟩ a5) g t #[a0, a1, a2, a3, a4, a5, .slice none 0 0, .slice none 0 0, .slice none 0 0] := h4.stored 5 a5
  have h6 : Blk (((((((w.setCell ⟨g, 0, none⟩ a0).setCell ⟨g, 1, none⟩ a1).setCell ⟨g, 2, none⟩ a2).setCell ⟨g, 3, none⟩ a3).setCell ⟨g, 4, none⟩ a4).setCell ⟨g, 5, none⟩ a5).setCell ⟨g, 6, none⟩ a6) g t #[a0, a1, a2, a3, a4, a5, a6, .slice none 0 0, .slice none 0 0] := h5.stored 6 a6
  have h7 : Blk ((((((((w.setCell ⟨g, 0, none⟩ a0).setCell ⟨g, 1, none⟩ a1).setCell ⟨g, 2, none⟩ a2).setCell ⟨g, 3, none⟩ a3).setCell ⟨g, 4, none⟩ a4).setCell ⟨g, 5, none⟩ a5).setCell ⟨g, 6, none⟩ a6).setCell ⟨g, 7, none⟩ a7) g t #[a0, a1, a2, a3, a4, a5, a6, a7, .slice none 0 0] := h6.stored 7 a7
  have h8 : Blk (((((((((w.setCell ⟨g, 0, none⟩ a0).setCell ⟨g, 1, none⟩ a1).setCell ⟨g, 2, none⟩ a2).setCell ⟨g, 3, none⟩ a3).setCell ⟨g, 4, none⟩ a4).setCell ⟨g, 5, none⟩ a5).setCell ⟨g, 6, none⟩ a6).setCell ⟨g, 7, none⟩ a7).setCell ⟨g, 8, none⟩ a8) g t #[a0, a1, a2, a3, a4, a5, a6, a7, a8] := h7.stored 8 a8
  exact h8
theorem set9_only (w : World) (g : Nat) (a0 a1 a2 a3 a4 a5 a6 a7 a8 : Value) : w.grownBy (set9 w g a0 a1 a2 a3 a4 a5 a6 a7 a8) (some g) :=
  only_set (only_set (only_set (only_set (only_set (only_set (only_set (only_set (only_set (only_refl w g) 0 a0) 1 a1) 2 a2) 3 a3) 4 a4) 5 a5) 6 a6) 7 a7) 8 a8
def fewB (nK nL nC nR : Nat) : Bool := decide (nK ≤ 100) && decide (nL ≤ 100) && decide (nC ≤ 100) && decide (nR ≤ 100)
set_option maxHeartbeats 2000000 in
theorem fewF_any (w : World) (k0 pd f0 t0 : Int) (ns : Bool) (AK AL AC AR : Option Addr) (nK cK nL cL nC cC nR cR : Nat) :
    Calls Tryz.prog 14 #[.agg #[.int .i64 k0, .slice AK nK cK, .int .i64 pd, .bool ns, .int .i64 f0, .int .i64 t0, .slice AL nL cL, .slice AC nC cC, .slice AR nR cR]] w fun e w' => e = .returned (.bool (fewB nK nL nC nR)) ∧ Below w.heap.size w w' := by
  have hb0 : Blk (w.alloc (.cells #[.int .i64 k0, .slice AK nK cK, .int .i64 pd, .bool ns, .int .i64 f0, .int .i64 t0, .slice AL nL cL, .slice AC nC cC, .slice AR nR cR] 27)) w.heap.size 27 #[.int .i64 k0, .slice AK nK cK, .int .i64 pd, .bool ns, .int .i64 f0, .int .i64 t0, .slice AL nL cL, .slice AC nC cC, .slice AR nR cR] := Blk.new w _ _
  have HB := Lib.hid (alloc_ w (.cells #[.int .i64 k0, .slice AK nK cK, .int .i64 pd, .bool ns, .int .i64 f0, .int .i64 t0, .slice AL nL cL, .slice AC nC cC, .slice AR nR cR] 27))
  obtain ⟨c0, c1, c2, c3, c4, c5, c6, c7, c8⟩ := blk9 hb0
  clear hb0
  unfold fewB
  by_cases h1 : nK ≤ 100
  · have i1 : (nK : Int) ≤ 100 := by omega
    by_cases h2 : nL ≤ 100
    · have i2 : (nL : Int) ≤ 100 := by omega
      by_cases h3 : nC ≤ 100
      · have i3 : (nC : Int) ≤ 100 := by omega
        by_cases h4 : nR ≤ 100
        · have i4 : (nR : Int) ≤ 100 := by omega
          rw [decide_eq_true h1, decide_eq_true h2, decide_eq_true h3, decide_eq_true h4]
          try clear h1
          try clear h2
          try clear h3
          try clear h4
          go_enter Tryz.func14, Tryz.ntmps14
          go_wp2_with fail
          go_ret
          exact ⟨rfl, HB.out⟩
        · have i4 : ¬ (nR : Int) ≤ 100 := by omega
          rw [decide_eq_true h1, decide_eq_true h2, decide_eq_true h3, decide_eq_false h4]
          try clear h1
          try clear h2
          try clear h3
          try clear h4
          go_enter Tryz.func14, Tryz.ntmps14
          go_wp2_with fail
          go_ret
          exact ⟨rfl, HB.out⟩
      · have i3 : ¬ (nC : Int) ≤ 100 := by omega
        rw [decide_eq_true h1, decide_eq_true h2, decide_eq_false h3, Bool.and_false, Bool.false_and]
        try clear h1
        try clear h2
        try clear h3
        try clear h4
        go_enter Tryz.func14, Tryz.ntmps14
        go_wp2_with fail
        go_ret
        exact ⟨rfl, HB.out⟩
    · have i2 : ¬ (nL : Int) ≤ 100 := by omega
      rw [decide_eq_true h1, decide_eq_false h2, Bool.and_false, Bool.false_and, Bool.false_and]
      try clear h1
      try clear h2
      try clear h3
      try clear h4
      go_enter Tryz.func14, Tryz.ntmps14
      go_wp2_with fail
      go_ret
      exact ⟨rfl, HB.out⟩
  · have i1 : ¬ (nK : Int) ≤ 100 := by omega
    rw [decide_eq_false h1, Bool.false_and, Bool.false_and, Bool.false_and]
    try clear h1
    try clear h2
    try clear h3
    try clear h4
    go_enter Tryz.func14, Tryz.ntmps14
    go_wp2_with fail
    go_ret
    exact ⟨rfl, HB.out⟩
end Go.Proofs.YtbknmapkdjmcjaaGreatDoor.By

namespace Go.Proofs.YtbknmapkdjmcjaaGreatDoor.By
open Go.RowKit
open Mem Gm Rf
set_option linter.unusedSimpArgs false
set_option linter.unusedVariables false

def okF (m z : Int) (l : List Rl) : Bool := risB m z (l.map fun y => y.1) && !(l.any rfB9)
theorem okF_at {m z : Int} {l : List Rl} {k : Nat} {x : Rl} (h : l[k]? = some x) : okF m z (l.drop k) = ((decide (z < x.1) && decide (x.1 < m)) && (!rfB9 x && okF m x.1 (l.drop (k + 1)))) := by
  have hk := (List.getElem?_eq_some_iff.1 h).1
  have hx := (List.getElem?_eq_some_iff.1 h).2
  unfold okF
  rw [List.drop_eq_getElem_cons hk, hx, List.map_cons, List.any_cons, risB]
  cases decide (z < x.1) <;> cases decide (x.1 < m) <;> cases rfB9 x <;> simp
def paV (x : Fn) : Int := if frB x.pd 4096 = true then 0 else 9
theorem chF_doc (x : Fn) : chF x = firN [slV x, paV x, cdV x, rgV x, lnV9 x, rfV9 x] := by
  have h : frV x = if slV x ≠ 0 then slV x else paV x := by
    unfold frV slV paV
    have h0 : 0 ≤ Si.parV x.k := by unfold Si.parV; split <;> omega
    obtain ⟨p, hp⟩ : ∃ p : Nat, Si.parV x.k = (p : Int) := ⟨(Si.parV x.k).toNat, by omega⟩
    have hk : kdL (Si.parV x.k) 0 x.ks = (x.ks.any nkB || (x.ks.take (Si.parV x.k).toNat).any nnB) := by
      rw [hp, kdL_any, Int.toNat_natCast]; rfl
    rw [hk]
    split
    · simp
    · split
      · simp
      · split
        · simp
        · split
          · simp
          · simp
  unfold chF
  simp only [firN, h]
  by_cases h1 : slV x = 0
  · simp [h1]
  · simp [h1]

set_option maxRecDepth 100000 in
set_option maxHeartbeats 8000000 in
theorem rchkF_any (w : World) (AK AL AC AR : Option Addr) (nK cK nL cL nC cC nR cR : Nat) (x : Fn) (hF : FnW w AK nK cK AL nL cL AC nC cC AR nR cR x) (hnn : nK ≤ 1000000 ∧ nL ≤ 1000000 ∧ nC ≤ 1000000 ∧ nR ≤ 1000000) (hB : (∀ z ∈ x.ks, -9223372036854775808 ≤ z ∧ z ≤ 9223372036854775807) ∧ ∀ k, k < x.cs.length → -9223372036854775808 ≤ (inAt x.cs k).1 ∧ (inAt x.cs k).1 ≤ 9223372036854775807) :
    Calls Tryz.prog 17 #[.agg #[.int .i64 x.k, .slice AK nK cK, .int .i64 x.pd, .bool x.ns, .int .i64 x.f, .int .i64 x.t, .slice AL nL cL, .slice AC nC cC, .slice AR nR cR]] w (CAns w (chF x)) := by
  rw [chF_doc]
  obtain ⟨k0, ks, pd, ns, f0, t0, ls, cs, rs⟩ := x
  have hF0 := hF
  obtain ⟨hk, hkl, hl, hc, hr⟩ := hF
  dsimp only at hk hkl hl hc hr hB ⊢
  have hll : ls.length = nL := hl.1
  have hcl : cs.length = nC := hc.1
  have hrl : rs.length = nR := hr.1
  obtain ⟨W1, hW1⟩ : ∃ W1, w.alloc (.cells #[.int .i64 k0, .slice AK nK cK, .int .i64 pd, .bool ns, .int .i64 f0, .int .i64 t0, .slice AL nL cL, .slice AC nC cC, .slice AR nR cR] 27) = W1 := ⟨_, rfl⟩
  have hsz1 : w.heap.size < W1.heap.size := by rw [← hW1]; simp
  have HB0 := Lib.hid (show Below w.heap.size w W1 by rw [← hW1]; exact alloc_ _ _)
  have HX := Lib.hid (show ∀ W, Below W1.heap.size W1 W → Blk W w.heap.size 27 #[.int .i64 k0, .slice AK nK cK, .int .i64 pd, .bool ns, .int .i64 f0, .int .i64 t0, .slice AL nL cL, .slice AC nC cC, .slice AR nR cR] from fun W hb => (hb.block _ hsz1).trans (by rw [← hW1]; exact Blk.new w _ _))
  obtain ⟨c0, c1, c2, c3, c4, c5, c6, c7, c8⟩ := blk9 (HX.out W1 (Below.refl _ _))
  have HSL := Lib.hid (rslots_any W1 AK AL AC AR nK cK nL cL nC cC nR cR ⟨k0, ks, pd, ns, f0, t0, ls, cs, rs⟩ (hF0.on HB0.out) hnn hB.1)
  have HCO := Lib.hid (fun W (hb : Below W1.heap.size W1 W) => rcode_any W AK AL AC AR nK cK nL cL nC cC nR cR ⟨k0, ks, pd, ns, f0, t0, ls, cs, rs⟩ (hF0.on (to_ HB0.out hb)) hnn hB.2)
  have HLI := Lib.hid (fun W (hb : Below W1.heap.size W1 W) => rlines_any W AK AL AC AR nK cK nL cL nC cC nR cR ⟨k0, ks, pd, ns, f0, t0, ls, cs, rs⟩ (hF0.on (to_ HB0.out hb)) hnn)
  have HRC := Lib.hid (fun W (hb : Below W1.heap.size W1 W) i (hi : i < nR) => (hr.on (to_ HB0.out hb)).at_ hi)
  have HS := Lib.hid (show ∀ k, k < nR → rs[k]? = some (rlAt rs k) from fun k hk => rlAt_some (by omega))
  have HLN := Lib.hid hrl
  have hb4 := hnn.2.2.2
  have hrg : rgV ⟨k0, ks, pd, ns, f0, t0, ls, cs, rs⟩ = if s4B f0 t0 nC = true then 0 else 9 := by unfold rgV; dsimp only; rw [hcl]
  have hpa : paV ⟨k0, ks, pd, ns, f0, t0, ls, cs, rs⟩ = if frB pd 4096 = true then 0 else 9 := rfl
  have hrf : rfV9 ⟨k0, ks, pd, ns, f0, t0, ls, cs, rs⟩ = if okF (nC : Int) (-1) rs = true then 0 else 11 := by unfold rfV9 okF; dsimp only; rw [hcl]
  rw [hrg, hpa, hrf]
  generalize slV ⟨k0, ks, pd, ns, f0, t0, ls, cs, rs⟩ = rS at HSL ⊢
  generalize cdV ⟨k0, ks, pd, ns, f0, t0, ls, cs, rs⟩ = rC at HCO ⊢
  generalize lnV9 ⟨k0, ks, pd, ns, f0, t0, ls, cs, rs⟩ = rL at HLI ⊢
  dsimp only at HSL HCO HLI
  clear hk hkl hl hc hr hll hcl hrl hsz1 hB hF0 hrg hpa hrf
  by_cases hs : rS = 0
  · subst hs
    rw [show firN [0, (if frB pd 4096 = true then (0 : Int) else 9), rC, (if s4B f0 t0 nC = true then (0 : Int) else 9), rL, (if okF (nC : Int) (-1) rs = true then (0 : Int) else 11)] = firN [(if frB pd 4096 = true then (0 : Int) else 9), rC, (if s4B f0 t0 nC = true then (0 : Int) else 9), rL, (if okF (nC : Int) (-1) rs = true then (0 : Int) else 11)] from by rw [firN, if_neg (by simp)]]
    by_cases p1 : pd < 0
    · rw [show frB pd 4096 = false from by unfold frB; rw [decide_eq_false (show ¬ 0 ≤ pd by omega)]; rfl, if_neg Bool.false_ne_true, firN, if_pos (by decide)]
      go_enter Tryz.func17, Tryz.ntmps17
      go_wp2_with (first
        | (go_at_call 63; refine HSL.out.mono ?_; rintro e w7 ⟨rfl, b⟩; have HB7 := Lib.hid b; clear b c0 c1 c2 c3 c4 c5 c6 c7 c8; obtain ⟨c0, c1, c2, c3, c4, c5, c6, c7, c8⟩ := blk9 (HX.out w7 HB7.out)))
      go_ret
      exact ⟨rfl, to_ HB0.out HB7.out⟩
    · by_cases p2 : (4096 : Int) < pd
      · rw [show frB pd 4096 = false from by unfold frB; rw [decide_eq_false (show ¬ pd ≤ 4096 by omega)]; simp, if_neg Bool.false_ne_true, firN, if_pos (by decide)]
        go_enter Tryz.func17, Tryz.ntmps17
        go_wp2_with (first
          | (go_at_call 63; refine HSL.out.mono ?_; rintro e w7 ⟨rfl, b⟩; have HB7 := Lib.hid b; clear b c0 c1 c2 c3 c4 c5 c6 c7 c8; obtain ⟨c0, c1, c2, c3, c4, c5, c6, c7, c8⟩ := blk9 (HX.out w7 HB7.out)))
        go_ret
        exact ⟨rfl, to_ HB0.out HB7.out⟩
      · rw [show frB pd 4096 = true from by unfold frB; rw [decide_eq_true (show 0 ≤ pd by omega), decide_eq_true (show pd ≤ 4096 by omega)]; rfl, if_pos rfl, firN, if_neg (by simp), firN]
        by_cases hc : rC = 0
        · subst hc
          rw [if_neg (by simp)]
          by_cases q1 : f0 < 0
          · rw [show s4B f0 t0 nC = false from by unfold s4B; rw [decide_eq_false (show ¬ 0 ≤ f0 by omega)]; simp, if_neg Bool.false_ne_true, firN, if_pos (by decide)]
            go_enter Tryz.func17, Tryz.ntmps17
            go_wp2_with (first
              | (go_at_call 63; refine HSL.out.mono ?_; rintro e w7 ⟨rfl, b⟩; have HB7 := Lib.hid b; clear b c0 c1 c2 c3 c4 c5 c6 c7 c8; obtain ⟨c0, c1, c2, c3, c4, c5, c6, c7, c8⟩ := blk9 (HX.out w7 HB7.out))
              | (go_at_call 64; refine (HCO.out _ HB7.out).mono ?_; rintro e w8 ⟨rfl, b⟩; have HB8 := Lib.hid (to_ HB7.out b); clear b c0 c1 c2 c3 c4 c5 c6 c7 c8; obtain ⟨c0, c1, c2, c3, c4, c5, c6, c7, c8⟩ := blk9 (HX.out w8 HB8.out)))
            go_ret
            exact ⟨rfl, to_ HB0.out HB8.out⟩
          · by_cases q2 : t0 < f0
            · rw [show s4B f0 t0 nC = false from by unfold s4B; rw [decide_eq_false (show ¬ f0 ≤ t0 by omega)]; simp, if_neg Bool.false_ne_true, firN, if_pos (by decide)]
              go_enter Tryz.func17, Tryz.ntmps17
              go_wp2_with (first
                | (go_at_call 63; refine HSL.out.mono ?_; rintro e w7 ⟨rfl, b⟩; have HB7 := Lib.hid b; clear b c0 c1 c2 c3 c4 c5 c6 c7 c8; obtain ⟨c0, c1, c2, c3, c4, c5, c6, c7, c8⟩ := blk9 (HX.out w7 HB7.out))
                | (go_at_call 64; refine (HCO.out _ HB7.out).mono ?_; rintro e w8 ⟨rfl, b⟩; have HB8 := Lib.hid (to_ HB7.out b); clear b c0 c1 c2 c3 c4 c5 c6 c7 c8; obtain ⟨c0, c1, c2, c3, c4, c5, c6, c7, c8⟩ := blk9 (HX.out w8 HB8.out)))
              go_ret
              exact ⟨rfl, to_ HB0.out HB8.out⟩
            · by_cases q3 : (nC : Int) < t0
              · rw [show s4B f0 t0 nC = false from by unfold s4B; rw [decide_eq_false (show ¬ t0 ≤ (nC : Int) by omega)]; simp, if_neg Bool.false_ne_true, firN, if_pos (by decide)]
                go_enter Tryz.func17, Tryz.ntmps17
                go_wp2_with (first
                  | (go_at_call 63; refine HSL.out.mono ?_; rintro e w7 ⟨rfl, b⟩; have HB7 := Lib.hid b; clear b c0 c1 c2 c3 c4 c5 c6 c7 c8; obtain ⟨c0, c1, c2, c3, c4, c5, c6, c7, c8⟩ := blk9 (HX.out w7 HB7.out))
                  | (go_at_call 64; refine (HCO.out _ HB7.out).mono ?_; rintro e w8 ⟨rfl, b⟩; have HB8 := Lib.hid (to_ HB7.out b); clear b c0 c1 c2 c3 c4 c5 c6 c7 c8; obtain ⟨c0, c1, c2, c3, c4, c5, c6, c7, c8⟩ := blk9 (HX.out w8 HB8.out)))
                go_ret
                exact ⟨rfl, to_ HB0.out HB8.out⟩
              · rw [show s4B f0 t0 nC = true from by unfold s4B; rw [decide_eq_true (show 0 ≤ f0 by omega), decide_eq_true (show f0 ≤ t0 by omega), decide_eq_true (show t0 ≤ (nC : Int) by omega)]; rfl, if_pos rfl, firN, if_neg (by simp), firN]
                by_cases hl : rL = 0
                · subst hl
                  rw [if_neg (by simp)]
                  obtain ⟨rr, hrr⟩ : ∃ r : Int, firN [(if okF (nC : Int) (-1) rs = true then (0 : Int) else 11)] = r := ⟨_, rfl⟩
                  rw [hrr]
                  have HRR := Lib.hid (show (okF (nC : Int) (-1) rs = true → rr = 0) ∧ (okF (nC : Int) (-1) rs = false → rr = 11) from ⟨fun h => by rw [← hrr, h]; rfl, fun h => by rw [← hrr, h]; rfl⟩)
                  clear hrr
                  go_enter Tryz.func17, Tryz.ntmps17
                  go_wp2_with (first
                    | (go_at_call 63; refine HSL.out.mono ?_; rintro e w7 ⟨rfl, b⟩; have HB7 := Lib.hid b; clear b c0 c1 c2 c3 c4 c5 c6 c7 c8; obtain ⟨c0, c1, c2, c3, c4, c5, c6, c7, c8⟩ := blk9 (HX.out w7 HB7.out))
                    | (go_at_call 64; refine (HCO.out _ HB7.out).mono ?_; rintro e w8 ⟨rfl, b⟩; have HB8 := Lib.hid (to_ HB7.out b); clear b c0 c1 c2 c3 c4 c5 c6 c7 c8; obtain ⟨c0, c1, c2, c3, c4, c5, c6, c7, c8⟩ := blk9 (HX.out w8 HB8.out))
                    | (go_at_call 65; refine (HLI.out _ HB8.out).mono ?_; rintro e w9 ⟨rfl, b⟩; have HB9 := Lib.hid (to_ HB8.out b); clear b c0 c1 c2 c3 c4 c5 c6 c7 c8; obtain ⟨c0, c1, c2, c3, c4, c5, c6, c7, c8⟩ := blk9 (HX.out w9 HB9.out)))
                  clear hW1
                  go_loopw [6] (fun i wr => ∃ (k : Nat) (z : Int), k ≤ nR ∧ i = .int .i64 (k : Int) ∧ Hid (okF (nC : Int) (-1) rs = okF (nC : Int) z (rs.drop k) ∧ (k = 0 → z = -1) ∧ (0 < k → z = (rlAt rs (k - 1)).1 ∧ 0 ≤ z)) ∧ Below W1.heap.size W1 wr) (fun i _ => nR - (intOf i).toNat)
                  case atStart => exact ⟨0, -1, Nat.zero_le _, rfl, Lib.hid ⟨by rw [List.drop_zero], fun _ => rfl, fun h => by omega⟩, HB9.out⟩
                  case round =>
                    obtain ⟨k, z, hk, rfl, HO, hbel⟩ := hrel
                    have HBE := Lib.hid hbel
                    clear c0 c1 c2 c3 c4 c5 c6 c7 c8
                    obtain ⟨c0, c1, c2, c3, c4, c5, c6, c7, c8⟩ := blk9 (HX.out wr hbel)
                    by_cases hlt : k < nR
                    · have hkI : (k : Int) < (nR : Int) := by omega
                      have hk0 : (0 : Int) ≤ (k : Int) := by omega
                      obtain ⟨ad, had⟩ : ∃ ad, AR = some ad := (HRC.out wr hbel k hlt).imp fun _ h => h.1
                      subst had
                      obtain ⟨ad1, e1, _, a0, a1, a2⟩ := HRC.out wr hbel k hlt
                      injection e1 with e1
                      subst e1
                      have HK := Lib.hid (HO.out.1.trans (okF_at (HS.out k hlt)))
                      obtain ⟨x, hx⟩ : ∃ x, rlAt rs k = x := ⟨_, rfl⟩
                      have HX2 := Lib.hid hx
                      rw [hx] at HK a0 a1 a2
                      obtain ⟨x0, x1, x2⟩ := x
                      dsimp only at HK HX2 a0 a1 a2
                      have HZ := Lib.hid HO.out.2
                      clear hx
                      by_cases hkz : k = 0
                      · have hz : z = -1 := HO.out.2.1 hkz
                        have kz : decide ((0 : Int) < (k : Int)) = false := decide_eq_false (by omega)
                        have kz2 : ¬ (0 : Int) < (k : Int) := by omega
                        have kz3 : ¬ 0 < k := by omega
                        have HZM := Lib.hid (show z < x0 ↔ ¬ x0 < 0 from by omega)
                        have HZ8 := Lib.hid (show (0 : Int) ≤ 0 from by omega)
                        clear hbel hkz hz HO
                        by_cases h2 : x0 < 0
                        · have g2 : decide (x0 < 0) = true := decide_eq_true h2
                          have HF := Lib.hid (HRR.out.2 (show okF (nC : Int) (-1) rs = false from by rw [HK.out]; rw [decide_eq_false (show ¬ z < x0 from fun h => HZM.out.1 h h2)]; rfl))
                          go_wp2_with fail
                          go_ret
                          exact ⟨ret_int (by rw [HF.out]), to_ HB0.out HBE.out⟩
                        · have g2 : decide (x0 < 0) = false := decide_eq_false h2
                          by_cases h3 : (nC : Int) ≤ x0
                          · have g3 : decide ((nC : Int) ≤ x0) = true := decide_eq_true h3
                            have g3' : x0 ≥ (nC : Int) := h3
                            have HF := Lib.hid (HRR.out.2 (show okF (nC : Int) (-1) rs = false from by rw [HK.out]; rw [decide_eq_false (show ¬ x0 < (nC : Int) by omega)]; simp))
                            go_wp2_with fail
                            go_ret
                            exact ⟨ret_int (by rw [HF.out]), to_ HB0.out HBE.out⟩
                          · have g3 : decide ((nC : Int) ≤ x0) = false := decide_eq_false h3
                            have g3' : ¬ x0 ≥ (nC : Int) := h3
                            by_cases h5 : x1 < 0
                            · have g5 : decide (x1 < 0) = true := decide_eq_true h5
                              have hl5 : rfB9 (x0, x1, x2) = true := by unfold rfB9 frB; rw [decide_eq_false (show ¬ (0 : Int) ≤ x1 by omega)]; rfl
                              have HF := Lib.hid (HRR.out.2 (show okF (nC : Int) (-1) rs = false from by rw [HK.out]; rw [hl5]; simp))
                              go_wp2_with fail
                              go_ret
                              exact ⟨ret_int (by rw [HF.out]), to_ HB0.out HBE.out⟩
                            · have g5 : decide (x1 < 0) = false := decide_eq_false h5
                              by_cases h6 : (32 : Int) ≤ x1
                              · have g6 : decide ((32 : Int) ≤ x1) = true := decide_eq_true h6
                                have g6' : x1 ≥ (32 : Int) := h6
                                have hl6 : rfB9 (x0, x1, x2) = true := by unfold rfB9 frB; rw [decide_eq_false (show ¬ x1 ≤ (31 : Int) by omega)]; simp
                                have HF := Lib.hid (HRR.out.2 (show okF (nC : Int) (-1) rs = false from by rw [HK.out]; rw [hl6]; simp))
                                go_wp2_with fail
                                go_ret
                                exact ⟨ret_int (by rw [HF.out]), to_ HB0.out HBE.out⟩
                              · have g6 : decide ((32 : Int) ≤ x1) = false := decide_eq_false h6
                                have g6' : ¬ x1 ≥ (32 : Int) := h6
                                have hl7 : rfB9 (x0, x1, x2) = false := by unfold rfB9 frB; rw [decide_eq_true (show (0 : Int) ≤ x1 by omega), decide_eq_true (show x1 ≤ (31 : Int) by omega)]; rfl
                                have HF := Lib.hid (show okF (nC : Int) (-1) rs = okF (nC : Int) x0 (rs.drop (k + 1)) from by rw [HK.out, hl7, decide_eq_true (HZM.out.2 h2), decide_eq_true (show x0 < (nC : Int) by omega)]; rfl)
                                have HX0 := Lib.hid (show 0 ≤ x0 from by omega)
                                go_wp2_with fail
                                go_roundw
                                case rel => exact ⟨k + 1, x0, by omega, by go_num, Lib.hid ⟨HF.out, fun h => by omega, fun _ => ⟨by rw [Nat.add_sub_cancel, HX2.out], HX0.out⟩⟩, HBE.out⟩
                                case measure => simp [intOf]; omega
                      · obtain ⟨ad1, e1, _, p0, _, _⟩ := HRC.out wr hbel (k - 1) (by omega)
                        injection e1 with e1
                        subst e1
                        obtain ⟨hz, hz0⟩ := HO.out.2.2 (by omega)
                        rw [← hz] at p0
                        have kz : decide ((0 : Int) < (k : Int)) = true := decide_eq_true (by omega)
                        have kz2 : (0 : Int) < (k : Int) := by omega
                        have kz3 : 0 < k := by omega
                        have q4 : IntKind.i64.wrap ((k : Int) - 1) = ((k - 1 : Nat) : Int) := by
                          rw [show (k : Int) - 1 = ((k - 1 : Nat) : Int) by omega]
                          exact IntWalk.i64_in _ (by omega)
                        have q5 : (0 : Int) ≤ ((k - 1 : Nat) : Int) := by omega
                        have q6 : ((k - 1 : Nat) : Int) < (nR : Int) := by omega
                        have HZ0 := Lib.hid hz0
                        clear hbel hkz hz HO hz0
                        by_cases h2 : x0 < 0
                        · have g2 : decide (x0 < 0) = true := decide_eq_true h2
                          have HF := Lib.hid (HRR.out.2 (show okF (nC : Int) (-1) rs = false from by rw [HK.out]; rw [decide_eq_false (show ¬ z < x0 by have := HZ0.out; omega)]; rfl))
                          go_wp2_with fail
                          go_ret
                          exact ⟨ret_int (by rw [HF.out]), to_ HB0.out HBE.out⟩
                        · have g2 : decide (x0 < 0) = false := decide_eq_false h2
                          by_cases h3 : (nC : Int) ≤ x0
                          · have g3 : decide ((nC : Int) ≤ x0) = true := decide_eq_true h3
                            have g3' : x0 ≥ (nC : Int) := h3
                            have HF := Lib.hid (HRR.out.2 (show okF (nC : Int) (-1) rs = false from by rw [HK.out]; rw [decide_eq_false (show ¬ x0 < (nC : Int) by omega)]; simp))
                            go_wp2_with fail
                            go_ret
                            exact ⟨ret_int (by rw [HF.out]), to_ HB0.out HBE.out⟩
                          · have g3 : decide ((nC : Int) ≤ x0) = false := decide_eq_false h3
                            have g3' : ¬ x0 ≥ (nC : Int) := h3
                            by_cases h4 : x0 ≤ z
                            · have g4 : decide (x0 ≤ z) = true := decide_eq_true h4
                              have HF := Lib.hid (HRR.out.2 (show okF (nC : Int) (-1) rs = false from by rw [HK.out]; rw [decide_eq_false (show ¬ z < x0 by omega)]; rfl))
                              go_wp2_with fail
                              go_ret
                              exact ⟨ret_int (by rw [HF.out]), to_ HB0.out HBE.out⟩
                            · have g4 : decide (x0 ≤ z) = false := decide_eq_false h4
                              by_cases h5 : x1 < 0
                              · have g5 : decide (x1 < 0) = true := decide_eq_true h5
                                have hl5 : rfB9 (x0, x1, x2) = true := by unfold rfB9 frB; rw [decide_eq_false (show ¬ (0 : Int) ≤ x1 by omega)]; rfl
                                have HF := Lib.hid (HRR.out.2 (show okF (nC : Int) (-1) rs = false from by rw [HK.out]; rw [hl5]; simp))
                                go_wp2_with fail
                                go_ret
                                exact ⟨ret_int (by rw [HF.out]), to_ HB0.out HBE.out⟩
                              · have g5 : decide (x1 < 0) = false := decide_eq_false h5
                                by_cases h6 : (32 : Int) ≤ x1
                                · have g6 : decide ((32 : Int) ≤ x1) = true := decide_eq_true h6
                                  have g6' : x1 ≥ (32 : Int) := h6
                                  have hl6 : rfB9 (x0, x1, x2) = true := by unfold rfB9 frB; rw [decide_eq_false (show ¬ x1 ≤ (31 : Int) by omega)]; simp
                                  have HF := Lib.hid (HRR.out.2 (show okF (nC : Int) (-1) rs = false from by rw [HK.out]; rw [hl6]; simp))
                                  go_wp2_with fail
                                  go_ret
                                  exact ⟨ret_int (by rw [HF.out]), to_ HB0.out HBE.out⟩
                                · have g6 : decide ((32 : Int) ≤ x1) = false := decide_eq_false h6
                                  have g6' : ¬ x1 ≥ (32 : Int) := h6
                                  have hl7 : rfB9 (x0, x1, x2) = false := by unfold rfB9 frB; rw [decide_eq_true (show (0 : Int) ≤ x1 by omega), decide_eq_true (show x1 ≤ (31 : Int) by omega)]; rfl
                                  have HF := Lib.hid (show okF (nC : Int) (-1) rs = okF (nC : Int) x0 (rs.drop (k + 1)) from by rw [HK.out, hl7, decide_eq_true (show z < x0 by omega), decide_eq_true (show x0 < (nC : Int) by omega)]; rfl)
                                  have HX0 := Lib.hid (show 0 ≤ x0 from by omega)
                                  go_wp2_with fail
                                  go_roundw
                                  case rel => exact ⟨k + 1, x0, by omega, by go_num, Lib.hid ⟨HF.out, fun h => by omega, fun _ => ⟨by rw [Nat.add_sub_cancel, HX2.out], HX0.out⟩⟩, HBE.out⟩
                                  case measure => simp [intOf]; omega
                    · obtain rfl : k = nR := by omega
                      have HV := Lib.hid (HRR.out.1 (by rw [HO.out.1, List.drop_eq_nil_of_le (by have := HLN.out; omega)]; rfl))
                      clear hbel
                      go_wp2_with fail
                      go_ret
                      exact ⟨ret_int (by rw [HV.out]), to_ HB0.out HBE.out⟩
                · have hl2 : (rL == 0) = false := by simp [hl]
                  rw [if_pos hl]
                  clear hl
                  go_enter Tryz.func17, Tryz.ntmps17
                  go_wp2_with (first
                    | (go_at_call 63; refine HSL.out.mono ?_; rintro e w7 ⟨rfl, b⟩; have HB7 := Lib.hid b; clear b c0 c1 c2 c3 c4 c5 c6 c7 c8; obtain ⟨c0, c1, c2, c3, c4, c5, c6, c7, c8⟩ := blk9 (HX.out w7 HB7.out))
                    | (go_at_call 64; refine (HCO.out _ HB7.out).mono ?_; rintro e w8 ⟨rfl, b⟩; have HB8 := Lib.hid (to_ HB7.out b); clear b c0 c1 c2 c3 c4 c5 c6 c7 c8; obtain ⟨c0, c1, c2, c3, c4, c5, c6, c7, c8⟩ := blk9 (HX.out w8 HB8.out))
                    | (go_at_call 65; refine (HLI.out _ HB8.out).mono ?_; rintro e w9 ⟨rfl, b⟩; have HB9 := Lib.hid (to_ HB8.out b); clear b c0 c1 c2 c3 c4 c5 c6 c7 c8; obtain ⟨c0, c1, c2, c3, c4, c5, c6, c7, c8⟩ := blk9 (HX.out w9 HB9.out)))
                  go_ret
                  exact ⟨rfl, to_ HB0.out HB9.out⟩
        · have hc2 : (rC == 0) = false := by simp [hc]
          rw [if_pos hc]
          clear hc
          go_enter Tryz.func17, Tryz.ntmps17
          go_wp2_with (first
            | (go_at_call 63; refine HSL.out.mono ?_; rintro e w7 ⟨rfl, b⟩; have HB7 := Lib.hid b; clear b c0 c1 c2 c3 c4 c5 c6 c7 c8; obtain ⟨c0, c1, c2, c3, c4, c5, c6, c7, c8⟩ := blk9 (HX.out w7 HB7.out))
            | (go_at_call 64; refine (HCO.out _ HB7.out).mono ?_; rintro e w8 ⟨rfl, b⟩; have HB8 := Lib.hid (to_ HB7.out b); clear b c0 c1 c2 c3 c4 c5 c6 c7 c8; obtain ⟨c0, c1, c2, c3, c4, c5, c6, c7, c8⟩ := blk9 (HX.out w8 HB8.out)))
          go_ret
          exact ⟨rfl, to_ HB0.out HB8.out⟩
  · have hs2 : (rS == 0) = false := by simp [hs]
    rw [firN, if_pos hs]
    clear hs
    go_enter Tryz.func17, Tryz.ntmps17
    go_wp2_with (first
      | (go_at_call 63; refine HSL.out.mono ?_; rintro e w7 ⟨rfl, b⟩; have HB7 := Lib.hid b; clear b c0 c1 c2 c3 c4 c5 c6 c7 c8; obtain ⟨c0, c1, c2, c3, c4, c5, c6, c7, c8⟩ := blk9 (HX.out w7 HB7.out)))
    go_ret
    exact ⟨rfl, to_ HB0.out HB7.out⟩
end Go.Proofs.YtbknmapkdjmcjaaGreatDoor.By

namespace Go.Proofs.YtbknmapkdjmcjaaGreatDoor.By
open Go.RowKit
open Mem Gm Rf
set_option linter.unusedSimpArgs false
set_option linter.unusedVariables false

theorem symO_in (rs : List Rl) (l : List Sy) (i : Int) (hb : ∀ k, -9223372036854775808 ≤ (syAt l k).2.2.2.1 ∧ (syAt l k).2.2.2.1 ≤ 9223372036854775807) : -9223372036854775808 ≤ (symO rs l i).2.2.2.1 ∧ (symO rs l i).2.2.2.1 ≤ 9223372036854775807 := by
  unfold symO symA
  split
  · exact ⟨by decide, by decide⟩
  · split
    · exact hb _
    · exact ⟨by decide, by decide⟩
set_option maxHeartbeats 4000000 in
theorem vin_any (w : World) (AK AL AC AR : Option Addr) (nK cK nL cL nC cC nR cR : Nat) (x : Fn) (hF : FnW w AK nK cK AL nL cL AC nC cC AR nR cR x) (hn : nR ≤ 1000000) (hnK : nK ≤ 1000000) (AS : Option Addr) (nS cS : Nat) (l : List Sy) (hS : SyL w AS nS cS l) (hb : ∀ k, -9223372036854775808 ≤ (syAt l k).2.2.2.1 ∧ (syAt l k).2.2.2.1 ≤ 9223372036854775807) (hT : Txs w) (i : Int) :
    Calls Tryz.prog 33 #[.agg #[.int .i64 x.k, .slice AK nK cK, .int .i64 x.pd, .bool x.ns, .int .i64 x.f, .int .i64 x.t, .slice AL nL cL, .slice AC nC cC, .slice AR nR cR], .slice AS nS cS, .int .i64 i] w fun e w' => e = .returned (.int .i64 (veI x l i)) ∧ Below w.heap.size w w' := by
  obtain ⟨W1, hW1⟩ : ∃ W1, w.alloc (.cells #[.int .i64 x.k, .slice AK nK cK, .int .i64 x.pd, .bool x.ns, .int .i64 x.f, .int .i64 x.t, .slice AL nL cL, .slice AC nC cC, .slice AR nR cR] 27) = W1 := ⟨_, rfl⟩
  have HB1 := Lib.hid (show Below w.heap.size w W1 from by rw [← hW1]; exact alloc_ _ _)
  have HX := Lib.hid (show Blk W1 w.heap.size 27 #[.int .i64 x.k, .slice AK nK cK, .int .i64 x.pd, .bool x.ns, .int .i64 x.f, .int .i64 x.t, .slice AL nL cL, .slice AC nC cC, .slice AR nR cR] from by rw [← hW1]; exact Blk.new w _ _)
  obtain ⟨p0, p1, p2, p3, p4, p5, p6, p7, p8⟩ := blk9 HX.out
  have HP := Lib.hid (fun W => inl_any i nC W)
  have hcl : x.cs.length = nC := hF.hc.1
  unfold veI
  rw [hcl]
  cases hin : inL i nC with
  | false =>
    rw [hin] at HP
    rw [if_pos rfl]
    clear hin hcl hF hS hb hT
    go_enter Tryz.func33, Tryz.ntmps33
    go_wp2_with fail
    refine (HP.out _).mono ?_
    rintro e w2 ⟨rfl, rfl⟩
    go_wp2_with fail
    go_ret
    exact ⟨rfl, HB1.out⟩
  | true =>
    rw [hin] at HP
    rw [if_neg (by decide)]
    have hi2 : 0 ≤ i ∧ i < (nC : Int) := by unfold inL at hin; exact of_decide_eq_true hin
    obtain ⟨q, rfl⟩ := Int.eq_ofNat_of_zero_le hi2.1
    have hqI : (q : Int) < (nC : Int) := hi2.2
    have HQ := Lib.hid (show q < nC by omega)
    rw [show ((q : Int).toNat) = q from by simp]
    have HR := Lib.hid (fun W (hw : Below W1.heap.size W1 W) => ref_any W AK AL AC AR nK cK nL cL nC cC nR cR x (hF.on (to_ HB1.out hw)) hn (q : Int))
    have HSY := Lib.hid (fun W (hw : Below W1.heap.size W1 W) => sym_any W AK AL AC AR nK cK nL cL nC cC nR cR x (hF.on (to_ HB1.out hw)) hn AS nS cS l (hS.on (to_ HB1.out hw)) (q : Int))
    have HFA : ∃ ad, AC = some ad ∧ ad.block < W1.heap.size ∧ W1.cell? (ad.add (q * 5)) = some (.int .i64 (inAt x.cs q).1) ∧ W1.cell? ⟨(ad.add (q * 5)).block, (ad.add (q * 5)).off + 1, none⟩ = some (.int .i64 (inAt x.cs q).2.1) ∧ W1.cell? ⟨(ad.add (q * 5)).block, (ad.add (q * 5)).off + 2, none⟩ = some (.int .i64 (inAt x.cs q).2.2.1) ∧ W1.cell? ⟨(ad.add (q * 5)).block, (ad.add (q * 5)).off + 3, none⟩ = some (.int .i64 (inAt x.cs q).2.2.2.1) ∧ W1.cell? ⟨(ad.add (q * 5)).block, (ad.add (q * 5)).off + 4, none⟩ = some (.int .i64 (inAt x.cs q).2.2.2.2) := (hF.on HB1.out).hc.at_ HQ.out
    have hsb := symO_in x.rs l q hb
    have HIW := Lib.hid (fun W (hw : Below W1.heap.size W1 W) => hF.hk.on (to_ HB1.out hw))
    have HKL := Lib.hid hF.hkl
    have HTX := Lib.hid (fun W (hw : Below W1.heap.size W1 W) => hT.below (to_ HB1.out hw))
    generalize inAt x.cs q = y at HFA ⊢
    obtain ⟨yo, ya, yb, yc, yn⟩ := y
    dsimp only at HFA ⊢
    have hsn : (symA x.rs l q = none) = ((symA x.rs l q).isSome = false) := by cases symA x.rs l q <;> simp
    simp only [hsn]
    generalize symO x.rs l q = s at HSY hsb ⊢
    obtain ⟨s0, s1, s2, s3, s4⟩ := s
    dsimp only at HSY hsb ⊢
    generalize (symA x.rs l q).isSome = fd at HSY ⊢
    generalize rfO (refA x.rs q) = rf at HR
    obtain ⟨r1, r2, r3⟩ := rf
    dsimp only at HR
    generalize (refA x.rs q).isSome = hs at HR ⊢
    have HND := Lib.hid (fun W => need_any yo W)
    have HCS := Lib.hid (fun W => cs_any x.k yo ya yb yc yn s0 s1 s2 s3 s4 AK nK cK W hsb.1 hsb.2)
    have HCC := Lib.hid (fun W => cc_any x.k yo ya yb yc yn s0 s1 s2 s3 s4 AK nK cK W hsb.1 hsb.2)
    have HOP := Lib.hid (fun W (hw : Below W1.heap.size W1 W) => ops_any x.k yo ya yb yc yn s0 s1 s2 s3 s4 AK nK cK W hsb.1 hsb.2 x.ks (HIW.out W hw) HKL.out hnK (HTX.out W hw))
    have hvc : veC yo (clsV yo yc s3) = 0 ∨ veC yo (clsV yo yc s3) = 14 := by unfold veC; split <;> simp
    unfold veX
    dsimp only
    generalize ndV yo = nd at HND HCS ⊢
    generalize isOfV s2 s3 nd = ib at HCS ⊢
    generalize veC yo (clsV yo yc s3) = vc at HCC hvc ⊢
    generalize opE x.ks x.k (clsV yo yc s3) (yo, ya, yb, yc, yn) (shl yo).length = oe at HOP ⊢
    obtain ⟨ad, rfl, hadb, k0, k1, k2, k3, k4⟩ := HFA
    obtain ⟨wA, hwA⟩ : ∃ wA, W1.alloc (.cells #[.int .i64 yo, .int .i64 ya, .int .i64 yb, .int .i64 yc, .int .i64 yn] 94) = wA := ⟨_, rfl⟩
    have HBA := Lib.hid (show Below W1.heap.size W1 wA from by rw [← hwA]; exact alloc_ _ _)
    have HYA := Lib.hid (show Blk wA W1.heap.size 94 #[.int .i64 yo, .int .i64 ya, .int .i64 yb, .int .i64 yc, .int .i64 yn] from by rw [← hwA]; exact Blk.new W1 _ _)
    have HXA := Lib.hid (HX.out.below HBA.out HX.out.lt)
    obtain ⟨a0, a1, a2, a3, a4, a5, a6, a7, a8⟩ := blk9 HXA.out
    clear hin hcl hF hS hb hT hi2 hsn hsb
    by_cases hnd : nd = 0
    · subst hnd
      cases hs with
      | true =>
        rw [if_pos (Or.inr ⟨rfl, rfl⟩)]
        go_enter Tryz.func33, Tryz.ntmps33
        go_wp2_with fail
        refine (HP.out _).mono ?_
        rintro e w2 ⟨rfl, rfl⟩
        go_wp2_with fail
        clear hW1 hwA p0 p1 p2 p3 p4 p5 p6 p7 p8 k0 k1 k2 k3 k4 a0 a1 a2 a3 a4 a5 a6 a7 a8
        refine (HR.out wA HBA.out).mono ?_
        rintro e w3 ⟨rfl, b3⟩
        obtain ⟨wB, hwB⟩ : ∃ wB, w3.alloc (.cells #[.int .i64 r1, .int .i64 r2, .bool r3] 82) = wB := ⟨_, rfl⟩
        have hb3 : Below wA.heap.size wA wB := by rw [← hwB]; exact to_ b3 (alloc_ _ _)
        have HBB := Lib.hid (to_ HBA.out hb3)
        have HYB := Lib.hid (HYA.out.below hb3 HYA.out.lt)
        have HXB := Lib.hid (HXA.out.below hb3 HXA.out.lt)
        obtain ⟨a0, a1, a2, a3, a4, a5, a6, a7, a8⟩ := blk9 HXB.out
        clear b3 hb3
        go_wp2_with fail
        clear hwB a0 a1 a2 a3 a4 a5 a6 a7 a8
        refine (HSY.out wB HBB.out).mono ?_
        rintro e w4 ⟨rfl, b4⟩
        obtain ⟨wC, hwC⟩ : ∃ wC, w4.alloc (.cells #[.string s0, .bool s1, .int .i64 s2, .int .i64 s3, .int .i64 s4] 68) = wC := ⟨_, rfl⟩
        have hb4 : Below wB.heap.size wB wC := by rw [← hwC]; exact to_ b4 (alloc_ _ _)
        have HBC := Lib.hid (to_ HBB.out hb4)
        have HYC := Lib.hid (HYB.out.below hb4 HYB.out.lt)
        have HXC := Lib.hid (HXB.out.below hb4 HXB.out.lt)
        have HSC := Lib.hid (show Blk wC w4.heap.size 68 #[.string s0, .bool s1, .int .i64 s2, .int .i64 s3, .int .i64 s4] from by rw [← hwC]; exact Blk.new w4 _ _)
        obtain ⟨a0, a1, a2, a3, a4, a5, a6, a7, a8⟩ := blk9 HXC.out
        obtain ⟨y0, y1, y2, y3, y4⟩ := blk5 HYC.out
        obtain ⟨z0, z1, z2, z3, z4⟩ := blk5 HSC.out
        clear b4 hb4
        go_wp2_with fail
        refine (HND.out _).mono ?_
        rintro e w5 ⟨rfl, rfl⟩
        go_wp2_with fail
        go_ret
        exact ⟨rfl, to_ HB1.out HBC.out⟩
      | false =>
        rw [if_neg (by simp)]
        go_enter Tryz.func33, Tryz.ntmps33
        go_wp2_with fail
        refine (HP.out _).mono ?_
        rintro e w2 ⟨rfl, rfl⟩
        go_wp2_with fail
        clear hW1 hwA p0 p1 p2 p3 p4 p5 p6 p7 p8 k0 k1 k2 k3 k4 a0 a1 a2 a3 a4 a5 a6 a7 a8
        refine (HR.out wA HBA.out).mono ?_
        rintro e w3 ⟨rfl, b3⟩
        obtain ⟨wB, hwB⟩ : ∃ wB, w3.alloc (.cells #[.int .i64 r1, .int .i64 r2, .bool r3] 82) = wB := ⟨_, rfl⟩
        have hb3 : Below wA.heap.size wA wB := by rw [← hwB]; exact to_ b3 (alloc_ _ _)
        have HBB := Lib.hid (to_ HBA.out hb3)
        have HYB := Lib.hid (HYA.out.below hb3 HYA.out.lt)
        have HXB := Lib.hid (HXA.out.below hb3 HXA.out.lt)
        obtain ⟨a0, a1, a2, a3, a4, a5, a6, a7, a8⟩ := blk9 HXB.out
        clear b3 hb3
        go_wp2_with fail
        clear hwB a0 a1 a2 a3 a4 a5 a6 a7 a8
        refine (HSY.out wB HBB.out).mono ?_
        rintro e w4 ⟨rfl, b4⟩
        obtain ⟨wC, hwC⟩ : ∃ wC, w4.alloc (.cells #[.string s0, .bool s1, .int .i64 s2, .int .i64 s3, .int .i64 s4] 68) = wC := ⟨_, rfl⟩
        have hb4 : Below wB.heap.size wB wC := by rw [← hwC]; exact to_ b4 (alloc_ _ _)
        have HBC := Lib.hid (to_ HBB.out hb4)
        have HYC := Lib.hid (HYB.out.below hb4 HYB.out.lt)
        have HXC := Lib.hid (HXB.out.below hb4 HXB.out.lt)
        have HSC := Lib.hid (show Blk wC w4.heap.size 68 #[.string s0, .bool s1, .int .i64 s2, .int .i64 s3, .int .i64 s4] from by rw [← hwC]; exact Blk.new w4 _ _)
        obtain ⟨a0, a1, a2, a3, a4, a5, a6, a7, a8⟩ := blk9 HXC.out
        obtain ⟨y0, y1, y2, y3, y4⟩ := blk5 HYC.out
        obtain ⟨z0, z1, z2, z3, z4⟩ := blk5 HSC.out
        clear b4 hb4
        go_wp2_with fail
        refine (HND.out _).mono ?_
        rintro e w5 ⟨rfl, rfl⟩
        obtain ⟨wD, hwD⟩ : ∃ wD, wC.alloc (.cells #[.slice AK nK cK, .int .i64 x.k, .int .i64 yo, .int .i64 ya, .int .i64 yb, .int .i64 yc, .int .i64 yn, .string s0, .bool s1, .int .i64 s2, .int .i64 s3, .int .i64 s4] 123) = wD := ⟨_, rfl⟩
        have hbD : Below wC.heap.size wC wD := by rw [← hwD]; exact alloc_ _ _
        have HCD := Lib.hid (show Blk wD wC.heap.size 123 #[.slice AK nK cK, .int .i64 x.k, .int .i64 yo, .int .i64 ya, .int .i64 yb, .int .i64 yc, .int .i64 yn, .string s0, .bool s1, .int .i64 s2, .int .i64 s3, .int .i64 s4] from by rw [← hwD]; exact Blk.new wC _ _)
        obtain ⟨wE, hwE⟩ : ∃ wE, wD.alloc (.cells #[.func (.func 96) #[] #[], .func (.func 97) #[] #[], .func (.func 98) #[] #[]] 124) = wE := ⟨_, rfl⟩
        have hbE : Below wD.heap.size wD wE := by rw [← hwE]; exact alloc_ _ _
        have HBE := Lib.hid (to_ HBC.out (to_ hbD hbE))
        have HCE := Lib.hid (HCD.out.below hbE HCD.out.lt)
        have HFE := Lib.hid (show Blk wE wD.heap.size 124 #[.func (.func 96) #[] #[], .func (.func 97) #[] #[], .func (.func 98) #[] #[]] from by rw [← hwE]; exact Blk.new wD _ _)
        clear hbD hbE
        go_wp2_with fail
        clear hwC hwD hwE a0 a1 a2 a3 a4 a5 a6 a7 a8 y0 y1 y2 y3 y4 z0 z1 z2 z3 z4
        refine wp_loop_rounds 4 ?_
        obtain ⟨x0, x1, x2, x3, x4, x5, x6, x7, x8, x9, x10, x11⟩ := blk12 HCE.out
        obtain ⟨g0, g1, g2⟩ := blk_ce3 HFE.out
        rw [rounds_succ]
        go_wp2_with fail
        clear x0 x1 x2 x3 x4 x5 x6 x7 x8 x9 x10 x11 g0 g1 g2
        refine (HCS.out wE).mono ?_
        rintro e w6 ⟨rfl, b6⟩
        have HB6 := Lib.hid (to_ HBE.out b6)
        have HC6 := Lib.hid (HCE.out.below b6 HCE.out.lt)
        have HF6 := Lib.hid (HFE.out.below b6 HFE.out.lt)
        clear b6
        cases ib with
        | false =>
          dsimp only [if_true]
          go_wp2_with fail
          go_ret
          exact ⟨rfl, to_ HB1.out HB6.out⟩
        | true =>
          rw [if_neg (by decide : ¬ (true = false))]
          go_wp2_with fail
          obtain ⟨x0, x1, x2, x3, x4, x5, x6, x7, x8, x9, x10, x11⟩ := blk12 HC6.out
          obtain ⟨g0, g1, g2⟩ := blk_ce3 HF6.out
          rw [rounds_succ]
          go_wp2_with fail
          clear x0 x1 x2 x3 x4 x5 x6 x7 x8 x9 x10 x11 g0 g1 g2
          refine (HCC.out w6).mono ?_
          rintro e w7 ⟨rfl, b7⟩
          have HB7 := Lib.hid (to_ HB6.out b7)
          have HC7 := Lib.hid (HC6.out.below b7 HC6.out.lt)
          have HF7 := Lib.hid (HF6.out.below b7 HF6.out.lt)
          clear b7
          rcases hvc with rfl | rfl
          · go_wp2_with fail
            obtain ⟨x0, x1, x2, x3, x4, x5, x6, x7, x8, x9, x10, x11⟩ := blk12 HC7.out
            obtain ⟨g0, g1, g2⟩ := blk_ce3 HF7.out
            rw [rounds_succ]
            go_wp2_with fail
            clear x0 x1 x2 x3 x4 x5 x6 x7 x8 x9 x10 x11 g0 g1 g2
            refine (HOP.out w7 HB7.out).mono ?_
            rintro e w8 ⟨rfl, b8⟩
            have HB8 := Lib.hid (to_ HB7.out b8)
            clear b8
            by_cases ho : oe = 0
            · subst ho
              go_wp2_with fail
              rw [rounds_succ]
              go_wp2_with fail
              go_ret
              exact ⟨rfl, to_ HB1.out HB8.out⟩
            · have ho1 : (oe != 0) = true := by simpa using ho
              have ho2 : (oe == 0) = false := by simpa using ho
              clear ho
              go_wp2_with fail
              go_ret
              exact ⟨rfl, to_ HB1.out HB8.out⟩
          · go_wp2_with fail
            go_ret
            exact ⟨rfl, to_ HB1.out HB7.out⟩
    · have hn1 : (nd != 0) = true := by simpa using hnd
      have hn2 : (nd == 0) = false := by simpa using hnd
      cases fd with
      | false =>
        rw [if_pos (Or.inl ⟨hnd, rfl⟩)]
        clear hnd
        go_enter Tryz.func33, Tryz.ntmps33
        go_wp2_with fail
        refine (HP.out _).mono ?_
        rintro e w2 ⟨rfl, rfl⟩
        go_wp2_with fail
        clear hW1 hwA p0 p1 p2 p3 p4 p5 p6 p7 p8 k0 k1 k2 k3 k4 a0 a1 a2 a3 a4 a5 a6 a7 a8
        refine (HR.out wA HBA.out).mono ?_
        rintro e w3 ⟨rfl, b3⟩
        obtain ⟨wB, hwB⟩ : ∃ wB, w3.alloc (.cells #[.int .i64 r1, .int .i64 r2, .bool r3] 82) = wB := ⟨_, rfl⟩
        have hb3 : Below wA.heap.size wA wB := by rw [← hwB]; exact to_ b3 (alloc_ _ _)
        have HBB := Lib.hid (to_ HBA.out hb3)
        have HYB := Lib.hid (HYA.out.below hb3 HYA.out.lt)
        have HXB := Lib.hid (HXA.out.below hb3 HXA.out.lt)
        obtain ⟨a0, a1, a2, a3, a4, a5, a6, a7, a8⟩ := blk9 HXB.out
        clear b3 hb3
        go_wp2_with fail
        clear hwB a0 a1 a2 a3 a4 a5 a6 a7 a8
        refine (HSY.out wB HBB.out).mono ?_
        rintro e w4 ⟨rfl, b4⟩
        obtain ⟨wC, hwC⟩ : ∃ wC, w4.alloc (.cells #[.string s0, .bool s1, .int .i64 s2, .int .i64 s3, .int .i64 s4] 68) = wC := ⟨_, rfl⟩
        have hb4 : Below wB.heap.size wB wC := by rw [← hwC]; exact to_ b4 (alloc_ _ _)
        have HBC := Lib.hid (to_ HBB.out hb4)
        have HYC := Lib.hid (HYB.out.below hb4 HYB.out.lt)
        have HXC := Lib.hid (HXB.out.below hb4 HXB.out.lt)
        have HSC := Lib.hid (show Blk wC w4.heap.size 68 #[.string s0, .bool s1, .int .i64 s2, .int .i64 s3, .int .i64 s4] from by rw [← hwC]; exact Blk.new w4 _ _)
        obtain ⟨a0, a1, a2, a3, a4, a5, a6, a7, a8⟩ := blk9 HXC.out
        obtain ⟨y0, y1, y2, y3, y4⟩ := blk5 HYC.out
        obtain ⟨z0, z1, z2, z3, z4⟩ := blk5 HSC.out
        clear b4 hb4
        go_wp2_with fail
        refine (HND.out _).mono ?_
        rintro e w5 ⟨rfl, rfl⟩
        go_wp2_with fail
        go_ret
        exact ⟨rfl, to_ HB1.out HBC.out⟩
      | true =>
        rw [if_neg (by simp [hnd])]
        clear hnd
        cases hs with
        | false =>
          go_enter Tryz.func33, Tryz.ntmps33
          go_wp2_with fail
          refine (HP.out _).mono ?_
          rintro e w2 ⟨rfl, rfl⟩
          go_wp2_with fail
          clear hW1 hwA p0 p1 p2 p3 p4 p5 p6 p7 p8 k0 k1 k2 k3 k4 a0 a1 a2 a3 a4 a5 a6 a7 a8
          refine (HR.out wA HBA.out).mono ?_
          rintro e w3 ⟨rfl, b3⟩
          obtain ⟨wB, hwB⟩ : ∃ wB, w3.alloc (.cells #[.int .i64 r1, .int .i64 r2, .bool r3] 82) = wB := ⟨_, rfl⟩
          have hb3 : Below wA.heap.size wA wB := by rw [← hwB]; exact to_ b3 (alloc_ _ _)
          have HBB := Lib.hid (to_ HBA.out hb3)
          have HYB := Lib.hid (HYA.out.below hb3 HYA.out.lt)
          have HXB := Lib.hid (HXA.out.below hb3 HXA.out.lt)
          obtain ⟨a0, a1, a2, a3, a4, a5, a6, a7, a8⟩ := blk9 HXB.out
          clear b3 hb3
          go_wp2_with fail
          clear hwB a0 a1 a2 a3 a4 a5 a6 a7 a8
          refine (HSY.out wB HBB.out).mono ?_
          rintro e w4 ⟨rfl, b4⟩
          obtain ⟨wC, hwC⟩ : ∃ wC, w4.alloc (.cells #[.string s0, .bool s1, .int .i64 s2, .int .i64 s3, .int .i64 s4] 68) = wC := ⟨_, rfl⟩
          have hb4 : Below wB.heap.size wB wC := by rw [← hwC]; exact to_ b4 (alloc_ _ _)
          have HBC := Lib.hid (to_ HBB.out hb4)
          have HYC := Lib.hid (HYB.out.below hb4 HYB.out.lt)
          have HXC := Lib.hid (HXB.out.below hb4 HXB.out.lt)
          have HSC := Lib.hid (show Blk wC w4.heap.size 68 #[.string s0, .bool s1, .int .i64 s2, .int .i64 s3, .int .i64 s4] from by rw [← hwC]; exact Blk.new w4 _ _)
          obtain ⟨a0, a1, a2, a3, a4, a5, a6, a7, a8⟩ := blk9 HXC.out
          obtain ⟨y0, y1, y2, y3, y4⟩ := blk5 HYC.out
          obtain ⟨z0, z1, z2, z3, z4⟩ := blk5 HSC.out
          clear b4 hb4
          go_wp2_with fail
          refine (HND.out _).mono ?_
          rintro e w5 ⟨rfl, rfl⟩
          obtain ⟨wD, hwD⟩ : ∃ wD, wC.alloc (.cells #[.slice AK nK cK, .int .i64 x.k, .int .i64 yo, .int .i64 ya, .int .i64 yb, .int .i64 yc, .int .i64 yn, .string s0, .bool s1, .int .i64 s2, .int .i64 s3, .int .i64 s4] 123) = wD := ⟨_, rfl⟩
          have hbD : Below wC.heap.size wC wD := by rw [← hwD]; exact alloc_ _ _
          have HCD := Lib.hid (show Blk wD wC.heap.size 123 #[.slice AK nK cK, .int .i64 x.k, .int .i64 yo, .int .i64 ya, .int .i64 yb, .int .i64 yc, .int .i64 yn, .string s0, .bool s1, .int .i64 s2, .int .i64 s3, .int .i64 s4] from by rw [← hwD]; exact Blk.new wC _ _)
          obtain ⟨wE, hwE⟩ : ∃ wE, wD.alloc (.cells #[.func (.func 96) #[] #[], .func (.func 97) #[] #[], .func (.func 98) #[] #[]] 124) = wE := ⟨_, rfl⟩
          have hbE : Below wD.heap.size wD wE := by rw [← hwE]; exact alloc_ _ _
          have HBE := Lib.hid (to_ HBC.out (to_ hbD hbE))
          have HCE := Lib.hid (HCD.out.below hbE HCD.out.lt)
          have HFE := Lib.hid (show Blk wE wD.heap.size 124 #[.func (.func 96) #[] #[], .func (.func 97) #[] #[], .func (.func 98) #[] #[]] from by rw [← hwE]; exact Blk.new wD _ _)
          clear hbD hbE
          go_wp2_with fail
          clear hwC hwD hwE a0 a1 a2 a3 a4 a5 a6 a7 a8 y0 y1 y2 y3 y4 z0 z1 z2 z3 z4
          refine wp_loop_rounds 4 ?_
          obtain ⟨x0, x1, x2, x3, x4, x5, x6, x7, x8, x9, x10, x11⟩ := blk12 HCE.out
          obtain ⟨g0, g1, g2⟩ := blk_ce3 HFE.out
          rw [rounds_succ]
          go_wp2_with fail
          clear x0 x1 x2 x3 x4 x5 x6 x7 x8 x9 x10 x11 g0 g1 g2
          refine (HCS.out wE).mono ?_
          rintro e w6 ⟨rfl, b6⟩
          have HB6 := Lib.hid (to_ HBE.out b6)
          have HC6 := Lib.hid (HCE.out.below b6 HCE.out.lt)
          have HF6 := Lib.hid (HFE.out.below b6 HFE.out.lt)
          clear b6
          cases ib with
          | false =>
            dsimp only [if_true]
            go_wp2_with fail
            go_ret
            exact ⟨rfl, to_ HB1.out HB6.out⟩
          | true =>
            rw [if_neg (by decide : ¬ (true = false))]
            go_wp2_with fail
            obtain ⟨x0, x1, x2, x3, x4, x5, x6, x7, x8, x9, x10, x11⟩ := blk12 HC6.out
            obtain ⟨g0, g1, g2⟩ := blk_ce3 HF6.out
            rw [rounds_succ]
            go_wp2_with fail
            clear x0 x1 x2 x3 x4 x5 x6 x7 x8 x9 x10 x11 g0 g1 g2
            refine (HCC.out w6).mono ?_
            rintro e w7 ⟨rfl, b7⟩
            have HB7 := Lib.hid (to_ HB6.out b7)
            have HC7 := Lib.hid (HC6.out.below b7 HC6.out.lt)
            have HF7 := Lib.hid (HF6.out.below b7 HF6.out.lt)
            clear b7
            rcases hvc with rfl | rfl
            · go_wp2_with fail
              obtain ⟨x0, x1, x2, x3, x4, x5, x6, x7, x8, x9, x10, x11⟩ := blk12 HC7.out
              obtain ⟨g0, g1, g2⟩ := blk_ce3 HF7.out
              rw [rounds_succ]
              go_wp2_with fail
              clear x0 x1 x2 x3 x4 x5 x6 x7 x8 x9 x10 x11 g0 g1 g2
              refine (HOP.out w7 HB7.out).mono ?_
              rintro e w8 ⟨rfl, b8⟩
              have HB8 := Lib.hid (to_ HB7.out b8)
              clear b8
              by_cases ho : oe = 0
              · subst ho
                go_wp2_with fail
                rw [rounds_succ]
                go_wp2_with fail
                go_ret
                exact ⟨rfl, to_ HB1.out HB8.out⟩
              · have ho1 : (oe != 0) = true := by simpa using ho
                have ho2 : (oe == 0) = false := by simpa using ho
                clear ho
                go_wp2_with fail
                go_ret
                exact ⟨rfl, to_ HB1.out HB8.out⟩
            · go_wp2_with fail
              go_ret
              exact ⟨rfl, to_ HB1.out HB7.out⟩
        | true =>
          go_enter Tryz.func33, Tryz.ntmps33
          go_wp2_with fail
          refine (HP.out _).mono ?_
          rintro e w2 ⟨rfl, rfl⟩
          go_wp2_with fail
          clear hW1 hwA p0 p1 p2 p3 p4 p5 p6 p7 p8 k0 k1 k2 k3 k4 a0 a1 a2 a3 a4 a5 a6 a7 a8
          refine (HR.out wA HBA.out).mono ?_
          rintro e w3 ⟨rfl, b3⟩
          obtain ⟨wB, hwB⟩ : ∃ wB, w3.alloc (.cells #[.int .i64 r1, .int .i64 r2, .bool r3] 82) = wB := ⟨_, rfl⟩
          have hb3 : Below wA.heap.size wA wB := by rw [← hwB]; exact to_ b3 (alloc_ _ _)
          have HBB := Lib.hid (to_ HBA.out hb3)
          have HYB := Lib.hid (HYA.out.below hb3 HYA.out.lt)
          have HXB := Lib.hid (HXA.out.below hb3 HXA.out.lt)
          obtain ⟨a0, a1, a2, a3, a4, a5, a6, a7, a8⟩ := blk9 HXB.out
          clear b3 hb3
          go_wp2_with fail
          clear hwB a0 a1 a2 a3 a4 a5 a6 a7 a8
          refine (HSY.out wB HBB.out).mono ?_
          rintro e w4 ⟨rfl, b4⟩
          obtain ⟨wC, hwC⟩ : ∃ wC, w4.alloc (.cells #[.string s0, .bool s1, .int .i64 s2, .int .i64 s3, .int .i64 s4] 68) = wC := ⟨_, rfl⟩
          have hb4 : Below wB.heap.size wB wC := by rw [← hwC]; exact to_ b4 (alloc_ _ _)
          have HBC := Lib.hid (to_ HBB.out hb4)
          have HYC := Lib.hid (HYB.out.below hb4 HYB.out.lt)
          have HXC := Lib.hid (HXB.out.below hb4 HXB.out.lt)
          have HSC := Lib.hid (show Blk wC w4.heap.size 68 #[.string s0, .bool s1, .int .i64 s2, .int .i64 s3, .int .i64 s4] from by rw [← hwC]; exact Blk.new w4 _ _)
          obtain ⟨a0, a1, a2, a3, a4, a5, a6, a7, a8⟩ := blk9 HXC.out
          obtain ⟨y0, y1, y2, y3, y4⟩ := blk5 HYC.out
          obtain ⟨z0, z1, z2, z3, z4⟩ := blk5 HSC.out
          clear b4 hb4
          go_wp2_with fail
          refine (HND.out _).mono ?_
          rintro e w5 ⟨rfl, rfl⟩
          obtain ⟨wD, hwD⟩ : ∃ wD, wC.alloc (.cells #[.slice AK nK cK, .int .i64 x.k, .int .i64 yo, .int .i64 ya, .int .i64 yb, .int .i64 yc, .int .i64 yn, .string s0, .bool s1, .int .i64 s2, .int .i64 s3, .int .i64 s4] 123) = wD := ⟨_, rfl⟩
          have hbD : Below wC.heap.size wC wD := by rw [← hwD]; exact alloc_ _ _
          have HCD := Lib.hid (show Blk wD wC.heap.size 123 #[.slice AK nK cK, .int .i64 x.k, .int .i64 yo, .int .i64 ya, .int .i64 yb, .int .i64 yc, .int .i64 yn, .string s0, .bool s1, .int .i64 s2, .int .i64 s3, .int .i64 s4] from by rw [← hwD]; exact Blk.new wC _ _)
          obtain ⟨wE, hwE⟩ : ∃ wE, wD.alloc (.cells #[.func (.func 96) #[] #[], .func (.func 97) #[] #[], .func (.func 98) #[] #[]] 124) = wE := ⟨_, rfl⟩
          have hbE : Below wD.heap.size wD wE := by rw [← hwE]; exact alloc_ _ _
          have HBE := Lib.hid (to_ HBC.out (to_ hbD hbE))
          have HCE := Lib.hid (HCD.out.below hbE HCD.out.lt)
          have HFE := Lib.hid (show Blk wE wD.heap.size 124 #[.func (.func 96) #[] #[], .func (.func 97) #[] #[], .func (.func 98) #[] #[]] from by rw [← hwE]; exact Blk.new wD _ _)
          clear hbD hbE
          go_wp2_with fail
          clear hwC hwD hwE a0 a1 a2 a3 a4 a5 a6 a7 a8 y0 y1 y2 y3 y4 z0 z1 z2 z3 z4
          refine wp_loop_rounds 4 ?_
          obtain ⟨x0, x1, x2, x3, x4, x5, x6, x7, x8, x9, x10, x11⟩ := blk12 HCE.out
          obtain ⟨g0, g1, g2⟩ := blk_ce3 HFE.out
          rw [rounds_succ]
          go_wp2_with fail
          clear x0 x1 x2 x3 x4 x5 x6 x7 x8 x9 x10 x11 g0 g1 g2
          refine (HCS.out wE).mono ?_
          rintro e w6 ⟨rfl, b6⟩
          have HB6 := Lib.hid (to_ HBE.out b6)
          have HC6 := Lib.hid (HCE.out.below b6 HCE.out.lt)
          have HF6 := Lib.hid (HFE.out.below b6 HFE.out.lt)
          clear b6
          cases ib with
          | false =>
            dsimp only [if_true]
            go_wp2_with fail
            go_ret
            exact ⟨rfl, to_ HB1.out HB6.out⟩
          | true =>
            rw [if_neg (by decide : ¬ (true = false))]
            go_wp2_with fail
            obtain ⟨x0, x1, x2, x3, x4, x5, x6, x7, x8, x9, x10, x11⟩ := blk12 HC6.out
            obtain ⟨g0, g1, g2⟩ := blk_ce3 HF6.out
            rw [rounds_succ]
            go_wp2_with fail
            clear x0 x1 x2 x3 x4 x5 x6 x7 x8 x9 x10 x11 g0 g1 g2
            refine (HCC.out w6).mono ?_
            rintro e w7 ⟨rfl, b7⟩
            have HB7 := Lib.hid (to_ HB6.out b7)
            have HC7 := Lib.hid (HC6.out.below b7 HC6.out.lt)
            have HF7 := Lib.hid (HF6.out.below b7 HF6.out.lt)
            clear b7
            rcases hvc with rfl | rfl
            · go_wp2_with fail
              obtain ⟨x0, x1, x2, x3, x4, x5, x6, x7, x8, x9, x10, x11⟩ := blk12 HC7.out
              obtain ⟨g0, g1, g2⟩ := blk_ce3 HF7.out
              rw [rounds_succ]
              go_wp2_with fail
              clear x0 x1 x2 x3 x4 x5 x6 x7 x8 x9 x10 x11 g0 g1 g2
              refine (HOP.out w7 HB7.out).mono ?_
              rintro e w8 ⟨rfl, b8⟩
              have HB8 := Lib.hid (to_ HB7.out b8)
              clear b8
              by_cases ho : oe = 0
              · subst ho
                go_wp2_with fail
                rw [rounds_succ]
                go_wp2_with fail
                go_ret
                exact ⟨rfl, to_ HB1.out HB8.out⟩
              · have ho1 : (oe != 0) = true := by simpa using ho
                have ho2 : (oe == 0) = false := by simpa using ho
                clear ho
                go_wp2_with fail
                go_ret
                exact ⟨rfl, to_ HB1.out HB8.out⟩
            · go_wp2_with fail
              go_ret
              exact ⟨rfl, to_ HB1.out HB7.out⟩
end Go.Proofs.YtbknmapkdjmcjaaGreatDoor.By

namespace Go.Proofs.YtbknmapkdjmcjaaGreatDoor.By
open Go.RowKit
open Mem Gm Rf
set_option linter.unusedSimpArgs false
set_option linter.unusedVariables false

noncomputable def veF (x : Fn) (l : List Sy) : Int × Int := if chF x = 0 then veL x l x.cs.length else (chF x, -1)
theorem veL_ok {x : Fn} {l : List Sy} : ∀ n, (veL x l n).1 = 0 → veL x l n = (0, -1)
  | 0, _ => rfl
  | n + 1, h => by
    rw [veL] at h ⊢
    split at h
    · next h1 =>
      rw [if_pos h1]
      split at h
      · next h2 => rw [if_pos h2]
      · next h2 => exact absurd h h2
    · next h1 => exact absurd h h1
theorem veL_next {x : Fn} {l : List Sy} {n : Nat} (h : (veL x l n).1 = 0) : (veI x l n = 0 → (veL x l (n + 1)).1 = 0) ∧ (veI x l n ≠ 0 → ∀ m, n + 1 ≤ m → veL x l m = (veI x l n, (n : Int))) := by
  refine ⟨fun h2 => by rw [veL, if_pos h, if_pos h2], fun h2 m hm => ?_⟩
  have h3 : veL x l (n + 1) = (veI x l n, (n : Int)) := by rw [veL, if_pos h, if_neg h2]
  rw [← h3]
  exact veL_fix (by rw [h3]; exact h2) m hm
set_option maxHeartbeats 4000000 in
theorem vch_any (w : World) (AK AL AC AR : Option Addr) (nK cK nL cL nC cC nR cR : Nat) (x : Fn) (hF : FnW w AK nK cK AL nL cL AC nC cC AR nR cR x) (hnn : nK ≤ 1000000 ∧ nL ≤ 1000000 ∧ nC ≤ 1000000 ∧ nR ≤ 1000000) (AS : Option Addr) (nS cS : Nat) (l : List Sy) (hS : SyL w AS nS cS l) (hb : ∀ k, -9223372036854775808 ≤ (syAt l k).2.2.2.1 ∧ (syAt l k).2.2.2.1 ≤ 9223372036854775807) (hT : TX3 w) :
    Calls Tryz.prog 31 #[.agg #[.int .i64 x.k, .slice AK nK cK, .int .i64 x.pd, .bool x.ns, .int .i64 x.f, .int .i64 x.t, .slice AL nL cL, .slice AC nC cC, .slice AR nR cR], .slice AS nS cS] w fun e w' => e = .returned (.tuple #[.int .i64 (veF x l).1, .int .i64 (veF x l).2]) ∧ Below w.heap.size w w' := by
  obtain ⟨W1, hW1⟩ : ∃ W1, w.alloc (.cells #[.int .i64 x.k, .slice AK nK cK, .int .i64 x.pd, .bool x.ns, .int .i64 x.f, .int .i64 x.t, .slice AL nL cL, .slice AC nC cC, .slice AR nR cR] 27) = W1 := ⟨_, rfl⟩
  have HB1 := Lib.hid (show Below w.heap.size w W1 from by rw [← hW1]; exact alloc_ _ _)
  have HX := Lib.hid (show Blk W1 w.heap.size 27 #[.int .i64 x.k, .slice AK nK cK, .int .i64 x.pd, .bool x.ns, .int .i64 x.f, .int .i64 x.t, .slice AL nL cL, .slice AC nC cC, .slice AR nR cR] from by rw [← hW1]; exact Blk.new w _ _)
  obtain ⟨p0, p1, p2, p3, p4, p5, p6, p7, p8⟩ := blk9 HX.out
  have HC := Lib.hid (chkF_any W1 AK AL AC AR nK cK nL cL nC cC nR cR x (hF.on HB1.out) (hT.on HB1.out) hnn)
  have HV := Lib.hid (fun W (hw : Below W1.heap.size W1 W) i => vin_any W AK AL AC AR nK cK nL cL nC cC nR cR x (hF.on (to_ HB1.out hw)) hnn.2.2.2 hnn.1 AS nS cS l (hS.on (to_ HB1.out hw)) hb (hT.on (to_ HB1.out hw)).1 i)
  have hcl : x.cs.length = nC := hF.hc.1
  have HVF := Lib.hid (show (chF x ≠ 0 → veF x l = (chF x, -1)) ∧ (chF x = 0 → veF x l = veL x l nC) from ⟨fun h => by unfold veF; rw [if_neg h], fun h => by unfold veF; rw [if_pos h, hcl]⟩)
  have HLN := Lib.hid (fun n h => veL_next (x := x) (l := l) (n := n) h)
  have HLO := Lib.hid (fun n h => veL_ok (x := x) (l := l) n h)
  have HL0 := Lib.hid (show (veL x l 0).1 = 0 from rfl)
  have HN := Lib.hid hnn.2.2.1
  generalize veF x l = vf at HVF ⊢
  generalize veL x l = vl at HVF HLN HLO HL0
  generalize chF x = ch at HC HVF
  clear hF hS hb hT hcl hnn
  by_cases hc : ch = 0
  · subst hc
    go_enter Tryz.func31, Tryz.ntmps31
    go_wp2_with fail
    clear hW1 p0 p1 p2 p3 p4 p5 p6 p7 p8
    refine HC.out.mono ?_
    rintro e w1 ⟨rfl, b1⟩
    have HB2 := Lib.hid b1
    have HX2 := Lib.hid (HX.out.below b1 HX.out.lt)
    clear b1
    obtain ⟨p0, p1, p2, p3, p4, p5, p6, p7, p8⟩ := blk9 HX2.out
    go_wp2_with fail
    clear p0 p1 p2 p3 p4 p5 p6 p7 p8
    go_loopw [17] (fun i9 wr => ∃ q : Nat, q ≤ nC ∧ i9 = .int .i64 (q : Int) ∧ Hid (Below W1.heap.size W1 wr) ∧ Hid ((vl q).1 = 0)) (fun i9 _ => nC - (intOf i9).toNat)
    case atStart => exact ⟨0, Nat.zero_le _, rfl, HB2, HL0⟩
    case round =>
      obtain ⟨q, hq, rfl, HBR, HE⟩ := hrel
      have hn9 : nC ≤ 1000000 := HN.out
      obtain ⟨p0, p1, p2, p3, p4, p5, p6, p7, p8⟩ := blk9 (HX.out.below HBR.out HX.out.lt)
      by_cases hlt : q < nC
      · have hqI : (q : Int) < (nC : Int) := by omega
        have HLT := Lib.hid hlt
        have HVQ := Lib.hid (HV.out wr HBR.out (q : Int))
        have HNX := Lib.hid (HLN.out q HE.out)
        generalize veI x l (q : Int) = y at HVQ HNX
        by_cases hy : y = 0
        · subst hy
          have HN1 := Lib.hid (HNX.out.1 rfl)
          go_wp2_with fail
          clear p0 p1 p2 p3 p4 p5 p6 p7 p8
          refine HVQ.out.mono ?_
          rintro e w4 ⟨rfl, b4⟩
          have HB4 := Lib.hid (to_ HBR.out b4)
          clear b4
          go_wp2_with fail
          go_roundw
          case rel => exact ⟨q + 1, by have := HLT.out; omega, by go_num, HB4, HN1⟩
          case measure => have := HLT.out; simp [intOf]; omega
        · have hy1 : (y != 0) = true := by simpa using hy
          have hy2 : (y == 0) = false := by simpa using hy
          have HF := Lib.hid (show vf = (y, (q : Int)) from (HVF.out.2 (by simp)).trans (HNX.out.2 hy nC (by omega)))
          clear hy
          go_wp2_with fail
          clear p0 p1 p2 p3 p4 p5 p6 p7 p8
          refine HVQ.out.mono ?_
          rintro e w4 ⟨rfl, b4⟩
          have HB4 := Lib.hid (to_ HB1.out (to_ HBR.out b4))
          clear b4
          go_wp2_with fail
          refine bodyPost_ret (results_tmp2 rfl _ _ _) rfl ?_
          rw [HF.out]
          exact ⟨rfl, HB4.out⟩
      · have HF := Lib.hid (show vf = (0, -1) from (HVF.out.2 (by simp)).trans (by rw [show nC = q from by omega]; exact HLO.out q HE.out))
        obtain rfl : q = nC := by omega
        go_wp2_with fail
        refine bodyPost_ret (results_tmp2 rfl _ _ _) rfl ?_
        rw [HF.out]
        exact ⟨rfl, to_ HB1.out HBR.out⟩
  · have hc1 : (ch != 0) = true := by simpa using hc
    have hc2 : (ch == 0) = false := by simpa using hc
    have HF := Lib.hid (HVF.out.1 hc)
    clear hc
    go_enter Tryz.func31, Tryz.ntmps31
    go_wp2_with fail
    clear hW1 p0 p1 p2 p3 p4 p5 p6 p7 p8
    refine HC.out.mono ?_
    rintro e w1 ⟨rfl, b1⟩
    have HB2 := Lib.hid (to_ HB1.out b1)
    clear b1
    go_wp2_with fail
    refine bodyPost_ret (results_tmp2 rfl _ _ _) rfl ?_
    rw [HF.out]
    exact ⟨rfl, HB2.out⟩
end Go.Proofs.YtbknmapkdjmcjaaGreatDoor.By

namespace Go.Proofs.YtbknmapkdjmcjaaGreatDoor.By
open Go.RowKit
open Mem Gm Rf
set_option linter.unusedSimpArgs false
set_option linter.unusedVariables false

theorem kn_pair (c : Int) : (if Si.isC c = true then (c, true) else ((0 : Int), false)) = (knV c, Si.isC c) := by
  unfold knV
  cases h : Si.isC c <;> simp
theorem veK_form (x : Fn) (l : List Sy) (i : Int) : veK x l i = if inL i x.cs.length = false then (0, false) else if (inAt x.cs i.toNat).1 = 20 then (knV (inAt x.cs i.toNat).2.2.2.1, Si.isC (inAt x.cs i.toNat).2.2.2.1) else if (inAt x.cs i.toNat).1 = 19 ∨ (inAt x.cs i.toNat).1 = 21 then (if (symA x.rs l i).isSome = true ∧ (symO x.rs l i).2.2.1 = 1 then (knV (symO x.rs l i).2.2.2.1, Si.isC (symO x.rs l i).2.2.2.1) else (0, false)) else (0, false) := by
  unfold veK
  split
  · rfl
  · split
    · rw [kn_pair]
    · split
      · unfold symO
        cases hs : symA x.rs l i with
        | none => rfl
        | some s =>
          dsimp only [Option.getD, Option.isSome]
          rw [kn_pair]
          by_cases h1 : s.2.2.1 = 1 <;> simp [h1]
      · rfl
set_option maxHeartbeats 4000000 in
theorem vcl_any (w : World) (AK AL AC AR : Option Addr) (nK cK nL cL nC cC nR cR : Nat) (x : Fn) (hF : FnW w AK nK cK AL nL cL AC nC cC AR nR cR x) (hn : nR ≤ 1000000) (AS : Option Addr) (nS cS : Nat) (l : List Sy) (hS : SyL w AS nS cS l) (i : Int) :
    Calls Tryz.prog 35 #[.agg #[.int .i64 x.k, .slice AK nK cK, .int .i64 x.pd, .bool x.ns, .int .i64 x.f, .int .i64 x.t, .slice AL nL cL, .slice AC nC cC, .slice AR nR cR], .slice AS nS cS, .int .i64 i] w fun e w' => e = .returned (.tuple #[.int .i64 (veK x l i).1, .bool (veK x l i).2]) ∧ Below w.heap.size w w' := by
  obtain ⟨W1, hW1⟩ : ∃ W1, w.alloc (.cells #[.int .i64 x.k, .slice AK nK cK, .int .i64 x.pd, .bool x.ns, .int .i64 x.f, .int .i64 x.t, .slice AL nL cL, .slice AC nC cC, .slice AR nR cR] 27) = W1 := ⟨_, rfl⟩
  have HB1 := Lib.hid (show Below w.heap.size w W1 from by rw [← hW1]; exact alloc_ _ _)
  have HX := Lib.hid (show Blk W1 w.heap.size 27 #[.int .i64 x.k, .slice AK nK cK, .int .i64 x.pd, .bool x.ns, .int .i64 x.f, .int .i64 x.t, .slice AL nL cL, .slice AC nC cC, .slice AR nR cR] from by rw [← hW1]; exact Blk.new w _ _)
  obtain ⟨p0, p1, p2, p3, p4, p5, p6, p7, p8⟩ := blk9 HX.out
  have HP := Lib.hid (fun W => inl_any i nC W)
  have hcl : x.cs.length = nC := hF.hc.1
  rw [veK_form, hcl]
  cases hin : inL i nC with
  | false =>
    rw [hin] at HP
    rw [if_pos rfl]
    clear hin hcl hF hS
    go_enter Tryz.func35, Tryz.ntmps35
    go_wp2_with fail
    refine (HP.out _).mono ?_
    rintro e w2 ⟨rfl, rfl⟩
    go_wp2_with fail
    refine bodyPost_ret (results_tmp2 rfl _ _ _) rfl ?_
    exact ⟨rfl, HB1.out⟩
  | true =>
    rw [hin] at HP
    rw [if_neg (by decide)]
    have hi2 : 0 ≤ i ∧ i < (nC : Int) := by unfold inL at hin; exact of_decide_eq_true hin
    obtain ⟨q, rfl⟩ := Int.eq_ofNat_of_zero_le hi2.1
    have hqI : (q : Int) < (nC : Int) := hi2.2
    have HQ := Lib.hid (show q < nC by omega)
    rw [show ((q : Int).toNat) = q from by simp]
    have HSY := Lib.hid (fun W (hw : Below W1.heap.size W1 W) => sym_any W AK AL AC AR nK cK nL cL nC cC nR cR x (hF.on (to_ HB1.out hw)) hn AS nS cS l (hS.on (to_ HB1.out hw)) (q : Int))
    have HFA : ∃ ad, AC = some ad ∧ ad.block < W1.heap.size ∧ W1.cell? (ad.add (q * 5)) = some (.int .i64 (inAt x.cs q).1) ∧ W1.cell? ⟨(ad.add (q * 5)).block, (ad.add (q * 5)).off + 1, none⟩ = some (.int .i64 (inAt x.cs q).2.1) ∧ W1.cell? ⟨(ad.add (q * 5)).block, (ad.add (q * 5)).off + 2, none⟩ = some (.int .i64 (inAt x.cs q).2.2.1) ∧ W1.cell? ⟨(ad.add (q * 5)).block, (ad.add (q * 5)).off + 3, none⟩ = some (.int .i64 (inAt x.cs q).2.2.2.1) ∧ W1.cell? ⟨(ad.add (q * 5)).block, (ad.add (q * 5)).off + 4, none⟩ = some (.int .i64 (inAt x.cs q).2.2.2.2) := (hF.on HB1.out).hc.at_ HQ.out
    generalize inAt x.cs q = y at HFA ⊢
    obtain ⟨yo, ya, yb, yc, yn⟩ := y
    dsimp only at HFA ⊢
    generalize symO x.rs l q = s at HSY ⊢
    obtain ⟨s0, s1, s2, s3, s4⟩ := s
    dsimp only at HSY ⊢
    generalize (symA x.rs l q).isSome = fd at HSY ⊢
    have HKY := Lib.hid (fun W => kn_any yc W)
    have HKS := Lib.hid (fun W => kn_any s3 W)
    obtain ⟨ad, rfl, hadb, k0, k1, k2, k3, k4⟩ := HFA
    obtain ⟨wA, hwA⟩ : ∃ wA, W1.alloc (.cells #[.int .i64 yo, .int .i64 ya, .int .i64 yb, .int .i64 yc, .int .i64 yn] 94) = wA := ⟨_, rfl⟩
    have HBA := Lib.hid (show Below W1.heap.size W1 wA from by rw [← hwA]; exact alloc_ _ _)
    obtain ⟨y0, y1, y2, y3, y4⟩ := blk5 (show Blk wA W1.heap.size 94 #[.int .i64 yo, .int .i64 ya, .int .i64 yb, .int .i64 yc, .int .i64 yn] from by rw [← hwA]; exact Blk.new W1 _ _)
    have HXA := Lib.hid (HX.out.below HBA.out HX.out.lt)
    obtain ⟨a0, a1, a2, a3, a4, a5, a6, a7, a8⟩ := blk9 HXA.out
    clear hin hcl hF hS hi2
    by_cases h20 : yo = 20
    · subst h20
      rw [if_pos rfl]
      go_enter Tryz.func35, Tryz.ntmps35
      go_wp2_with fail
      refine (HP.out _).mono ?_
      rintro e w2 ⟨rfl, rfl⟩
      go_wp2_with fail
      refine (HKY.out _).mono ?_
      rintro e w2 ⟨rfl, rfl⟩
      go_wp2_with fail
      refine bodyPost_ret (results_tmp2 rfl _ _ _) rfl ?_
      exact ⟨rfl, to_ HB1.out HBA.out⟩
    rw [if_neg h20]
    have d20 : (yo == 20) = false := by simpa using h20
    by_cases h1921 : yo = 19 ∨ yo = 21
    · rw [if_pos h1921]
      have h9 : (yo = 19) ∨ ((yo == 19) = false ∧ yo = 21) := by
        rcases h1921 with h | h
        · exact .inl h
        · exact .inr ⟨by simp; omega, h⟩
      clear h1921 h20
      cases fd with
      | false =>
        rw [if_neg (by simp)]
        rcases h9 with rfl | ⟨d19, rfl⟩
        all_goals
          go_enter Tryz.func35, Tryz.ntmps35
          go_wp2_with fail
          refine (HP.out _).mono ?_
          rintro e w2 ⟨rfl, rfl⟩
          go_wp2_with fail
          clear hW1 hwA p0 p1 p2 p3 p4 p5 p6 p7 p8 k0 k1 k2 k3 k4 a0 a1 a2 a3 a4 a5 a6 a7 a8 y0 y1 y2 y3 y4
          refine (HSY.out wA HBA.out).mono ?_
          rintro e w4 ⟨rfl, b4⟩
          obtain ⟨wC, hwC⟩ : ∃ wC, w4.alloc (.cells #[.string s0, .bool s1, .int .i64 s2, .int .i64 s3, .int .i64 s4] 68) = wC := ⟨_, rfl⟩
          have hb4 : Below wA.heap.size wA wC := by rw [← hwC]; exact to_ b4 (alloc_ _ _)
          have HBC := Lib.hid (to_ HBA.out hb4)
          obtain ⟨z0, z1, z2, z3, z4⟩ := blk5 (show Blk wC w4.heap.size 68 #[.string s0, .bool s1, .int .i64 s2, .int .i64 s3, .int .i64 s4] from by rw [← hwC]; exact Blk.new w4 _ _)
          clear b4 hb4
          go_wp2_with fail
          refine bodyPost_ret (results_tmp2 rfl _ _ _) rfl ?_
          exact ⟨rfl, to_ HB1.out HBC.out⟩
      | true =>
        by_cases h1 : s2 = 1
        · subst h1
          rw [if_pos ⟨rfl, rfl⟩]
          rcases h9 with rfl | ⟨d19, rfl⟩
          all_goals
            go_enter Tryz.func35, Tryz.ntmps35
            go_wp2_with fail
            refine (HP.out _).mono ?_
            rintro e w2 ⟨rfl, rfl⟩
            go_wp2_with fail
            clear hW1 hwA p0 p1 p2 p3 p4 p5 p6 p7 p8 k0 k1 k2 k3 k4 a0 a1 a2 a3 a4 a5 a6 a7 a8 y0 y1 y2 y3 y4
            refine (HSY.out wA HBA.out).mono ?_
            rintro e w4 ⟨rfl, b4⟩
            obtain ⟨wC, hwC⟩ : ∃ wC, w4.alloc (.cells #[.string s0, .bool s1, .int .i64 1, .int .i64 s3, .int .i64 s4] 68) = wC := ⟨_, rfl⟩
            have hb4 : Below wA.heap.size wA wC := by rw [← hwC]; exact to_ b4 (alloc_ _ _)
            have HBC := Lib.hid (to_ HBA.out hb4)
            obtain ⟨z0, z1, z2, z3, z4⟩ := blk5 (show Blk wC w4.heap.size 68 #[.string s0, .bool s1, .int .i64 1, .int .i64 s3, .int .i64 s4] from by rw [← hwC]; exact Blk.new w4 _ _)
            clear b4 hb4
            go_wp2_with fail
            refine (HKS.out _).mono ?_
            rintro e w5 ⟨rfl, rfl⟩
            go_wp2_with fail
            refine bodyPost_ret (results_tmp2 rfl _ _ _) rfl ?_
            exact ⟨rfl, to_ HB1.out HBC.out⟩
        · rw [if_neg (by simp [h1])]
          have d1 : (s2 == 1) = false := by simpa using h1
          clear h1
          rcases h9 with rfl | ⟨d19, rfl⟩
          all_goals
            go_enter Tryz.func35, Tryz.ntmps35
            go_wp2_with fail
            refine (HP.out _).mono ?_
            rintro e w2 ⟨rfl, rfl⟩
            go_wp2_with fail
            clear hW1 hwA p0 p1 p2 p3 p4 p5 p6 p7 p8 k0 k1 k2 k3 k4 a0 a1 a2 a3 a4 a5 a6 a7 a8 y0 y1 y2 y3 y4
            refine (HSY.out wA HBA.out).mono ?_
            rintro e w4 ⟨rfl, b4⟩
            obtain ⟨wC, hwC⟩ : ∃ wC, w4.alloc (.cells #[.string s0, .bool s1, .int .i64 s2, .int .i64 s3, .int .i64 s4] 68) = wC := ⟨_, rfl⟩
            have hb4 : Below wA.heap.size wA wC := by rw [← hwC]; exact to_ b4 (alloc_ _ _)
            have HBC := Lib.hid (to_ HBA.out hb4)
            obtain ⟨z0, z1, z2, z3, z4⟩ := blk5 (show Blk wC w4.heap.size 68 #[.string s0, .bool s1, .int .i64 s2, .int .i64 s3, .int .i64 s4] from by rw [← hwC]; exact Blk.new w4 _ _)
            clear b4 hb4
            go_wp2_with fail
            refine bodyPost_ret (results_tmp2 rfl _ _ _) rfl ?_
            exact ⟨rfl, to_ HB1.out HBC.out⟩
    · rw [if_neg h1921]
      have d19 : (yo == 19) = false := by simp; omega
      have d21 : (yo == 21) = false := by simp; omega
      clear h1921 h20
      go_enter Tryz.func35, Tryz.ntmps35
      go_wp2_with fail
      refine (HP.out _).mono ?_
      rintro e w2 ⟨rfl, rfl⟩
      go_wp2_with fail
      refine bodyPost_ret (results_tmp2 rfl _ _ _) rfl ?_
      exact ⟨rfl, to_ HB1.out HBA.out⟩
end Go.Proofs.YtbknmapkdjmcjaaGreatDoor.By
