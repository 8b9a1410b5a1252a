/-
 Pd2
-/
import Derived.Test.YtdaimeaofgbfpaaGreatZa2
import Derived.Test.YtdaimeaofgbfpaaGreatPb2
import Derived.Test.YtdaimeaofgbfpaaGreatPa2
set_option linter.unusedSimpArgs false
set_option linter.unusedVariables false
namespace Go.Proofs.YtdaimeaofgbfpaaGreat.By
open Go.RowKit
open Mem Gm Rf
noncomputable def veF (x : Fn) (l : List Sy) : Int × Int := if chF x = 0 then veL x l x.cs.length else (chF x, -1)
theorem veL_ok {x : Fn} {l : List Sy} : ∀ n, (veL x l n).1 = 0 → veL x l n = (0, -1)
 | 0, _ => rfl
 | n + 1, h => by
  rw [veL] at h ⊢
  split at h
  ·next h1 =>
   rw [if_pos h1]
   split at h
   ·next h2 => rw [if_pos h2]
   ·next h2 => exact absurd h h2
  ·next h1 => exact absurd h h1
theorem veL_next {x : Fn} {l : List Sy} {n : Nat} (h : (veL x l n).1 = 0) : (veI x l n = 0 → (veL x l (n + 1)).1 = 0) ∧ (veI x l n ≠ 0 → ∀ m, n + 1 ≤ m → veL x l m = (veI x l n, (n : Int))) := by
 refine ⟨fun h2 => by rw [veL, if_pos h, if_pos h2], fun h2 m hm => ?_⟩
 have h3 : veL x l (n + 1) = (veI x l n, (n : Int)) := by rw [veL, if_pos h, if_neg h2]
 rw [← h3]
 exact veL_fix (by rw [h3]; exact h2) m hm
end Go.Proofs.YtdaimeaofgbfpaaGreat.By
namespace Go.Proofs.YtdaimeaofgbfpaaGreat.By
open Go.ChangeShapes Go.WideShapes Go.ChangeAt Go.RowKit
open Mem
theorem index_at (s : ByteArray) (pos : Nat) (h : pos < s.size) (w : World) : (Instr.index 9 (.string s) (.int .i64 pos)).run Tryz.prog w = .ok (.int .u8 ((s[pos]'h).toNat : Int)) w := by
 rw [run_index_string w 9 s .i64 pos Tryz.underlying9, dif_pos ⟨by omega, by omega⟩]
 simp
set_option maxHeartbeats 4000000 in
theorem rcheck_any (o a b c n : Int) (w : World) (hlo : -9223372036854775808 ≤ o) (hhi : o ≤ 9223372036854775807) : Calls Tryz.prog 207 #[.agg #[.int .i64 o, .int .i64 a, .int .i64 b, .int .i64 c, .int .i64 n]] w fun e w' => e = .returned (.int .i64 (chV o a b c n)) ∧ Below w.heap.size w w' := by
 have HN := Hd (rname_any o hlo hhi)
 have HSH := Hd (rshape_any o hlo hhi)
 have HOP := Hd (roperand_any o a b c n)
 have H0 := Hd (Blk.at_ (w := w) 53 (insC o a b c n) rfl)
 have B0 := Hd ((Below.refl w.heap.size w).alloc (Nat.le_refl _) (.cells (insC o a b c n) 53))
 clear hlo hhi
 by_cases hn : 1 ≤ o ∧ o ≤ 28
 ·obtain ⟨q1, q2⟩ := name_ne hn
  have HIN := Hd hn
  generalize nmV o = nm at HN q1 q2
  clear hn
  go_enter Tryz.func207, Tryz.ntmps207
  go_wp2_with fail
  refine (HN.out _).mono ?_
  rintro e w1 ⟨rfl, hb1⟩
  have hs1 : w.heap.size + 1 ≤ w1.heap.size := by simpa using hb1.size
  have K0 := Hd (H0.out.below hb1 (by simp))
  have K1 := Hd (B0.out.trans (hb1.mono (by simp)))
  clear hb1 H0 B0 HN
  go_wp2_with fail
  clear q1 q2
  go_loopw [3] (fun i wr => ∃ k : Nat, k ≤ 3 ∧ i = .int .i64 k ∧ Hid (∀ j, j < k → inV a b c n j) ∧ Hid (Below w1.heap.size w1 wr)) (fun i _ => 3 - (intOf i).toNat)
  case atStart => exact ⟨0, by omega, rfl, Hd (fun j hj => by omega), Hd (Below.refl _ _)⟩
  case round =>
   obtain ⟨k, hk, rfl, HR, HB⟩ := hrel
   obtain ⟨wz, hwz⟩ : ∃ wz, wz = wr := ⟨_, rfl⟩
   subst hwz
   have hsr := HB.out.size
   have HBZ := Hd (K1.out.trans (HB.out.mono (by omega)))
   have KZ := K0.out.below HB.out (by omega)
   have c0 : wz.cell? ⟨w.heap.size, 0, none⟩ = some (.int .i64 o) := by rw [KZ.cell]; rfl
   have c1 : wz.cell? ⟨w.heap.size, 1, none⟩ = some (.int .i64 a) := by rw [KZ.cell]; rfl
   have c2 : wz.cell? ⟨w.heap.size, 2, none⟩ = some (.int .i64 b) := by rw [KZ.cell]; rfl
   have c3 : wz.cell? ⟨w.heap.size, 3, none⟩ = some (.int .i64 c) := by rw [KZ.cell]; rfl
   have c4 : wz.cell? ⟨w.heap.size, 4, none⟩ = some (.int .i64 n) := by rw [KZ.cell]; rfl
   have HKZ := Hd KZ
   have lz : w.heap.size < wz.heap.size := by omega
   clear KZ
   by_cases hlt : k < 3
   ·have hd : decide ((k : Int) < 3) = true := by simp; omega
    have hm : IntKind.i64.wrap ((k : Int) + 1) = (k : Int) + 1 := IntWalk.i64_in _ (by omega)
    have hst : lstV k = 0 ∧ mstV k = 255 := by unfold lstV mstV; rw [if_neg (by omega), if_neg (by omega)]; exact ⟨rfl, rfl⟩
    have HO := Hd (fun w => HOP.out (k : Int) w)
    by_cases hlow : opdV a b c n k < 0
    ·have HF := Hd (ch_range (a := a) (b := b) (c := c) (n := n) HIN.out k (by omega) (fun h => by have := h.1; omega))
     have hd1 : decide (opdV a b c n k < 0) = true := by simpa using hlow
     generalize opdV a b c n k = x at HO hd1
     clear hlow hst hk HR
     go_wp2_with fail
     refine (HO.out _).mono ?_
     rintro e w2 ⟨rfl, hb2⟩
     have HB2 := Hd (HBZ.out.trans (hb2.mono (by omega)))
     clear hb2
     go_wp2_with fail
     go_ret
     exact ⟨by rw [HF.out]; rfl, HB2.out⟩
    ·have hd1 : decide (opdV a b c n k < 0) = false := by simpa using hlow
     by_cases hhigh : 255 < opdV a b c n k
     ·have HF := Hd (ch_range (a := a) (b := b) (c := c) (n := n) HIN.out k (by omega) (fun h => by have := h.2; omega))
      have hd2 : decide (255 < opdV a b c n k) = true := by simpa using hhigh
      generalize opdV a b c n k = x at HO hd1 hd2
      clear hlow hhigh hst hk HR
      go_wp2_with fail
      refine (HO.out _).mono ?_
      rintro e w2 ⟨rfl, hb2⟩
      have HB2 := Hd (HBZ.out.trans (hb2.mono (by omega)))
      have hs2 := hb2.size
      have KZ := HKZ.out.below hb2 (by omega)
      have c0 : w2.cell? ⟨w.heap.size, 0, none⟩ = some (.int .i64 o) := by rw [KZ.cell]; rfl
      have c1 : w2.cell? ⟨w.heap.size, 1, none⟩ = some (.int .i64 a) := by rw [KZ.cell]; rfl
      have c2 : w2.cell? ⟨w.heap.size, 2, none⟩ = some (.int .i64 b) := by rw [KZ.cell]; rfl
      have c3 : w2.cell? ⟨w.heap.size, 3, none⟩ = some (.int .i64 c) := by rw [KZ.cell]; rfl
      have c4 : w2.cell? ⟨w.heap.size, 4, none⟩ = some (.int .i64 n) := by rw [KZ.cell]; rfl
      clear hb2 KZ
      go_wp2_with fail
      refine (HO.out _).mono ?_
      rintro e w3 ⟨rfl, hb3⟩
      have HB3 := Hd (HB2.out.trans (hb3.mono (by omega)))
      clear hb3
      go_wp2_with fail
      go_ret
      exact ⟨by rw [HF.out]; rfl, HB3.out⟩
     ·have hd2 : decide (255 < opdV a b c n k) = false := by simpa using hhigh
      have HR2 : Hid (∀ j, j < k + 1 → inV a b c n j) := Hd (fun j hj => by
       by_cases hjk : j = k
       ·subst hjk; exact ⟨by omega, by omega⟩
       ·exact HR.out j (by omega))
      generalize opdV a b c n k = x at HO hd1 hd2
      clear hlow hhigh hst hk HR
      go_wp2_with fail
      refine (HO.out _).mono ?_
      rintro e w2 ⟨rfl, hb2⟩
      have HB2 := Hd (HB.out.trans (hb2.mono (by omega)))
      have hs2 := hb2.size
      have KZ := HKZ.out.below hb2 (by omega)
      have c0 : w2.cell? ⟨w.heap.size, 0, none⟩ = some (.int .i64 o) := by rw [KZ.cell]; rfl
      have c1 : w2.cell? ⟨w.heap.size, 1, none⟩ = some (.int .i64 a) := by rw [KZ.cell]; rfl
      have c2 : w2.cell? ⟨w.heap.size, 2, none⟩ = some (.int .i64 b) := by rw [KZ.cell]; rfl
      have c3 : w2.cell? ⟨w.heap.size, 3, none⟩ = some (.int .i64 c) := by rw [KZ.cell]; rfl
      have c4 : w2.cell? ⟨w.heap.size, 4, none⟩ = some (.int .i64 n) := by rw [KZ.cell]; rfl
      clear hb2 KZ
      go_wp2_with fail
      refine (HO.out _).mono ?_
      rintro e w3 ⟨rfl, hb3⟩
      have HB3 := Hd (HB2.out.trans (hb3.mono (by omega)))
      clear hb3
      go_wp2_with fail
      go_roundw
      case rel => exact ⟨k + 1, by omega, by go_num, HR2, HB3⟩
      case measure => simp [intOf]; omega
   ·obtain rfl : k = 3 := by omega
    have e3 : opdV a b c n 3 = n := rfl
    by_cases hlow : n < -2147483648
    ·have HF := Hd (ch_range (a := a) (b := b) (c := c) (n := n) HIN.out 3 (by omega) (fun h => by have h1 := h.1; have : lstV 3 = -2147483648 := rfl; have : opdV a b c n ((3 : Nat) : Int) = n := rfl; omega))
     have hd1 : decide (n < -2147483648) = true := by simpa using hlow
     clear hlow HR hlt hk e3
     go_wp2_with fail
     go_ret
     exact ⟨by rw [HF.out]; rfl, HBZ.out⟩
    ·have hd1 : decide (n < -2147483648) = false := by simpa using hlow
     by_cases hhigh : 2147483647 < n
     ·have HF := Hd (ch_range (a := a) (b := b) (c := c) (n := n) HIN.out 3 (by omega) (fun h => by have h1 := h.2; have : mstV 3 = 2147483647 := rfl; have : opdV a b c n ((3 : Nat) : Int) = n := rfl; omega))
      have hd2 : decide (2147483647 < n) = true := by simpa using hhigh
      clear hlow hhigh HR hlt hk e3
      go_wp2_with fail
      go_ret
      exact ⟨by rw [HF.out]; rfl, HBZ.out⟩
     ·have hd2 : decide (2147483647 < n) = false := by simpa using hhigh
      have HR2 : Hid (∀ j, j < 4 → inV a b c n j) := Hd (fun j hj => by
       by_cases hjk : j = 3
       ·subst hjk; exact ⟨by show -2147483648 ≤ n; omega, by show n ≤ 2147483647; omega⟩
       ·exact HR.out j (by omega))
      have HS := Hd (shape_small o)
      have HA : Hid (∀ k : Nat, (shV o).data.toList[k]? = some 45 ∧ opdV a b c n k ≠ 0 → argV o a b c n k) := Hd (fun k h => h)
      have HA2 : Hid (∀ k : Nat, argV o a b c n k → (shV o).data.toList[k]? = some 45 ∧ opdV a b c n k ≠ 0) := Hd (fun k h => h)
      generalize shV o = s at HS HSH HA HA2
      have hsz : s.size ≤ 4 := by
       have : s.size = s.data.toList.length := Array.length_toList.symm
       rcases HS.out.1 with h | h
       ·rw [this, h]; simp
       ·omega
      clear hlow hhigh HR hlt hk e3
      go_wp2_with fail
      refine (HSH.out _).mono ?_
      rintro e w2 ⟨rfl, hb2⟩
      have hs2 := hb2.size
      have HB2 := Hd (HBZ.out.trans (hb2.mono (by omega)))
      have HK2 := Hd (HKZ.out.below hb2 (by omega))
      clear hb2 HBZ HKZ c0 c1 c2 c3 c4
      go_wp2_with fail
      go_loopw [5] (fun i wr => ∃ pos : Nat, pos ≤ s.size ∧ i = .int .i64 pos ∧ Hid (Below w2.heap.size w2 wr) ∧ Hid (∀ j, j < pos → ¬ argV o a b c n j)) (fun i _ => s.size - (intOf i).toNat)
      case atStart => exact ⟨0, by omega, rfl, Hd (Below.refl _ _), Hd (fun j h => by omega)⟩
      case round =>
       obtain ⟨pos, hpos, rfl, HBX, HNA⟩ := hrel
       have hsx := HBX.out.size
       have HBA := Hd (HB2.out.trans (HBX.out.mono (by omega)))
       by_cases hp : pos < s.size
       ·have hpl : pos < s.data.toList.length := by simpa using hp
        have hgl : (s[pos]'hp) = s.data.toList[pos] := by simp [ByteArray.getElem_eq_getElem_data]
        have hix := index_at s pos hp
        have hd3 : decide ((pos : Int) < s.size) = true := by simp; omega
        have hm : IntKind.i64.wrap ((pos : Int) + 1) = (pos : Int) + 1 := IntWalk.i64_in _ (by omega)
        have HLET : Hid (s.data.toList[pos]? = some 45 ↔ (s[pos]'hp).toNat = 45) := Hd (by
         rw [List.getElem?_eq_getElem hpl, ← hgl]
         constructor
         ·intro e; injection e with e; rw [e]; rfl
         ·intro e; congr 1; exact UInt8.toNat_inj.1 (by rw [e]; rfl))
        have KZ := HK2.out.below HBX.out (by omega)
        have c0 : wr.cell? ⟨w.heap.size, 0, none⟩ = some (.int .i64 o) := by rw [KZ.cell]; rfl
        have c1 : wr.cell? ⟨w.heap.size, 1, none⟩ = some (.int .i64 a) := by rw [KZ.cell]; rfl
        have c2 : wr.cell? ⟨w.heap.size, 2, none⟩ = some (.int .i64 b) := by rw [KZ.cell]; rfl
        have c3 : wr.cell? ⟨w.heap.size, 3, none⟩ = some (.int .i64 c) := by rw [KZ.cell]; rfl
        have c4 : wr.cell? ⟨w.heap.size, 4, none⟩ = some (.int .i64 n) := by rw [KZ.cell]; rfl
        have HO := Hd (fun w => HOP.out (pos : Int) w)
        generalize hcc : (s[pos]'hp).toNat = cc at hix HLET
        clear hcc hgl KZ
        by_cases hl : cc = 45
        ·by_cases hz : opdV a b c n pos = 0
         ·have HN2 : Hid (∀ j, j < pos + 1 → ¬ argV o a b c n j) := Hd (fun j hj => by
           by_cases hjk : j = pos
           ·subst hjk; exact fun h => (HA2.out _ h).2 hz
           ·exact HNA.out j (by omega))
          subst hl
          rw [hz] at HO
          clear hz HNA HLET HBA
          go_wp2_with fail
          refine (HO.out _).mono ?_
          rintro e w3 ⟨rfl, hb3⟩
          have HB3 := Hd (HBX.out.trans (hb3.mono (by omega)))
          clear hb3
          go_wp2_with fail
          go_roundw
          case rel => exact ⟨pos + 1, by omega, by go_num, HB3, HN2⟩
          case measure => simp [intOf]; omega
         ·have HF := Hd (ch_arg HIN.out HR2.out pos (by omega) (HA.out pos ⟨HLET.out.2 hl, hz⟩))
          have hz2 : (opdV a b c n pos == 0) = false := by simpa using hz
          have hz3 : (opdV a b c n pos != 0) = true := by simpa using hz
          subst hl
          generalize opdV a b c n pos = x at HO hz2 hz3
          clear hz HNA HLET
          go_wp2_with fail
          refine (HO.out _).mono ?_
          rintro e w3 ⟨rfl, hb3⟩
          have HB3 := Hd (HBA.out.trans (hb3.mono (by omega)))
          clear hb3
          go_wp2_with fail
          go_ret
          exact ⟨by rw [HF.out]; rfl, HB3.out⟩
        ·have HN2 : Hid (∀ j, j < pos + 1 → ¬ argV o a b c n j) := Hd (fun j hj => by
          by_cases hjk : j = pos
          ·subst hjk; exact fun h => hl (HLET.out.1 (HA2.out _ h).1)
          ·exact HNA.out j (by omega))
         have hl2 : ((cc : Int) == 45) = false := by simp; omega
         clear hl HNA HLET HBA
         go_wp2_with fail
         go_roundw
         case rel => exact ⟨pos + 1, by omega, by go_num, HBX, HN2⟩
         case measure => simp [intOf]; omega
       ·have hd3 : decide ((pos : Int) < s.size) = false := by simp; omega
        have HF := Hd (ch_ok HIN.out HR2.out (fun k hk4 h => by
         have h2 := (HA2.out _ h).1
         have h3 : k < s.data.toList.length := (List.getElem?_eq_some_iff.1 h2).1
         have h4 : s.size = s.data.toList.length := Array.length_toList.symm
         exact HNA.out k (by omega) h))
        clear HNA hpos
        go_wp2_with fail
        go_ret
        exact ⟨by rw [HF.out]; rfl, HBA.out⟩
 ·rw [(outside o hn).1] at HN
  rw [ch_kind hn]
  clear hn
  go_enter Tryz.func207, Tryz.ntmps207
  go_wp2_with fail
  refine (HN.out _).mono ?_
  rintro e w1 ⟨rfl, hb1⟩
  go_wp2_with fail
  go_ret
  exact ⟨rfl, B0.out.trans (hb1.mono (by simp))⟩
end Go.Proofs.YtdaimeaofgbfpaaGreat.By
namespace Go.Proofs.YtdaimeaofgbfpaaGreat.By
open Go.RowKit
open Mem Gm Rf
set_option maxRecDepth 100000 in
set_option maxHeartbeats 4000000 in
theorem rcode_any (w : World) (AK AL AC AR : Option Addr) (nK cK nL cL nC cC nR cR : Nat) (x : Fn) (hF : FnW w AK nK cK AL nL cL AC nC cC AR nR cR x) (hnn : nK ≤ 1000000 ∧ nL ≤ 1000000 ∧ nC ≤ 1000000 ∧ nR ≤ 1000000) (hB : ∀ k, k < x.cs.length → -9223372036854775808 ≤ (inAt x.cs k).1 ∧ (inAt x.cs k).1 ≤ 9223372036854775807) :
  Calls Tryz.prog 180 #[.agg #[.int .i64 x.k, .slice AK nK cK, .int .i64 x.pd, .bool x.ns, .int .i64 x.f, .int .i64 x.t, .slice AL nL cL, .slice AC nC cC, .slice AR nR cR]] w (CAns w (cdV x)) := by
 obtain ⟨k0, ks, pd, ns, f0, t0, ls, cs, rs⟩ := x
 obtain ⟨hk, hkl, hl, hc, hr⟩ := hF
 dsimp only at hk hkl hl hc hr hB ⊢
 have hll : ls.length = nL := hl.1
 have hcl : cs.length = nC := hc.1
 have hrl : rs.length = nR := hr.1
 obtain ⟨W1, hW1⟩ : ∃ W1, w.alloc (.cells #[.int .i64 k0, .slice AK nK cK, .int .i64 pd, .bool ns, .int .i64 f0, .int .i64 t0, .slice AL nL cL, .slice AC nC cC, .slice AR nR cR] 49) = W1 := ⟨_, rfl⟩
 have hsz1 : w.heap.size < W1.heap.size := by rw [← hW1]; simp
 have HB0 := Hd (show Below w.heap.size w W1 by rw [← hW1]; exact alloc_ _ _)
 have HX := Hd (show ∀ W, Below W1.heap.size W1 W → Blk W w.heap.size 49 #[.int .i64 k0, .slice AK nK cK, .int .i64 pd, .bool ns, .int .i64 f0, .int .i64 t0, .slice AL nL cL, .slice AC nC cC, .slice AR nR cR] from fun W hb => (hb.block _ hsz1).trans (by rw [← hW1]; exact Blk.new w _ _))
 obtain ⟨c0, c1, c2, c3, c4, c5, c6, c7, c8⟩ := blk9 (HX.out W1 (Below.refl _ _))
 have HFC := Hd (rfcheck_any W1 AC nC cC _ _ (Cd.of_in (hc.on HB0.out)))
 have HIC := Hd (fun W k (hk : k < nC) => rcheck_any (inAt cs k).1 (inAt cs k).2.1 (inAt cs k).2.2.1 (inAt cs k).2.2.2.1 (inAt cs k).2.2.2.2 W (hB k (by omega)).1 (hB k (by omega)).2)
 have HOW := Hd (fun z W => rown_any z W)
 have HCC := Hd (fun W (hb : Below W1.heap.size W1 W) i (hi : i < nC) => (hc.on (to_ HB0.out hb)).at_ hi)
 have HS := Hd (show ∀ k, k < nC → cs[k]? = some (inAt cs k) from fun k hk => inAt_some (by omega))
 have HLN := Hd hcl
 unfold cdV flowV
 dsimp only
 rw [hcl]
 generalize chk nC (gph nC (fun i => (inAt cs i).1) (fun i => (inAt cs i).2.2.2.2)) = y at HFC ⊢
 have hb4 := hnn.2.2.1
 clear hk hkl hl hc hr hll hcl hrl hsz1 hB
 by_cases hy : y = 0
 ·subst hy
  rw [if_neg (by simp)]
  go_enter Tryz.func180, Tryz.ntmps180
  go_wp2_with (go_at_call 206; refine HFC.out.mono ?_; rintro e w2 ⟨rfl, hb2⟩; have HB2 := Hd hb2; clear c0 c1 c2 c3 c4 c5 c6 c7 c8; obtain ⟨c0, c1, c2, c3, c4, c5, c6, c7, c8⟩ := blk9 (HX.out w2 hb2); clear hb2)
  clear hW1
  go_loopw [4] (fun i wr => ∃ k : Nat, k ≤ nC ∧ i = .int .i64 (k : Int) ∧ Hid (codL cs = codL (cs.drop k)) ∧ Below W1.heap.size W1 wr) (fun i _ => nC - (intOf i).toNat)
  case atStart => exact ⟨0, Nat.zero_le _, rfl, Hd (by rw [List.drop_zero]), HB2.out⟩
  case round =>
   obtain ⟨k, hk, rfl, HO, hbel⟩ := hrel
   have HBE := Hd hbel
   clear c0 c1 c2 c3 c4 c5 c6 c7 c8
   obtain ⟨c0, c1, c2, c3, c4, c5, c6, c7, c8⟩ := blk9 (HX.out wr hbel)
   by_cases hlt : k < nC
   ·have hkI : (k : Int) < (nC : Int) := by omega
    obtain ⟨ad, had⟩ : ∃ ad, AC = some ad := (HCC.out wr hbel k hlt).imp fun _ h => h.1
    subst had
    have HCQ := Hd (fun W hb => HCC.out W hb k hlt)
    have HK := Hd (HO.out.trans (codL_at (HS.out k hlt)))
    have HIX := Hd (fun W => HIC.out W k hlt)
    generalize inAt cs k = x at HK HCQ HIX
    obtain ⟨ad1, e1, _, a0, a1, a2, a3, a4⟩ := HCQ.out wr hbel
    injection e1 with e1
    subst e1
    have HOX := Hd (fun W => HOW.out x.1 W)
    clear hbel
    generalize chV x.1 x.2.1 x.2.2.1 x.2.2.2.1 x.2.2.2.2 = z at HK HIX
    by_cases hz : z = 0
    ·subst hz
     rw [if_neg (by simp)] at HK
     cases ho : ownV x.1 with
     | false =>
      rw [ho, if_pos rfl] at HK
      rw [ho] at HOX
      clear ho
      go_wp2_with (first
       | (go_at_call 207; refine (HIX.out _).mono ?_; rintro e w9 ⟨rfl, b9⟩; have HB9 := Hd (to_ HBE.out b9); clear b9 a0 a1 a2 a3 a4 c0 c1 c2 c3 c4 c5 c6 c7 c8; obtain ⟨c0, c1, c2, c3, c4, c5, c6, c7, c8⟩ := blk9 (HX.out w9 HB9.out); obtain ⟨ad1, e1, _, a0, a1, a2, a3, a4⟩ := HCQ.out w9 HB9.out; injection e1 with e1; subst e1)
       | (go_at_call 208; refine (HOX.out _).mono ?_; rintro e w8 ⟨rfl, rfl⟩))
      go_ret
      exact ⟨ret_int (by rw [HK.out]), to_ HB0.out HB9.out⟩
     | true =>
      rw [ho, if_neg (by simp)] at HK
      rw [ho] at HOX
      clear ho
      go_wp2_with (first
       | (go_at_call 207; refine (HIX.out _).mono ?_; rintro e w9 ⟨rfl, b9⟩; have HB9 := Hd (to_ HBE.out b9); clear b9 a0 a1 a2 a3 a4 c0 c1 c2 c3 c4 c5 c6 c7 c8; obtain ⟨c0, c1, c2, c3, c4, c5, c6, c7, c8⟩ := blk9 (HX.out w9 HB9.out); obtain ⟨ad1, e1, _, a0, a1, a2, a3, a4⟩ := HCQ.out w9 HB9.out; injection e1 with e1; subst e1)
       | (go_at_call 208; refine (HOX.out _).mono ?_; rintro e w8 ⟨rfl, rfl⟩))
      go_roundw
      case rel => exact ⟨k + 1, by omega, by go_num, HK, HB9.out⟩
      case measure => simp [intOf]; omega
    ·have hz2 : (z == 0) = false := by simp [hz]
     rw [if_pos hz] at HK
     clear hz
     go_wp2_with (go_at_call 207; refine (HIX.out _).mono ?_; rintro e w9 ⟨rfl, b9⟩; have HB9 := Hd (to_ HBE.out b9); clear b9)
     go_ret
     exact ⟨ret_int (by rw [HK.out]), to_ HB0.out HB9.out⟩
   ·obtain rfl : k = nC := by omega
    have HV := Hd (show codL cs = 0 from by rw [HO.out, List.drop_eq_nil_of_le (by have := HLN.out; omega)]; rfl)
    clear hbel
    go_wp2_with fail
    go_ret
    exact ⟨ret_int (by rw [HV.out]), to_ HB0.out HBE.out⟩
 ·have hy2 : (y == 0) = false := by simp [hy]
  rw [if_pos hy]
  clear hy
  go_enter Tryz.func180, Tryz.ntmps180
  go_wp2_with (go_at_call 206; refine HFC.out.mono ?_; rintro e w2 ⟨rfl, hb2⟩; have HB2 := Hd hb2; clear hb2)
  go_ret
  exact ⟨rfl, to_ HB0.out HB2.out⟩
def kdB (p : Int) (k : Nat) (z : Int) : Bool := nkB z || (decide ((k : Int) < p) && nnB z)
def kdL (p : Int) : Nat → List Int → Bool
 | _, [] => false
 | k, z :: r => kdB p k z || kdL p (k + 1) r
theorem kdL_at {p : Int} {j : Nat} : ∀ {l : List Int} {k : Nat}, k < l.length → kdL p (j + k) (l.drop k) = (kdB p (j + k) (el l k) || kdL p (j + (k + 1)) (l.drop (k + 1))) := by
 intro l k hk
 rw [List.drop_eq_getElem_cons hk, el_at hk]
 rfl
theorem kdL_any (p : Nat) : ∀ (l : List Int) (k : Nat), kdL (p : Int) k l = (l.any nkB || (l.take (p - k)).any nnB)
 | [], k => by simp [kdL]
 | z :: r, k => by
  rw [kdL, kdL_any p r (k + 1), kdB, List.any_cons]
  by_cases h : k < p
  ·have e : p - k = (p - (k + 1)) + 1 := by omega
   have hI : decide ((k : Int) < (p : Int)) = true := decide_eq_true (by omega)
   rw [e, List.take_succ_cons, List.any_cons, hI]
   cases nkB z <;> cases nnB z <;> cases r.any nkB <;> simp
  ·have e : p - k = 0 := by omega
   have e2 : p - (k + 1) = 0 := by omega
   have hI : decide ((k : Int) < (p : Int)) = false := decide_eq_false (by omega)
   rw [e, e2, hI]
   cases nkB z <;> simp
theorem el_mem {l : List Int} {k : Nat} (h : k < l.length) : el l k ∈ l := by
 rw [← el_at h]
 exact List.getElem_mem h
theorem kind_txt (z : Int) : ((ByteArray.toList (Si.textV z)).isEmpty = nkB z) := by
 rcases Si.eight z with h | h | rfl | rfl | rfl | rfl | rfl | rfl | rfl | rfl | rfl
 ·rw [show Si.textV z = ⟨#[]⟩ from by unfold Si.textV; rw [if_neg (by omega)], show nkB z = true from by unfold nkB; simp; omega, ByteArray.toList_eq]; rfl
 ·rw [show Si.textV z = ⟨#[]⟩ from by unfold Si.textV; rw [if_neg (by omega)], show nkB z = true from by unfold nkB; simp; omega, ByteArray.toList_eq]; rfl
 all_goals
  rw [ByteArray.toList_eq]
  decide
def slV (x : Fn) : Int := if Si.isC x.k = false then 14 else if 16 < x.ks.length then 6 else if (x.ks.length : Int) < Si.parV x.k then 2 else if kdL (Si.parV x.k) 0 x.ks = true then 8 else 0
set_option maxRecDepth 100000 in
set_option maxHeartbeats 8000000 in
theorem rslots_any (w : World) (AK AL AC AR : Option Addr) (nK cK nL cL nC cC nR cR : Nat) (x : Fn) (hF : FnW w AK nK cK AL nL cL AC nC cC AR nR cR x) (hnn : nK ≤ 1000000 ∧ nL ≤ 1000000 ∧ nC ≤ 1000000 ∧ nR ≤ 1000000) (hB : ∀ z ∈ x.ks, -9223372036854775808 ≤ z ∧ z ≤ 9223372036854775807) :
  Calls Tryz.prog 179 #[.agg #[.int .i64 x.k, .slice AK nK cK, .int .i64 x.pd, .bool x.ns, .int .i64 x.f, .int .i64 x.t, .slice AL nL cL, .slice AC nC cC, .slice AR nR cR]] w (CAns w (slV x)) := by
 obtain ⟨k0, ks, pd, ns, f0, t0, ls, cs, rs⟩ := x
 obtain ⟨hk, hkl, hl, hc, hr⟩ := hF
 dsimp only at hk hkl hl hc hr hB ⊢
 have hll : ls.length = nL := hl.1
 have hcl : cs.length = nC := hc.1
 have hrl : rs.length = nR := hr.1
 obtain ⟨W1, hW1⟩ : ∃ W1, w.alloc (.cells #[.int .i64 k0, .slice AK nK cK, .int .i64 pd, .bool ns, .int .i64 f0, .int .i64 t0, .slice AL nL cL, .slice AC nC cC, .slice AR nR cR] 49) = W1 := ⟨_, rfl⟩
 have hsz1 : w.heap.size < W1.heap.size := by rw [← hW1]; simp
 have HB0 := Hd (show Below w.heap.size w W1 by rw [← hW1]; exact alloc_ _ _)
 have HX := Hd (show ∀ W, Below W1.heap.size W1 W → Blk W w.heap.size 49 #[.int .i64 k0, .slice AK nK cK, .int .i64 pd, .bool ns, .int .i64 f0, .int .i64 t0, .slice AL nL cL, .slice AC nC cC, .slice AR nR cR] from fun W hb => (hb.block _ hsz1).trans (by rw [← hW1]; exact Blk.new w _ _))
 obtain ⟨c0, c1, c2, c3, c4, c5, c6, c7, c8⟩ := blk9 (HX.out W1 (Below.refl _ _))
 have HIS := Hd (fun W => Si.ris_any k0 W)
 have HPA := Hd (fun W => Si.rpar_any k0 W)
 have HPQ := Hd (fun W => (Si.rpar_any k0 W).mono fun e w' hh => (⟨hh.1, hh.2.symm⟩ : e = .returned (.int .i64 (Si.parV k0)) ∧ w' = W))
 have HRT := Hd (fun W k (hk : k < nK) => Si.rtext_any (el ks k) (hB _ (el_mem (by omega))).1 (hB _ (el_mem (by omega))).2 W)
 have HKC := Hd (fun W (hb : Below W1.heap.size W1 W) i (hi : i < nK) => iw_cell (hk.on (to_ HB0.out hb)) hkl hi)
 have HKD := Hd (fun k (hk : k < nK) => kdL_at (p := Si.parV k0) (j := 0) (l := ks) (k := k) (by omega))
 have HLN := Hd hkl
 have hb4 := hnn.1
 unfold slV
 dsimp only
 rw [hkl]
 clear hk hkl hl hc hr hll hcl hrl hsz1 hB
 by_cases h1 : Si.isC k0 = false
 ·rw [if_pos h1]
  rw [h1] at HIS
  go_enter Tryz.func179, Tryz.ntmps179
  go_wp2_with (go_at_call 117; refine (HIS.out _).mono ?_; rintro e w9 ⟨rfl, rfl⟩)
  go_ret
  exact ⟨rfl, HB0.out⟩
 ·have h1' : Si.isC k0 = true := by simpa using h1
  rw [if_neg h1]
  rw [h1'] at HIS
  by_cases h2 : 16 < nK
  ·have h2I : (16 : Int) < (nK : Int) := by omega
   rw [if_pos h2]
   go_enter Tryz.func179, Tryz.ntmps179
   go_wp2_with (go_at_call 117; refine (HIS.out _).mono ?_; rintro e w9 ⟨rfl, rfl⟩)
   go_ret
   exact ⟨rfl, HB0.out⟩
  ·have h2I : ¬ (16 : Int) < (nK : Int) := by omega
   rw [if_neg h2]
   generalize Si.parV k0 = p at HPA HPQ HKD ⊢
   by_cases h3 : (nK : Int) < p
   ·rw [if_pos h3]
    clear h1 h1'
    go_enter Tryz.func179, Tryz.ntmps179
    go_wp2_with (go_at_call 117; refine (HIS.out _).mono ?_; rintro e w9 ⟨rfl, rfl⟩)
    clear hW1
    go_quiet ((go_at_call 205; exact Calls.quiet_of_same (HPQ.out _)))
    go_wp2_with fail
    go_ret
    exact ⟨rfl, below_drewN HB0.out _⟩
   ·rw [if_neg h3]
    clear h1 h1'
    obtain ⟨rr, hrr⟩ : ∃ r : Int, (if kdL p 0 ks = true then (8 : Int) else 0) = r := ⟨_, rfl⟩
    rw [hrr]
    have HRR := Hd hrr
    clear hrr
    go_enter Tryz.func179, Tryz.ntmps179
    go_wp2_with (go_at_call 117; refine (HIS.out _).mono ?_; rintro e w9 ⟨rfl, rfl⟩)
    clear hW1
    go_quiet ((go_at_call 205; exact Calls.quiet_of_same (HPQ.out _)))
    go_wp2_with fail
    go_loopw [3] (fun i wr => ∃ k : Nat, k ≤ nK ∧ i = .int .i64 (k : Int) ∧ Hid (kdL p 0 ks = kdL p (0 + k) (ks.drop k)) ∧ Below W1.heap.size W1 wr) (fun i _ => nK - (intOf i).toNat)
    case atStart => exact ⟨0, Nat.zero_le _, rfl, Hd (by rw [List.drop_zero]), below_drewN (Below.refl _ _) _⟩
    case round =>
     obtain ⟨k, hk, rfl, HO, hbel⟩ := hrel
     have HBE := Hd hbel
     clear c0 c1 c2 c3 c4 c5 c6 c7 c8
     obtain ⟨c0, c1, c2, c3, c4, c5, c6, c7, c8⟩ := blk9 (HX.out wr hbel)
     by_cases hlt : k < nK
     ·have hkI : (k : Int) < (nK : Int) := by omega
      obtain ⟨ad, had⟩ : ∃ ad, AK = some ad := (HKC.out wr hbel k hlt).imp fun _ h => h.1
      subst had
      have HCQ := Hd (fun W hb => HKC.out W hb k hlt)
      have HK := Hd (HO.out.trans (HKD.out k hlt))
      have HRX := Hd (fun W => HRT.out W k hlt)
      obtain ⟨z, hz⟩ : ∃ z, el ks k = z := ⟨_, rfl⟩
      rw [hz] at HK HCQ HRX
      obtain ⟨ad1, e1, _, a0⟩ := HCQ.out wr hbel
      injection e1 with e1
      subst e1
      have hem := kind_txt z
      clear hbel hz
      unfold kdB at HK
      rw [Nat.zero_add] at HK
      generalize Si.textV z = y at HRX hem
      by_cases hn : nkB z = true
      ·rw [hn, Bool.true_or, Bool.true_or] at HK
       rw [hn] at hem
       go_wp2_with (first
        | (go_at_call 118; refine (HRX.out _).mono ?_; rintro e w9 ⟨rfl, b9⟩; have HB9 := Hd (to_ HBE.out b9); clear b9 a0 c0 c1 c2 c3 c4 c5 c6 c7 c8; obtain ⟨c0, c1, c2, c3, c4, c5, c6, c7, c8⟩ := blk9 (HX.out w9 HB9.out); obtain ⟨ad1, e1, _, a0⟩ := HCQ.out w9 HB9.out; injection e1 with e1; subst e1)
        | (go_at_call 205; refine (HPA.out _).mono ?_; rintro e w8 ⟨rfl, rfl⟩))
       go_ret
       exact ⟨ret_int (by rw [← HRR.out, HK.out, if_pos rfl]), to_ HB0.out HB9.out⟩
      ·have hn2 : nkB z = false := by simpa using hn
       rw [hn2, Bool.false_or] at HK
       rw [hn2] at hem
       clear hn hn2
       by_cases hp : (k : Int) < p
       ·rw [decide_eq_true hp, Bool.true_and] at HK
        by_cases h0 : z = 0
        ·subst h0
         rw [show nnB 0 = false from rfl, Bool.false_or] at HK
         go_wp2_with (first
          | (go_at_call 118; refine (HRX.out _).mono ?_; rintro e w9 ⟨rfl, b9⟩; have HB9 := Hd (to_ HBE.out b9); clear b9 a0 c0 c1 c2 c3 c4 c5 c6 c7 c8; obtain ⟨c0, c1, c2, c3, c4, c5, c6, c7, c8⟩ := blk9 (HX.out w9 HB9.out); obtain ⟨ad1, e1, _, a0⟩ := HCQ.out w9 HB9.out; injection e1 with e1; subst e1)
          | (go_at_call 205; refine (HPA.out _).mono ?_; rintro e w8 ⟨rfl, rfl⟩))
         go_roundw
         case rel => exact ⟨k + 1, by omega, by go_num, HK, HB9.out⟩
         case measure => simp [intOf]; omega
        ·have h02 : (z == 0) = false := by simp [h0]
         rw [show nnB z = true from by unfold nnB; simp [h0], Bool.true_or] at HK
         clear h0
         go_wp2_with (first
          | (go_at_call 118; refine (HRX.out _).mono ?_; rintro e w9 ⟨rfl, b9⟩; have HB9 := Hd (to_ HBE.out b9); clear b9 a0 c0 c1 c2 c3 c4 c5 c6 c7 c8; obtain ⟨c0, c1, c2, c3, c4, c5, c6, c7, c8⟩ := blk9 (HX.out w9 HB9.out); obtain ⟨ad1, e1, _, a0⟩ := HCQ.out w9 HB9.out; injection e1 with e1; subst e1)
          | (go_at_call 205; refine (HPA.out _).mono ?_; rintro e w8 ⟨rfl, rfl⟩))
         go_ret
         exact ⟨ret_int (by rw [← HRR.out, HK.out, if_pos rfl]), to_ HB0.out HB9.out⟩
       ·rw [decide_eq_false hp, Bool.false_and, Bool.false_or] at HK
        go_wp2_with (first
         | (go_at_call 118; refine (HRX.out _).mono ?_; rintro e w9 ⟨rfl, b9⟩; have HB9 := Hd (to_ HBE.out b9); clear b9 a0 c0 c1 c2 c3 c4 c5 c6 c7 c8; obtain ⟨c0, c1, c2, c3, c4, c5, c6, c7, c8⟩ := blk9 (HX.out w9 HB9.out); obtain ⟨ad1, e1, _, a0⟩ := HCQ.out w9 HB9.out; injection e1 with e1; subst e1)
         | (go_at_call 205; refine (HPA.out _).mono ?_; rintro e w8 ⟨rfl, rfl⟩))
        go_roundw
        case rel => exact ⟨k + 1, by omega, by go_num, HK, HB9.out⟩
        case measure => simp [intOf]; omega
     ·obtain rfl : k = nK := by omega
      have HV := Hd (show kdL p 0 ks = false from by rw [HO.out, List.drop_eq_nil_of_le (by have := HLN.out; omega)]; rfl)
      clear hbel
      go_wp2_with fail
      go_ret
      exact ⟨ret_int (by rw [← HRR.out, HV.out]; rfl), to_ HB0.out HBE.out⟩
def okL (m : Int) (l : List Ln) : Bool := f0B l && (risB m (-1) (l.map fun y => y.1) && !(l.any lnB9))
def okR (m z : Int) (l : List Ln) : Bool := risB m z (l.map fun y => y.1) && !(l.any lnB9)
theorem okR_at {m z : Int} {l : List Ln} {k : Nat} {x : Ln} (h : l[k]? = some x) : okR m z (l.drop k) = ((decide (z < x.1) && decide (x.1 < m)) && (!lnB9 x && okR m x.1 (l.drop (k + 1)))) := by
 have hk := (List.getElem?_eq_some_iff.1 h).1
 have hx := (List.getElem?_eq_some_iff.1 h).2
 unfold okR
 rw [List.drop_eq_getElem_cons hk, hx, List.map_cons, List.any_cons, risB]
 cases decide (z < x.1) <;> cases decide (x.1 < m) <;> cases lnB9 x <;> simp
theorem okL_at {m : Int} {l : List Ln} {x : Ln} (h : l[0]? = some x) : okL m l = (decide (x.1 = 0) && (decide (x.1 < m) && (!lnB9 x && okR m x.1 (l.drop (0 + 1))))) := by
 cases l with
 | nil => simp at h
 | cons a r =>
  have : a = x := by simpa using h
  subst this
  unfold okL okR
  rw [f0B, List.map_cons, risB, List.any_cons, List.drop_succ_cons, List.drop_zero]
  by_cases h0 : a.1 = 0
  ·rw [h0]
   cases lnB9 a <;> simp [Bool.and_assoc]
  ·rw [decide_eq_false h0]; simp
set_option maxRecDepth 100000 in
set_option maxHeartbeats 8000000 in
theorem rlines_any (w : World) (AK AL AC AR : Option Addr) (nK cK nL cL nC cC nR cR : Nat) (x : Fn) (hF : FnW w AK nK cK AL nL cL AC nC cC AR nR cR x) (hnn : nK ≤ 1000000 ∧ nL ≤ 1000000 ∧ nC ≤ 1000000 ∧ nR ≤ 1000000) :
  Calls Tryz.prog 181 #[.agg #[.int .i64 x.k, .slice AK nK cK, .int .i64 x.pd, .bool x.ns, .int .i64 x.f, .int .i64 x.t, .slice AL nL cL, .slice AC nC cC, .slice AR nR cR]] w (CAns w (lnV9 x)) := by
 obtain ⟨k0, ks, pd, ns, f0, t0, ls, cs, rs⟩ := x
 obtain ⟨hk, hkl, hl, hc, hr⟩ := hF
 dsimp only at hk hkl hl hc hr ⊢
 have hll : ls.length = nL := hl.1
 have hcl : cs.length = nC := hc.1
 have hrl : rs.length = nR := hr.1
 obtain ⟨W1, hW1⟩ : ∃ W1, w.alloc (.cells #[.int .i64 k0, .slice AK nK cK, .int .i64 pd, .bool ns, .int .i64 f0, .int .i64 t0, .slice AL nL cL, .slice AC nC cC, .slice AR nR cR] 49) = W1 := ⟨_, rfl⟩
 have hsz1 : w.heap.size < W1.heap.size := by rw [← hW1]; simp
 have HB0 := Hd (show Below w.heap.size w W1 by rw [← hW1]; exact alloc_ _ _)
 have HX := Hd (show ∀ W, Below W1.heap.size W1 W → Blk W w.heap.size 49 #[.int .i64 k0, .slice AK nK cK, .int .i64 pd, .bool ns, .int .i64 f0, .int .i64 t0, .slice AL nL cL, .slice AC nC cC, .slice AR nR cR] from fun W hb => (hb.block _ hsz1).trans (by rw [← hW1]; exact Blk.new w _ _))
 obtain ⟨c0, c1, c2, c3, c4, c5, c6, c7, c8⟩ := blk9 (HX.out W1 (Below.refl _ _))
 have HCL := Hd (fun W (hb : Below W1.heap.size W1 W) i (hi : i < nL) => (hl.on (to_ HB0.out hb)).at_ hi)
 have HS := Hd (show ∀ k, k < nL → ls[k]? = some (lnAt ls k) from fun k hk => lnAt_some (by omega))
 have HLN := Hd hll
 have hb4 := hnn.2.1
 have HVV := Hd (show lnV9 ⟨k0, ks, pd, ns, f0, t0, ls, cs, rs⟩ = if 16 < nL then 6 else if okL (nC : Int) ls = true then 0 else 9 from by unfold lnV9 okL; dsimp only; rw [hll, hcl])
 rw [HVV.out]
 clear hk hkl hl hc hr hll hcl hrl hsz1 HVV
 by_cases h1 : 16 < nL
 ·have h1I : (16 : Int) < (nL : Int) := by omega
  rw [if_pos h1]
  go_enter Tryz.func181, Tryz.ntmps181
  go_wp2_with fail
  go_ret
  exact ⟨rfl, HB0.out⟩
 ·have h1I : ¬ (16 : Int) < (nL : Int) := by omega
  rw [if_neg h1]
  obtain ⟨rr, hrr⟩ : ∃ r : Int, (if okL (nC : Int) ls = true then (0 : Int) else 9) = r := ⟨_, rfl⟩
  rw [hrr]
  have HRR := Hd hrr
  clear hrr
  go_enter Tryz.func181, Tryz.ntmps181
  go_wp2_with fail
  clear hW1
  go_loopw [3] (fun i wr => ∃ k : Nat, k ≤ nL ∧ i = .int .i64 (k : Int) ∧ Hid (∀ j : Nat, k = j + 1 → okL (nC : Int) ls = okR (nC : Int) (lnAt ls j).1 (ls.drop (j + 1)) ∧ 0 ≤ (lnAt ls j).1) ∧ Below W1.heap.size W1 wr) (fun i _ => nL - (intOf i).toNat)
  case atStart => exact ⟨0, Nat.zero_le _, rfl, Hd (fun j hj => by omega), Below.refl _ _⟩
  case round =>
   obtain ⟨k, hk, rfl, HO, hbel⟩ := hrel
   have HBE := Hd hbel
   clear c0 c1 c2 c3 c4 c5 c6 c7 c8
   obtain ⟨c0, c1, c2, c3, c4, c5, c6, c7, c8⟩ := blk9 (HX.out wr hbel)
   by_cases hlt : k < nL
   ·have hkI : (k : Int) < (nL : Int) := by omega
    cases k with
    | zero =>
     obtain ⟨ad, rfl, _, a0, a1⟩ := HCL.out wr hbel 0 hlt
     have HK := Hd (okL_at (m := (nC : Int)) (HS.out 0 hlt))
     obtain ⟨x, hx⟩ : ∃ x, lnAt ls 0 = x := ⟨_, rfl⟩
     have HX2 := Hd hx
     rw [hx] at HK a0 a1
     clear hx
     obtain ⟨x0, x1⟩ := x
     dsimp only at HK HX2 a0 a1
     have a0' : wr.cell? ad = some (.int .i64 x0) := by have h9 := a0; rw [Nat.zero_mul] at h9; exact h9
     have a1' : wr.cell? ⟨ad.block, ad.off + 1, none⟩ = some (.int .i64 x1) := by have h9 := a1; rw [Nat.zero_mul] at h9; exact h9
     obtain ⟨Wx, hWx⟩ : ∃ Wx, wr.alloc (.cells #[.int .i64 x0, .int .i64 x1] 237) = Wx := ⟨_, rfl⟩
     have HBX := Hd (show Below wr.heap.size wr Wx from by rw [← hWx]; exact alloc_ _ _)
     have hbk : Blk Wx wr.heap.size 237 #[.int .i64 x0, .int .i64 x1] := by rw [← hWx]; exact Blk.new wr _ _
     have HBD := Hd (show Below W1.heap.size W1 Wx.drew from (to_ HBE.out HBX.out).drew)
     have HBKD := Hd (show Blk Wx.drew wr.heap.size 237 #[.int .i64 x0, .int .i64 x1] from hbk)
     clear hbk hbel
     have HH := Hd (show (Wx.drew.cell? ⟨wr.heap.size, 0, none⟩ = some (.int .i64 x0) ∧ Wx.drew.cell? ⟨wr.heap.size, 1, none⟩ = some (.int .i64 x1)) ∧ Wx.drew.cell? ⟨w.heap.size, 6, none⟩ = some (.slice (some ad) nL cL) ∧ Wx.drew.cell? ⟨w.heap.size, 7, none⟩ = some (.slice AC nC cC) from ⟨⟨HBKD.out.cell 0, HBKD.out.cell 1⟩, (HX.out _ HBD.out).cell 6, (HX.out _ HBD.out).cell 7⟩)
     by_cases h1 : x0 = 0
     ·subst h1
      by_cases h3 : nC = 0
      ·have g3 : decide (nC = 0) = true := decide_eq_true h3
       have h3' : ¬ (0 : Int) < (nC : Int) := by omega
       clear h3
       have HF := Hd (show okL (nC : Int) ls = false from by rw [HK.out]; rw [decide_eq_false h3']; simp)
       have HRV := Hd (show rr = 9 from by rw [← HRR.out, HF.out]; rfl)
       go_wp2_with fail
       refine wp_region_noPanic ?_
       refine wp_region_held_drew (S := fun W => ((W.cell? ⟨wr.heap.size, 0, none⟩ = some (.int .i64 0) ∧ W.cell? ⟨wr.heap.size, 1, none⟩ = some (.int .i64 x1)) ∧ W.cell? ⟨w.heap.size, 6, none⟩ = some (.slice (some ad) nL cL) ∧ W.cell? ⟨w.heap.size, 7, none⟩ = some (.slice AC nC cC))) (by kernel_rfl) (HH.out) (fun hHeld => ?_)
       refine tk8Z 0 1 2 3 4 5 6 7 hHeld ?_
       refine tk8Z 8 9 10 11 12 13 14 15 hHeld ?_
       refine tk5Z 16 17 18 19 20 hHeld ?_
       refine tf8Z 21 22 23 24 25 26 27 28 hHeld ?_
       refine tf6Z 29 30 31 32 33 34 hHeld ?_
       refine tk2Z 35 36 hHeld ?_
       refine tf3Z 37 38 39 hHeld ?_
       refine tk2Z 40 41 hHeld ?_
       refine tf3Z 42 43 44 hHeld ?_
       refine tk1Z 45 hHeld ?_
       refine wpAnyH_done (by kernel_rfl) ?_ _
       refine NoPanic.normal ?_
       go_wp2_with fail
       go_ret
       exact ⟨ret_int (by rw [HRV.out]), to_ HB0.out HBD.out⟩
      ·have g3 : decide (nC = 0) = false := decide_eq_false h3
       have h3' : (0 : Int) < (nC : Int) := by omega
       clear h3
       by_cases h5 : x1 < 0
       ·have g5 : decide (x1 < 0) = true := decide_eq_true h5
        have hl5 : lnB9 (0, x1) = true := by unfold lnB9 frB; rw [decide_eq_false (show ¬ (0 : Int) ≤ x1 by omega)]; rfl
        have HF := Hd (show okL (nC : Int) ls = false from by rw [HK.out]; rw [hl5]; simp)
        have HRV := Hd (show rr = 9 from by rw [← HRR.out, HF.out]; rfl)
        go_wp2_with fail
        refine wp_region_noPanic ?_
        refine wp_region_held_drew (S := fun W => ((W.cell? ⟨wr.heap.size, 0, none⟩ = some (.int .i64 0) ∧ W.cell? ⟨wr.heap.size, 1, none⟩ = some (.int .i64 x1)) ∧ W.cell? ⟨w.heap.size, 6, none⟩ = some (.slice (some ad) nL cL) ∧ W.cell? ⟨w.heap.size, 7, none⟩ = some (.slice AC nC cC))) (by kernel_rfl) (HH.out) (fun hHeld => ?_)
        refine tk8Z 0 1 2 3 4 5 6 7 hHeld ?_
        refine tk8Z 8 9 10 11 12 13 14 15 hHeld ?_
        refine tk8Z 16 17 18 19 20 21 22 23 hHeld ?_
        refine tf8Z 24 25 26 27 28 29 30 31 hHeld ?_
        refine tf2Z 32 33 hHeld ?_
        refine tk8Z 34 35 36 37 38 39 40 41 hHeld ?_
        refine tf3Z 42 43 44 hHeld ?_
        refine tk1Z 45 hHeld ?_
        refine wpAnyH_done (by kernel_rfl) ?_ _
        refine NoPanic.normal ?_
        go_wp2_with fail
        go_ret
        exact ⟨ret_int (by rw [HRV.out]), to_ HB0.out HBD.out⟩
       ·have g5 : decide (x1 < 0) = false := decide_eq_false h5
        by_cases h6 : (65535 : Int) < x1
        ·have g6 : decide ((65535 : Int) < x1) = true := decide_eq_true h6
         have hl6 : lnB9 (0, x1) = true := by unfold lnB9 frB; rw [decide_eq_false (show ¬ x1 ≤ (65535 : Int) by omega)]; simp
         have HF := Hd (show okL (nC : Int) ls = false from by rw [HK.out]; rw [hl6]; simp)
         have HRV := Hd (show rr = 9 from by rw [← HRR.out, HF.out]; rfl)
         go_wp2_with fail
         refine wp_region_noPanic ?_
         refine wp_region_held_drew (S := fun W => ((W.cell? ⟨wr.heap.size, 0, none⟩ = some (.int .i64 0) ∧ W.cell? ⟨wr.heap.size, 1, none⟩ = some (.int .i64 x1)) ∧ W.cell? ⟨w.heap.size, 6, none⟩ = some (.slice (some ad) nL cL) ∧ W.cell? ⟨w.heap.size, 7, none⟩ = some (.slice AC nC cC))) (by kernel_rfl) (HH.out) (fun hHeld => ?_)
         refine tk8Z 0 1 2 3 4 5 6 7 hHeld ?_
         refine tk8Z 8 9 10 11 12 13 14 15 hHeld ?_
         refine tk8Z 16 17 18 19 20 21 22 23 hHeld ?_
         refine tf8Z 24 25 26 27 28 29 30 31 hHeld ?_
         refine tf2Z 32 33 hHeld ?_
         refine tk8Z 34 35 36 37 38 39 40 41 hHeld ?_
         refine tk4Z 42 43 44 45 hHeld ?_
         refine wpAnyH_done (by kernel_rfl) ?_ _
         refine NoPanic.normal ?_
         go_wp2_with fail
         go_ret
         exact ⟨ret_int (by rw [HRV.out]), to_ HB0.out HBD.out⟩
        ·have g6 : decide ((65535 : Int) < x1) = false := decide_eq_false h6
         have hl7 : lnB9 (0, x1) = false := by unfold lnB9 frB; rw [decide_eq_true (show (0 : Int) ≤ x1 by omega), decide_eq_true (show x1 ≤ (65535 : Int) by omega)]; rfl
         have HF := Hd (show okL (nC : Int) ls = okR (nC : Int) 0 (ls.drop (0 + 1)) from by rw [HK.out]; rw [hl7, decide_eq_true h3']; simp)
         go_wp2_with fail
         refine wp_region_noPanic ?_
         refine wp_region_held_drew (S := fun W => ((W.cell? ⟨wr.heap.size, 0, none⟩ = some (.int .i64 0) ∧ W.cell? ⟨wr.heap.size, 1, none⟩ = some (.int .i64 x1)) ∧ W.cell? ⟨w.heap.size, 6, none⟩ = some (.slice (some ad) nL cL) ∧ W.cell? ⟨w.heap.size, 7, none⟩ = some (.slice AC nC cC))) (by kernel_rfl) (HH.out) (fun hHeld => ?_)
         refine tk8Z 0 1 2 3 4 5 6 7 hHeld ?_
         refine tk8Z 8 9 10 11 12 13 14 15 hHeld ?_
         refine tk8Z 16 17 18 19 20 21 22 23 hHeld ?_
         refine tf8Z 24 25 26 27 28 29 30 31 hHeld ?_
         refine tf2Z 32 33 hHeld ?_
         refine tk8Z 34 35 36 37 38 39 40 41 hHeld ?_
         refine tk4Z 42 43 44 45 hHeld ?_
         refine wpAnyH_done (by kernel_rfl) ?_ _
         refine NoPanic.normal ?_
         go_wp2_with fail
         go_roundw
         case rel => exact ⟨0 + 1, by omega, by go_num, Hd (fun j hj => by
          have hj2 : j = 0 := by omega
          subst hj2
          rw [HX2.out]
          exact ⟨HF.out, by dsimp only; omega⟩), HBD.out⟩
         case measure => simp [intOf]; omega
     ·have g1 : (x0 == 0) = false := by simpa using h1
      have g1' : (x0 != 0) = true := by simpa using h1
      have HF := Hd (show okL (nC : Int) ls = false from by rw [HK.out]; rw [decide_eq_false h1]; rfl)
      have HRV := Hd (show rr = 9 from by rw [← HRR.out, HF.out]; rfl)
      go_wp2_with fail
      refine wp_region_noPanic ?_
      refine wp_region_held_drew (S := fun W => ((W.cell? ⟨wr.heap.size, 0, none⟩ = some (.int .i64 x0) ∧ W.cell? ⟨wr.heap.size, 1, none⟩ = some (.int .i64 x1)) ∧ W.cell? ⟨w.heap.size, 6, none⟩ = some (.slice (some ad) nL cL) ∧ W.cell? ⟨w.heap.size, 7, none⟩ = some (.slice AC nC cC))) (by kernel_rfl) (HH.out) (fun hHeld => ?_)
      refine tk8Z 0 1 2 3 4 5 6 7 hHeld ?_
      refine tf3Z 8 9 10 hHeld ?_
      refine tk2Z 11 12 hHeld ?_
      refine tf6Z 13 14 15 16 17 18 hHeld ?_
      refine tk2Z 19 20 hHeld ?_
      refine tf8Z 21 22 23 24 25 26 27 28 hHeld ?_
      refine tf6Z 29 30 31 32 33 34 hHeld ?_
      refine tk2Z 35 36 hHeld ?_
      refine tf3Z 37 38 39 hHeld ?_
      refine tk2Z 40 41 hHeld ?_
      refine tf3Z 42 43 44 hHeld ?_
      refine tk1Z 45 hHeld ?_
      refine wpAnyH_done (by kernel_rfl) ?_ _
      refine NoPanic.normal ?_
      go_wp2_with fail
      go_ret
      exact ⟨ret_int (by rw [HRV.out]), to_ HB0.out HBD.out⟩
    | succ k =>
     obtain ⟨ad, rfl, _, a0, a1⟩ := HCL.out wr hbel (k + 1) hlt
     obtain ⟨hok, hz0⟩ := HO.out k rfl
     have hpv := HCL.out
     have HK := Hd (hok.trans (okR_at (m := (nC : Int)) (HS.out (k + 1) hlt)))
     obtain ⟨x, hx⟩ : ∃ x, lnAt ls (k + 1) = x := ⟨_, rfl⟩
     have HX2 := Hd hx
     rw [hx] at HK a0 a1
     clear hx hok
     obtain ⟨x0, x1⟩ := x
     dsimp only at HK HX2 a0 a1
     obtain ⟨Wx, hWx⟩ : ∃ Wx, wr.alloc (.cells #[.int .i64 x0, .int .i64 x1] 237) = Wx := ⟨_, rfl⟩
     have HBX := Hd (show Below wr.heap.size wr Wx from by rw [← hWx]; exact alloc_ _ _)
     have hbk : Blk Wx wr.heap.size 237 #[.int .i64 x0, .int .i64 x1] := by rw [← hWx]; exact Blk.new wr _ _
     have HBD := Hd (show Below W1.heap.size W1 Wx.drew from (to_ HBE.out HBX.out).drew)
     have HBKD := Hd (show Blk Wx.drew wr.heap.size 237 #[.int .i64 x0, .int .i64 x1] from hbk)
     clear hbk hbel
     obtain ⟨ad2, e2, _, p0, _⟩ := HCL.out Wx.drew HBD.out k (by omega)
     injection e2 with e2
     subst e2
     obtain ⟨z, hz⟩ : ∃ z, (lnAt ls k).1 = z := ⟨_, rfl⟩
     rw [hz] at HK p0 hz0
     have HZ0 := Hd hz0
     have HH := Hd (show ((Wx.drew.cell? ⟨wr.heap.size, 0, none⟩ = some (.int .i64 x0) ∧ Wx.drew.cell? ⟨wr.heap.size, 1, none⟩ = some (.int .i64 x1)) ∧ Wx.drew.cell? ⟨w.heap.size, 6, none⟩ = some (.slice (some ad) nL cL) ∧ Wx.drew.cell? ⟨w.heap.size, 7, none⟩ = some (.slice AC nC cC)) ∧ Wx.drew.cell? (ad.add (k * 2)) = some (.int .i64 z) from ⟨⟨⟨HBKD.out.cell 0, HBKD.out.cell 1⟩, (HX.out _ HBD.out).cell 6, (HX.out _ HBD.out).cell 7⟩, p0⟩)
     clear hz p0 hz0 hpv
     have q1 : (((k + 1 : Nat) : Int) == 0) = false := by simp; omega
     have q2 : decide ((0 : Int) < ((k + 1 : Nat) : Int)) = true := decide_eq_true (by omega)
     have q1b : ((((k : Nat) : Int) + 1) == 0) = false := by simp; omega
     have q2b : decide ((0 : Int) < ((k : Nat) : Int) + 1) = true := decide_eq_true (by omega)
     have q3 : IntKind.i64.wrap (k : Int) = (k : Int) := by
      have e1 : (k : Int) < 9223372036854775808 := by omega
      have e2 : -9223372036854775808 ≤ (k : Int) := by omega
      exact IntWalk.i64_in _ (by omega)
     have q4 : (0 : Int) ≤ (k : Int) := by omega
     have q5 : (k : Int) < (nL : Int) := by omega
     by_cases h2 : x0 < 0
     ·have g2 : decide (x0 < 0) = true := decide_eq_true h2
      have HF := Hd (show okL (nC : Int) ls = false from by rw [HK.out]; rw [decide_eq_false (show ¬ z < x0 by have := HZ0.out; omega)]; rfl)
      have HRV := Hd (show rr = 9 from by rw [← HRR.out, HF.out]; rfl)
      go_wp2_with fail
      refine wp_region_noPanic ?_
      refine wp_region_held_drew (S := fun W => ((W.cell? ⟨wr.heap.size, 0, none⟩ = some (.int .i64 x0) ∧ W.cell? ⟨wr.heap.size, 1, none⟩ = some (.int .i64 x1)) ∧ W.cell? ⟨w.heap.size, 6, none⟩ = some (.slice (some ad) nL cL) ∧ W.cell? ⟨w.heap.size, 7, none⟩ = some (.slice AC nC cC)) ∧ W.cell? (ad.add (k * 2)) = some (.int .i64 z)) (by kernel_rfl) (HH.out) (fun hHeld => ?_)
      refine tk3Z 0 1 2 hHeld ?_
      refine tf3Z 3 4 5 hHeld ?_
      refine tk7Z 6 7 8 9 10 11 12 hHeld ?_
      refine tf6Z 13 14 15 16 17 18 hHeld ?_
      refine tk2Z 19 20 hHeld ?_
      refine tf8Z 21 22 23 24 25 26 27 28 hHeld ?_
      refine tf6Z 29 30 31 32 33 34 hHeld ?_
      refine tk2Z 35 36 hHeld ?_
      refine tf3Z 37 38 39 hHeld ?_
      refine tk2Z 40 41 hHeld ?_
      refine tf3Z 42 43 44 hHeld ?_
      refine tk1Z 45 hHeld ?_
      refine wpAnyH_done (by kernel_rfl) ?_ _
      refine NoPanic.normal ?_
      go_wp2_with fail
      go_ret
      exact ⟨ret_int (by rw [HRV.out]), to_ HB0.out HBD.out⟩
     ·have g2 : decide (x0 < 0) = false := decide_eq_false h2
      by_cases h3 : (nC : Int) ≤ x0
      ·have g3 : decide ((nC : Int) ≤ x0) = true := decide_eq_true h3
       have HF := Hd (show okL (nC : Int) ls = false from by rw [HK.out]; rw [decide_eq_false (show ¬ x0 < (nC : Int) by omega)]; simp)
       have HRV := Hd (show rr = 9 from by rw [← HRR.out, HF.out]; rfl)
       go_wp2_with fail
       refine wp_region_noPanic ?_
       refine wp_region_held_drew (S := fun W => ((W.cell? ⟨wr.heap.size, 0, none⟩ = some (.int .i64 x0) ∧ W.cell? ⟨wr.heap.size, 1, none⟩ = some (.int .i64 x1)) ∧ W.cell? ⟨w.heap.size, 6, none⟩ = some (.slice (some ad) nL cL) ∧ W.cell? ⟨w.heap.size, 7, none⟩ = some (.slice AC nC cC)) ∧ W.cell? (ad.add (k * 2)) = some (.int .i64 z)) (by kernel_rfl) (HH.out) (fun hHeld => ?_)
       refine tk3Z 0 1 2 hHeld ?_
       refine tf3Z 3 4 5 hHeld ?_
       refine tk8Z 6 7 8 9 10 11 12 13 hHeld ?_
       refine tk7Z 14 15 16 17 18 19 20 hHeld ?_
       refine tf8Z 21 22 23 24 25 26 27 28 hHeld ?_
       refine tf6Z 29 30 31 32 33 34 hHeld ?_
       refine tk2Z 35 36 hHeld ?_
       refine tf3Z 37 38 39 hHeld ?_
       refine tk2Z 40 41 hHeld ?_
       refine tf3Z 42 43 44 hHeld ?_
       refine tk1Z 45 hHeld ?_
       refine wpAnyH_done (by kernel_rfl) ?_ _
       refine NoPanic.normal ?_
       go_wp2_with fail
       go_ret
       exact ⟨ret_int (by rw [HRV.out]), to_ HB0.out HBD.out⟩
      ·have g3 : decide ((nC : Int) ≤ x0) = false := decide_eq_false h3
       by_cases h4 : x0 ≤ z
       ·have g4 : decide (x0 ≤ z) = true := decide_eq_true h4
        have HF := Hd (show okL (nC : Int) ls = false from by rw [HK.out]; rw [decide_eq_false (show ¬ z < x0 by omega)]; rfl)
        have HRV := Hd (show rr = 9 from by rw [← HRR.out, HF.out]; rfl)
        go_wp2_with fail
        refine wp_region_noPanic ?_
        refine wp_region_held_drew (S := fun W => ((W.cell? ⟨wr.heap.size, 0, none⟩ = some (.int .i64 x0) ∧ W.cell? ⟨wr.heap.size, 1, none⟩ = some (.int .i64 x1)) ∧ W.cell? ⟨w.heap.size, 6, none⟩ = some (.slice (some ad) nL cL) ∧ W.cell? ⟨w.heap.size, 7, none⟩ = some (.slice AC nC cC)) ∧ W.cell? (ad.add (k * 2)) = some (.int .i64 z)) (by kernel_rfl) (HH.out) (fun hHeld => ?_)
        refine tk3Z 0 1 2 hHeld ?_
        refine tf3Z 3 4 5 hHeld ?_
        refine tk8Z 6 7 8 9 10 11 12 13 hHeld ?_
        refine tk8Z 14 15 16 17 18 19 20 21 hHeld ?_
        refine tk8Z 22 23 24 25 26 27 28 29 hHeld ?_
        refine tk7Z 30 31 32 33 34 35 36 hHeld ?_
        refine tf3Z 37 38 39 hHeld ?_
        refine tk2Z 40 41 hHeld ?_
        refine tf3Z 42 43 44 hHeld ?_
        refine tk1Z 45 hHeld ?_
        refine wpAnyH_done (by kernel_rfl) ?_ _
        refine NoPanic.normal ?_
        go_wp2_with fail
        go_ret
        exact ⟨ret_int (by rw [HRV.out]), to_ HB0.out HBD.out⟩
       ·have g4 : decide (x0 ≤ z) = false := decide_eq_false h4
        by_cases h5 : x1 < 0
        ·have g5 : decide (x1 < 0) = true := decide_eq_true h5
         have hl5 : lnB9 (x0, x1) = true := by unfold lnB9 frB; rw [decide_eq_false (show ¬ (0 : Int) ≤ x1 by omega)]; rfl
         have HF := Hd (show okL (nC : Int) ls = false from by rw [HK.out]; rw [hl5]; simp)
         have HRV := Hd (show rr = 9 from by rw [← HRR.out, HF.out]; rfl)
         go_wp2_with fail
         refine wp_region_noPanic ?_
         refine wp_region_held_drew (S := fun W => ((W.cell? ⟨wr.heap.size, 0, none⟩ = some (.int .i64 x0) ∧ W.cell? ⟨wr.heap.size, 1, none⟩ = some (.int .i64 x1)) ∧ W.cell? ⟨w.heap.size, 6, none⟩ = some (.slice (some ad) nL cL) ∧ W.cell? ⟨w.heap.size, 7, none⟩ = some (.slice AC nC cC)) ∧ W.cell? (ad.add (k * 2)) = some (.int .i64 z)) (by kernel_rfl) (HH.out) (fun hHeld => ?_)
         refine tk3Z 0 1 2 hHeld ?_
         refine tf3Z 3 4 5 hHeld ?_
         refine tk8Z 6 7 8 9 10 11 12 13 hHeld ?_
         refine tk8Z 14 15 16 17 18 19 20 21 hHeld ?_
         refine tk8Z 22 23 24 25 26 27 28 29 hHeld ?_
         refine tk8Z 30 31 32 33 34 35 36 37 hHeld ?_
         refine tk4Z 38 39 40 41 hHeld ?_
         refine tf3Z 42 43 44 hHeld ?_
         refine tk1Z 45 hHeld ?_
         refine wpAnyH_done (by kernel_rfl) ?_ _
         refine NoPanic.normal ?_
         go_wp2_with fail
         go_ret
         exact ⟨ret_int (by rw [HRV.out]), to_ HB0.out HBD.out⟩
        ·have g5 : decide (x1 < 0) = false := decide_eq_false h5
         by_cases h6 : (65535 : Int) < x1
         ·have g6 : decide ((65535 : Int) < x1) = true := decide_eq_true h6
          have hl6 : lnB9 (x0, x1) = true := by unfold lnB9 frB; rw [decide_eq_false (show ¬ x1 ≤ (65535 : Int) by omega)]; simp
          have HF := Hd (show okL (nC : Int) ls = false from by rw [HK.out]; rw [hl6]; simp)
          have HRV := Hd (show rr = 9 from by rw [← HRR.out, HF.out]; rfl)
          go_wp2_with fail
          refine wp_region_noPanic ?_
          refine wp_region_held_drew (S := fun W => ((W.cell? ⟨wr.heap.size, 0, none⟩ = some (.int .i64 x0) ∧ W.cell? ⟨wr.heap.size, 1, none⟩ = some (.int .i64 x1)) ∧ W.cell? ⟨w.heap.size, 6, none⟩ = some (.slice (some ad) nL cL) ∧ W.cell? ⟨w.heap.size, 7, none⟩ = some (.slice AC nC cC)) ∧ W.cell? (ad.add (k * 2)) = some (.int .i64 z)) (by kernel_rfl) (HH.out) (fun hHeld => ?_)
          refine tk3Z 0 1 2 hHeld ?_
          refine tf3Z 3 4 5 hHeld ?_
          refine tk8Z 6 7 8 9 10 11 12 13 hHeld ?_
          refine tk8Z 14 15 16 17 18 19 20 21 hHeld ?_
          refine tk8Z 22 23 24 25 26 27 28 29 hHeld ?_
          refine tk8Z 30 31 32 33 34 35 36 37 hHeld ?_
          refine tk8Z 38 39 40 41 42 43 44 45 hHeld ?_
          refine wpAnyH_done (by kernel_rfl) ?_ _
          refine NoPanic.normal ?_
          go_wp2_with fail
          go_ret
          exact ⟨ret_int (by rw [HRV.out]), to_ HB0.out HBD.out⟩
         ·have g6 : decide ((65535 : Int) < x1) = false := decide_eq_false h6
          have hl7 : lnB9 (x0, x1) = false := by unfold lnB9 frB; rw [decide_eq_true (show (0 : Int) ≤ x1 by omega), decide_eq_true (show x1 ≤ (65535 : Int) by omega)]; rfl
          have HF := Hd (show okL (nC : Int) ls = okR (nC : Int) x0 (ls.drop ((k + 1) + 1)) from by rw [HK.out]; rw [hl7, decide_eq_true (show z < x0 by omega), decide_eq_true (show x0 < (nC : Int) by omega)]; simp)
          go_wp2_with fail
          refine wp_region_noPanic ?_
          refine wp_region_held_drew (S := fun W => ((W.cell? ⟨wr.heap.size, 0, none⟩ = some (.int .i64 x0) ∧ W.cell? ⟨wr.heap.size, 1, none⟩ = some (.int .i64 x1)) ∧ W.cell? ⟨w.heap.size, 6, none⟩ = some (.slice (some ad) nL cL) ∧ W.cell? ⟨w.heap.size, 7, none⟩ = some (.slice AC nC cC)) ∧ W.cell? (ad.add (k * 2)) = some (.int .i64 z)) (by kernel_rfl) (HH.out) (fun hHeld => ?_)
          refine tk3Z 0 1 2 hHeld ?_
          refine tf3Z 3 4 5 hHeld ?_
          refine tk8Z 6 7 8 9 10 11 12 13 hHeld ?_
          refine tk8Z 14 15 16 17 18 19 20 21 hHeld ?_
          refine tk8Z 22 23 24 25 26 27 28 29 hHeld ?_
          refine tk8Z 30 31 32 33 34 35 36 37 hHeld ?_
          refine tk8Z 38 39 40 41 42 43 44 45 hHeld ?_
          refine wpAnyH_done (by kernel_rfl) ?_ _
          refine NoPanic.normal ?_
          go_wp2_with fail
          go_roundw
          case rel => exact ⟨k + 1 + 1, by omega, by go_num, Hd (fun j hj => by
           have hj2 : j = k + 1 := by omega
           subst hj2
           rw [HX2.out]
           exact ⟨HF.out, by dsimp only; omega⟩), HBD.out⟩
          case measure => simp [intOf]; omega
   ·obtain rfl : k = nL := by omega
    have HV := Hd (show okL (nC : Int) ls = true from by
     cases k with
     | zero => rw [List.eq_nil_of_length_eq_zero HLN.out]; rfl
     | succ j => rw [(HO.out j rfl).1, List.drop_eq_nil_of_le (by have := HLN.out; omega)]; rfl)
    have HRV := Hd (show rr = 0 from by rw [← HRR.out, HV.out]; rfl)
    clear hbel
    go_wp2_with fail
    go_ret
    exact ⟨ret_int (by rw [HRV.out]), to_ HB0.out HBE.out⟩
def okF (m z : Int) (l : List Rl) : Bool := risB m z (l.map fun y => y.1) && !(l.any rfB9)
theorem okF_at {m z : Int} {l : List Rl} {k : Nat} {x : Rl} (h : l[k]? = some x) : okF m z (l.drop k) = ((decide (z < x.1) && decide (x.1 < m)) && (!rfB9 x && okF m x.1 (l.drop (k + 1)))) := by
 have hk := (List.getElem?_eq_some_iff.1 h).1
 have hx := (List.getElem?_eq_some_iff.1 h).2
 unfold okF
 rw [List.drop_eq_getElem_cons hk, hx, List.map_cons, List.any_cons, risB]
 cases decide (z < x.1) <;> cases decide (x.1 < m) <;> cases rfB9 x <;> simp
def paV (x : Fn) : Int := if frB x.pd 4096 = true then 0 else 9
theorem chF_doc (x : Fn) : chF x = firN [slV x, paV x, cdV x, rgV x, lnV9 x, rfV9 x] := by
 have h : frV x = if slV x ≠ 0 then slV x else paV x := by
  unfold frV slV paV
  have h0 : 0 ≤ Si.parV x.k := by unfold Si.parV; split <;> omega
  obtain ⟨p, hp⟩ : ∃ p : Nat, Si.parV x.k = (p : Int) := ⟨(Si.parV x.k).toNat, by omega⟩
  have hk : kdL (Si.parV x.k) 0 x.ks = (x.ks.any nkB || (x.ks.take (Si.parV x.k).toNat).any nnB) := by
   rw [hp, kdL_any, Int.toNat_natCast]; rfl
  rw [hk]
  split
  ·simp
  ·split
   ·simp
   ·split
    ·simp
    ·split
     ·simp
     ·simp
 unfold chF
 simp only [firN, h]
 by_cases h1 : slV x = 0
 ·simp [h1]
 ·simp [h1]
set_option maxRecDepth 100000 in
set_option maxHeartbeats 8000000 in
theorem rchkF_any (w : World) (AK AL AC AR : Option Addr) (nK cK nL cL nC cC nR cR : Nat) (x : Fn) (hF : FnW w AK nK cK AL nL cL AC nC cC AR nR cR x) (hnn : nK ≤ 1000000 ∧ nL ≤ 1000000 ∧ nC ≤ 1000000 ∧ nR ≤ 1000000) (hB : (∀ z ∈ x.ks, -9223372036854775808 ≤ z ∧ z ≤ 9223372036854775807) ∧ ∀ k, k < x.cs.length → -9223372036854775808 ≤ (inAt x.cs k).1 ∧ (inAt x.cs k).1 ≤ 9223372036854775807) :
  Calls Tryz.prog 157 #[.agg #[.int .i64 x.k, .slice AK nK cK, .int .i64 x.pd, .bool x.ns, .int .i64 x.f, .int .i64 x.t, .slice AL nL cL, .slice AC nC cC, .slice AR nR cR]] w (CAns w (chF x)) := by
 rw [chF_doc]
 obtain ⟨k0, ks, pd, ns, f0, t0, ls, cs, rs⟩ := x
 have hF0 := hF
 obtain ⟨hk, hkl, hl, hc, hr⟩ := hF
 dsimp only at hk hkl hl hc hr hB ⊢
 have hll : ls.length = nL := hl.1
 have hcl : cs.length = nC := hc.1
 have hrl : rs.length = nR := hr.1
 obtain ⟨W1, hW1⟩ : ∃ W1, w.alloc (.cells #[.int .i64 k0, .slice AK nK cK, .int .i64 pd, .bool ns, .int .i64 f0, .int .i64 t0, .slice AL nL cL, .slice AC nC cC, .slice AR nR cR] 49) = W1 := ⟨_, rfl⟩
 have hsz1 : w.heap.size < W1.heap.size := by rw [← hW1]; simp
 have HB0 := Hd (show Below w.heap.size w W1 by rw [← hW1]; exact alloc_ _ _)
 have HX := Hd (show ∀ W, Below W1.heap.size W1 W → Blk W w.heap.size 49 #[.int .i64 k0, .slice AK nK cK, .int .i64 pd, .bool ns, .int .i64 f0, .int .i64 t0, .slice AL nL cL, .slice AC nC cC, .slice AR nR cR] from fun W hb => (hb.block _ hsz1).trans (by rw [← hW1]; exact Blk.new w _ _))
 obtain ⟨c0, c1, c2, c3, c4, c5, c6, c7, c8⟩ := blk9 (HX.out W1 (Below.refl _ _))
 have HSL := Hd (rslots_any W1 AK AL AC AR nK cK nL cL nC cC nR cR ⟨k0, ks, pd, ns, f0, t0, ls, cs, rs⟩ (hF0.on HB0.out) hnn hB.1)
 have HCO := Hd (fun W (hb : Below W1.heap.size W1 W) => rcode_any W AK AL AC AR nK cK nL cL nC cC nR cR ⟨k0, ks, pd, ns, f0, t0, ls, cs, rs⟩ (hF0.on (to_ HB0.out hb)) hnn hB.2)
 have HLI := Hd (fun W (hb : Below W1.heap.size W1 W) => rlines_any W AK AL AC AR nK cK nL cL nC cC nR cR ⟨k0, ks, pd, ns, f0, t0, ls, cs, rs⟩ (hF0.on (to_ HB0.out hb)) hnn)
 have HRC := Hd (fun W (hb : Below W1.heap.size W1 W) i (hi : i < nR) => (hr.on (to_ HB0.out hb)).at_ hi)
 have HS := Hd (show ∀ k, k < nR → rs[k]? = some (rlAt rs k) from fun k hk => rlAt_some (by omega))
 have HLN := Hd hrl
 have hb4 := hnn.2.2.2
 have hrg : rgV ⟨k0, ks, pd, ns, f0, t0, ls, cs, rs⟩ = if s4B f0 t0 nC = true then 0 else 9 := by unfold rgV; dsimp only; rw [hcl]
 have hpa : paV ⟨k0, ks, pd, ns, f0, t0, ls, cs, rs⟩ = if frB pd 4096 = true then 0 else 9 := rfl
 have hrf : rfV9 ⟨k0, ks, pd, ns, f0, t0, ls, cs, rs⟩ = if okF (nC : Int) (-1) rs = true then 0 else 11 := by unfold rfV9 okF; dsimp only; rw [hcl]
 rw [hrg, hpa, hrf]
 generalize slV ⟨k0, ks, pd, ns, f0, t0, ls, cs, rs⟩ = rS at HSL ⊢
 generalize cdV ⟨k0, ks, pd, ns, f0, t0, ls, cs, rs⟩ = rC at HCO ⊢
 generalize lnV9 ⟨k0, ks, pd, ns, f0, t0, ls, cs, rs⟩ = rL at HLI ⊢
 dsimp only at HSL HCO HLI
 clear hk hkl hl hc hr hll hcl hrl hsz1 hB hF0 hrg hpa hrf
 by_cases hs : rS = 0
 ·subst hs
  rw [show firN [0, (if frB pd 4096 = true then (0 : Int) else 9), rC, (if s4B f0 t0 nC = true then (0 : Int) else 9), rL, (if okF (nC : Int) (-1) rs = true then (0 : Int) else 11)] = firN [(if frB pd 4096 = true then (0 : Int) else 9), rC, (if s4B f0 t0 nC = true then (0 : Int) else 9), rL, (if okF (nC : Int) (-1) rs = true then (0 : Int) else 11)] from by rw [firN, if_neg (by simp)]]
  by_cases p1 : pd < 0
  ·rw [show frB pd 4096 = false from by unfold frB; rw [decide_eq_false (show ¬ 0 ≤ pd by omega)]; rfl, if_neg Bool.false_ne_true, firN, if_pos (by decide)]
   go_enter Tryz.func157, Tryz.ntmps157
   go_wp2_with (first
    | (go_at_call 179; refine HSL.out.mono ?_; rintro e w7 ⟨rfl, b⟩; have HB7 := Hd b; clear b c0 c1 c2 c3 c4 c5 c6 c7 c8; obtain ⟨c0, c1, c2, c3, c4, c5, c6, c7, c8⟩ := blk9 (HX.out w7 HB7.out)))
   go_ret
   exact ⟨rfl, to_ HB0.out HB7.out⟩
  ·by_cases p2 : (4096 : Int) < pd
   ·rw [show frB pd 4096 = false from by unfold frB; rw [decide_eq_false (show ¬ pd ≤ 4096 by omega)]; simp, if_neg Bool.false_ne_true, firN, if_pos (by decide)]
    go_enter Tryz.func157, Tryz.ntmps157
    go_wp2_with (first
     | (go_at_call 179; refine HSL.out.mono ?_; rintro e w7 ⟨rfl, b⟩; have HB7 := Hd b; clear b c0 c1 c2 c3 c4 c5 c6 c7 c8; obtain ⟨c0, c1, c2, c3, c4, c5, c6, c7, c8⟩ := blk9 (HX.out w7 HB7.out)))
    go_ret
    exact ⟨rfl, to_ HB0.out HB7.out⟩
   ·rw [show frB pd 4096 = true from by unfold frB; rw [decide_eq_true (show 0 ≤ pd by omega), decide_eq_true (show pd ≤ 4096 by omega)]; rfl, if_pos rfl, firN, if_neg (by simp), firN]
    by_cases hc : rC = 0
    ·subst hc
     rw [if_neg (by simp)]
     by_cases q1 : f0 < 0
     ·rw [show s4B f0 t0 nC = false from by unfold s4B; rw [decide_eq_false (show ¬ 0 ≤ f0 by omega)]; simp, if_neg Bool.false_ne_true, firN, if_pos (by decide)]
      go_enter Tryz.func157, Tryz.ntmps157
      go_wp2_with (first
       | (go_at_call 179; refine HSL.out.mono ?_; rintro e w7 ⟨rfl, b⟩; have HB7 := Hd b; clear b c0 c1 c2 c3 c4 c5 c6 c7 c8; obtain ⟨c0, c1, c2, c3, c4, c5, c6, c7, c8⟩ := blk9 (HX.out w7 HB7.out))
       | (go_at_call 180; refine (HCO.out _ HB7.out).mono ?_; rintro e w8 ⟨rfl, b⟩; have HB8 := Hd (to_ HB7.out b); clear b c0 c1 c2 c3 c4 c5 c6 c7 c8; obtain ⟨c0, c1, c2, c3, c4, c5, c6, c7, c8⟩ := blk9 (HX.out w8 HB8.out)))
      go_ret
      exact ⟨rfl, to_ HB0.out HB8.out⟩
     ·by_cases q2 : t0 < f0
      ·rw [show s4B f0 t0 nC = false from by unfold s4B; rw [decide_eq_false (show ¬ f0 ≤ t0 by omega)]; simp, if_neg Bool.false_ne_true, firN, if_pos (by decide)]
       go_enter Tryz.func157, Tryz.ntmps157
       go_wp2_with (first
        | (go_at_call 179; refine HSL.out.mono ?_; rintro e w7 ⟨rfl, b⟩; have HB7 := Hd b; clear b c0 c1 c2 c3 c4 c5 c6 c7 c8; obtain ⟨c0, c1, c2, c3, c4, c5, c6, c7, c8⟩ := blk9 (HX.out w7 HB7.out))
        | (go_at_call 180; refine (HCO.out _ HB7.out).mono ?_; rintro e w8 ⟨rfl, b⟩; have HB8 := Hd (to_ HB7.out b); clear b c0 c1 c2 c3 c4 c5 c6 c7 c8; obtain ⟨c0, c1, c2, c3, c4, c5, c6, c7, c8⟩ := blk9 (HX.out w8 HB8.out)))
       go_ret
       exact ⟨rfl, to_ HB0.out HB8.out⟩
      ·by_cases q3 : (nC : Int) < t0
       ·rw [show s4B f0 t0 nC = false from by unfold s4B; rw [decide_eq_false (show ¬ t0 ≤ (nC : Int) by omega)]; simp, if_neg Bool.false_ne_true, firN, if_pos (by decide)]
        go_enter Tryz.func157, Tryz.ntmps157
        go_wp2_with (first
         | (go_at_call 179; refine HSL.out.mono ?_; rintro e w7 ⟨rfl, b⟩; have HB7 := Hd b; clear b c0 c1 c2 c3 c4 c5 c6 c7 c8; obtain ⟨c0, c1, c2, c3, c4, c5, c6, c7, c8⟩ := blk9 (HX.out w7 HB7.out))
         | (go_at_call 180; refine (HCO.out _ HB7.out).mono ?_; rintro e w8 ⟨rfl, b⟩; have HB8 := Hd (to_ HB7.out b); clear b c0 c1 c2 c3 c4 c5 c6 c7 c8; obtain ⟨c0, c1, c2, c3, c4, c5, c6, c7, c8⟩ := blk9 (HX.out w8 HB8.out)))
        go_ret
        exact ⟨rfl, to_ HB0.out HB8.out⟩
       ·rw [show s4B f0 t0 nC = true from by unfold s4B; rw [decide_eq_true (show 0 ≤ f0 by omega), decide_eq_true (show f0 ≤ t0 by omega), decide_eq_true (show t0 ≤ (nC : Int) by omega)]; rfl, if_pos rfl, firN, if_neg (by simp), firN]
        by_cases hl : rL = 0
        ·subst hl
         rw [if_neg (by simp)]
         obtain ⟨rr, hrr⟩ : ∃ r : Int, firN [(if okF (nC : Int) (-1) rs = true then (0 : Int) else 11)] = r := ⟨_, rfl⟩
         rw [hrr]
         have HRR := Hd (show (okF (nC : Int) (-1) rs = true → rr = 0) ∧ (okF (nC : Int) (-1) rs = false → rr = 11) from ⟨fun h => by rw [← hrr, h]; rfl, fun h => by rw [← hrr, h]; rfl⟩)
         clear hrr
         go_enter Tryz.func157, Tryz.ntmps157
         go_wp2_with (first
          | (go_at_call 179; refine HSL.out.mono ?_; rintro e w7 ⟨rfl, b⟩; have HB7 := Hd b; clear b c0 c1 c2 c3 c4 c5 c6 c7 c8; obtain ⟨c0, c1, c2, c3, c4, c5, c6, c7, c8⟩ := blk9 (HX.out w7 HB7.out))
          | (go_at_call 180; refine (HCO.out _ HB7.out).mono ?_; rintro e w8 ⟨rfl, b⟩; have HB8 := Hd (to_ HB7.out b); clear b c0 c1 c2 c3 c4 c5 c6 c7 c8; obtain ⟨c0, c1, c2, c3, c4, c5, c6, c7, c8⟩ := blk9 (HX.out w8 HB8.out))
          | (go_at_call 181; refine (HLI.out _ HB8.out).mono ?_; rintro e w9 ⟨rfl, b⟩; have HB9 := Hd (to_ HB8.out b); clear b c0 c1 c2 c3 c4 c5 c6 c7 c8; obtain ⟨c0, c1, c2, c3, c4, c5, c6, c7, c8⟩ := blk9 (HX.out w9 HB9.out)))
         clear hW1
         go_loopw [6] (fun i wr => ∃ (k : Nat) (z : Int), k ≤ nR ∧ i = .int .i64 (k : Int) ∧ Hid (okF (nC : Int) (-1) rs = okF (nC : Int) z (rs.drop k) ∧ (k = 0 → z = -1) ∧ (0 < k → z = (rlAt rs (k - 1)).1 ∧ 0 ≤ z)) ∧ Below W1.heap.size W1 wr) (fun i _ => nR - (intOf i).toNat)
         case atStart => exact ⟨0, -1, Nat.zero_le _, rfl, Hd ⟨by rw [List.drop_zero], fun _ => rfl, fun h => by omega⟩, HB9.out⟩
         case round =>
          obtain ⟨k, z, hk, rfl, HO, hbel⟩ := hrel
          have HBE := Hd hbel
          clear c0 c1 c2 c3 c4 c5 c6 c7 c8
          obtain ⟨c0, c1, c2, c3, c4, c5, c6, c7, c8⟩ := blk9 (HX.out wr hbel)
          by_cases hlt : k < nR
          ·have hkI : (k : Int) < (nR : Int) := by omega
           have hk0 : (0 : Int) ≤ (k : Int) := by omega
           obtain ⟨ad, had⟩ : ∃ ad, AR = some ad := (HRC.out wr hbel k hlt).imp fun _ h => h.1
           subst had
           obtain ⟨ad1, e1, _, a0, a1, a2⟩ := HRC.out wr hbel k hlt
           injection e1 with e1
           subst e1
           have HK := Hd (HO.out.1.trans (okF_at (HS.out k hlt)))
           obtain ⟨x, hx⟩ : ∃ x, rlAt rs k = x := ⟨_, rfl⟩
           have HX2 := Hd hx
           rw [hx] at HK a0 a1 a2
           obtain ⟨x0, x1, x2⟩ := x
           dsimp only at HK HX2 a0 a1 a2
           have HZ := Hd HO.out.2
           clear hx
           by_cases hkz : k = 0
           ·have hz : z = -1 := HO.out.2.1 hkz
            have kz : decide ((0 : Int) < (k : Int)) = false := decide_eq_false (by omega)
            have kz2 : ¬ (0 : Int) < (k : Int) := by omega
            have kz3 : ¬ 0 < k := by omega
            have HZM := Hd (show z < x0 ↔ ¬ x0 < 0 from by omega)
            have HZ8 := Hd (show (0 : Int) ≤ 0 from by omega)
            clear hbel hkz hz HO
            by_cases h2 : x0 < 0
            ·have g2 : decide (x0 < 0) = true := decide_eq_true h2
             have HF := Hd (HRR.out.2 (show okF (nC : Int) (-1) rs = false from by rw [HK.out]; rw [decide_eq_false (show ¬ z < x0 from fun h => HZM.out.1 h h2)]; rfl))
             go_wp2_with fail
             go_ret
             exact ⟨ret_int (by rw [HF.out]), to_ HB0.out HBE.out⟩
            ·have g2 : decide (x0 < 0) = false := decide_eq_false h2
             by_cases h3 : (nC : Int) ≤ x0
             ·have g3 : decide ((nC : Int) ≤ x0) = true := decide_eq_true h3
              have g3' : x0 ≥ (nC : Int) := h3
              have HF := Hd (HRR.out.2 (show okF (nC : Int) (-1) rs = false from by rw [HK.out]; rw [decide_eq_false (show ¬ x0 < (nC : Int) by omega)]; simp))
              go_wp2_with fail
              go_ret
              exact ⟨ret_int (by rw [HF.out]), to_ HB0.out HBE.out⟩
             ·have g3 : decide ((nC : Int) ≤ x0) = false := decide_eq_false h3
              have g3' : ¬ x0 ≥ (nC : Int) := h3
              by_cases h5 : x1 < 0
              ·have g5 : decide (x1 < 0) = true := decide_eq_true h5
               have hl5 : rfB9 (x0, x1, x2) = true := by unfold rfB9 frB; rw [decide_eq_false (show ¬ (0 : Int) ≤ x1 by omega)]; rfl
               have HF := Hd (HRR.out.2 (show okF (nC : Int) (-1) rs = false from by rw [HK.out]; rw [hl5]; simp))
               go_wp2_with fail
               go_ret
               exact ⟨ret_int (by rw [HF.out]), to_ HB0.out HBE.out⟩
              ·have g5 : decide (x1 < 0) = false := decide_eq_false h5
               by_cases h6 : (32 : Int) ≤ x1
               ·have g6 : decide ((32 : Int) ≤ x1) = true := decide_eq_true h6
                have g6' : x1 ≥ (32 : Int) := h6
                have hl6 : rfB9 (x0, x1, x2) = true := by unfold rfB9 frB; rw [decide_eq_false (show ¬ x1 ≤ (31 : Int) by omega)]; simp
                have HF := Hd (HRR.out.2 (show okF (nC : Int) (-1) rs = false from by rw [HK.out]; rw [hl6]; simp))
                go_wp2_with fail
                go_ret
                exact ⟨ret_int (by rw [HF.out]), to_ HB0.out HBE.out⟩
               ·have g6 : decide ((32 : Int) ≤ x1) = false := decide_eq_false h6
                have g6' : ¬ x1 ≥ (32 : Int) := h6
                have hl7 : rfB9 (x0, x1, x2) = false := by unfold rfB9 frB; rw [decide_eq_true (show (0 : Int) ≤ x1 by omega), decide_eq_true (show x1 ≤ (31 : Int) by omega)]; rfl
                have HF := Hd (show okF (nC : Int) (-1) rs = okF (nC : Int) x0 (rs.drop (k + 1)) from by rw [HK.out, hl7, decide_eq_true (HZM.out.2 h2), decide_eq_true (show x0 < (nC : Int) by omega)]; rfl)
                have HX0 := Hd (show 0 ≤ x0 from by omega)
                go_wp2_with fail
                go_roundw
                case rel => exact ⟨k + 1, x0, by omega, by go_num, Hd ⟨HF.out, fun h => by omega, fun _ => ⟨by rw [Nat.add_sub_cancel, HX2.out], HX0.out⟩⟩, HBE.out⟩
                case measure => simp [intOf]; omega
           ·obtain ⟨ad1, e1, _, p0, _, _⟩ := HRC.out wr hbel (k - 1) (by omega)
            injection e1 with e1
            subst e1
            obtain ⟨hz, hz0⟩ := HO.out.2.2 (by omega)
            rw [← hz] at p0
            have kz : decide ((0 : Int) < (k : Int)) = true := decide_eq_true (by omega)
            have kz2 : (0 : Int) < (k : Int) := by omega
            have kz3 : 0 < k := by omega
            have q4 : IntKind.i64.wrap ((k : Int) - 1) = ((k - 1 : Nat) : Int) := by
             rw [show (k : Int) - 1 = ((k - 1 : Nat) : Int) by omega]
             exact IntWalk.i64_in _ (by omega)
            have q5 : (0 : Int) ≤ ((k - 1 : Nat) : Int) := by omega
            have q6 : ((k - 1 : Nat) : Int) < (nR : Int) := by omega
            have HZ0 := Hd hz0
            clear hbel hkz hz HO hz0
            by_cases h2 : x0 < 0
            ·have g2 : decide (x0 < 0) = true := decide_eq_true h2
             have HF := Hd (HRR.out.2 (show okF (nC : Int) (-1) rs = false from by rw [HK.out]; rw [decide_eq_false (show ¬ z < x0 by have := HZ0.out; omega)]; rfl))
             go_wp2_with fail
             go_ret
             exact ⟨ret_int (by rw [HF.out]), to_ HB0.out HBE.out⟩
            ·have g2 : decide (x0 < 0) = false := decide_eq_false h2
             by_cases h3 : (nC : Int) ≤ x0
             ·have g3 : decide ((nC : Int) ≤ x0) = true := decide_eq_true h3
              have g3' : x0 ≥ (nC : Int) := h3
              have HF := Hd (HRR.out.2 (show okF (nC : Int) (-1) rs = false from by rw [HK.out]; rw [decide_eq_false (show ¬ x0 < (nC : Int) by omega)]; simp))
              go_wp2_with fail
              go_ret
              exact ⟨ret_int (by rw [HF.out]), to_ HB0.out HBE.out⟩
             ·have g3 : decide ((nC : Int) ≤ x0) = false := decide_eq_false h3
              have g3' : ¬ x0 ≥ (nC : Int) := h3
              by_cases h4 : x0 ≤ z
              ·have g4 : decide (x0 ≤ z) = true := decide_eq_true h4
               have HF := Hd (HRR.out.2 (show okF (nC : Int) (-1) rs = false from by rw [HK.out]; rw [decide_eq_false (show ¬ z < x0 by omega)]; rfl))
               go_wp2_with fail
               go_ret
               exact ⟨ret_int (by rw [HF.out]), to_ HB0.out HBE.out⟩
              ·have g4 : decide (x0 ≤ z) = false := decide_eq_false h4
               by_cases h5 : x1 < 0
               ·have g5 : decide (x1 < 0) = true := decide_eq_true h5
                have hl5 : rfB9 (x0, x1, x2) = true := by unfold rfB9 frB; rw [decide_eq_false (show ¬ (0 : Int) ≤ x1 by omega)]; rfl
                have HF := Hd (HRR.out.2 (show okF (nC : Int) (-1) rs = false from by rw [HK.out]; rw [hl5]; simp))
                go_wp2_with fail
                go_ret
                exact ⟨ret_int (by rw [HF.out]), to_ HB0.out HBE.out⟩
               ·have g5 : decide (x1 < 0) = false := decide_eq_false h5
                by_cases h6 : (32 : Int) ≤ x1
                ·have g6 : decide ((32 : Int) ≤ x1) = true := decide_eq_true h6
                 have g6' : x1 ≥ (32 : Int) := h6
                 have hl6 : rfB9 (x0, x1, x2) = true := by unfold rfB9 frB; rw [decide_eq_false (show ¬ x1 ≤ (31 : Int) by omega)]; simp
                 have HF := Hd (HRR.out.2 (show okF (nC : Int) (-1) rs = false from by rw [HK.out]; rw [hl6]; simp))
                 go_wp2_with fail
                 go_ret
                 exact ⟨ret_int (by rw [HF.out]), to_ HB0.out HBE.out⟩
                ·have g6 : decide ((32 : Int) ≤ x1) = false := decide_eq_false h6
                 have g6' : ¬ x1 ≥ (32 : Int) := h6
                 have hl7 : rfB9 (x0, x1, x2) = false := by unfold rfB9 frB; rw [decide_eq_true (show (0 : Int) ≤ x1 by omega), decide_eq_true (show x1 ≤ (31 : Int) by omega)]; rfl
                 have HF := Hd (show okF (nC : Int) (-1) rs = okF (nC : Int) x0 (rs.drop (k + 1)) from by rw [HK.out, hl7, decide_eq_true (show z < x0 by omega), decide_eq_true (show x0 < (nC : Int) by omega)]; rfl)
                 have HX0 := Hd (show 0 ≤ x0 from by omega)
                 go_wp2_with fail
                 go_roundw
                 case rel => exact ⟨k + 1, x0, by omega, by go_num, Hd ⟨HF.out, fun h => by omega, fun _ => ⟨by rw [Nat.add_sub_cancel, HX2.out], HX0.out⟩⟩, HBE.out⟩
                 case measure => simp [intOf]; omega
          ·obtain rfl : k = nR := by omega
           have HV := Hd (HRR.out.1 (by rw [HO.out.1, List.drop_eq_nil_of_le (by have := HLN.out; omega)]; rfl))
           clear hbel
           go_wp2_with fail
           go_ret
           exact ⟨ret_int (by rw [HV.out]), to_ HB0.out HBE.out⟩
        ·have hl2 : (rL == 0) = false := by simp [hl]
         rw [if_pos hl]
         clear hl
         go_enter Tryz.func157, Tryz.ntmps157
         go_wp2_with (first
          | (go_at_call 179; refine HSL.out.mono ?_; rintro e w7 ⟨rfl, b⟩; have HB7 := Hd b; clear b c0 c1 c2 c3 c4 c5 c6 c7 c8; obtain ⟨c0, c1, c2, c3, c4, c5, c6, c7, c8⟩ := blk9 (HX.out w7 HB7.out))
          | (go_at_call 180; refine (HCO.out _ HB7.out).mono ?_; rintro e w8 ⟨rfl, b⟩; have HB8 := Hd (to_ HB7.out b); clear b c0 c1 c2 c3 c4 c5 c6 c7 c8; obtain ⟨c0, c1, c2, c3, c4, c5, c6, c7, c8⟩ := blk9 (HX.out w8 HB8.out))
          | (go_at_call 181; refine (HLI.out _ HB8.out).mono ?_; rintro e w9 ⟨rfl, b⟩; have HB9 := Hd (to_ HB8.out b); clear b c0 c1 c2 c3 c4 c5 c6 c7 c8; obtain ⟨c0, c1, c2, c3, c4, c5, c6, c7, c8⟩ := blk9 (HX.out w9 HB9.out)))
         go_ret
         exact ⟨rfl, to_ HB0.out HB9.out⟩
    ·have hc2 : (rC == 0) = false := by simp [hc]
     rw [if_pos hc]
     clear hc
     go_enter Tryz.func157, Tryz.ntmps157
     go_wp2_with (first
      | (go_at_call 179; refine HSL.out.mono ?_; rintro e w7 ⟨rfl, b⟩; have HB7 := Hd b; clear b c0 c1 c2 c3 c4 c5 c6 c7 c8; obtain ⟨c0, c1, c2, c3, c4, c5, c6, c7, c8⟩ := blk9 (HX.out w7 HB7.out))
      | (go_at_call 180; refine (HCO.out _ HB7.out).mono ?_; rintro e w8 ⟨rfl, b⟩; have HB8 := Hd (to_ HB7.out b); clear b c0 c1 c2 c3 c4 c5 c6 c7 c8; obtain ⟨c0, c1, c2, c3, c4, c5, c6, c7, c8⟩ := blk9 (HX.out w8 HB8.out)))
     go_ret
     exact ⟨rfl, to_ HB0.out HB8.out⟩
 ·have hs2 : (rS == 0) = false := by simp [hs]
  rw [firN, if_pos hs]
  clear hs
  go_enter Tryz.func157, Tryz.ntmps157
  go_wp2_with (first
   | (go_at_call 179; refine HSL.out.mono ?_; rintro e w7 ⟨rfl, b⟩; have HB7 := Hd b; clear b c0 c1 c2 c3 c4 c5 c6 c7 c8; obtain ⟨c0, c1, c2, c3, c4, c5, c6, c7, c8⟩ := blk9 (HX.out w7 HB7.out)))
  go_ret
  exact ⟨rfl, to_ HB0.out HB7.out⟩
end Go.Proofs.YtdaimeaofgbfpaaGreat.By
