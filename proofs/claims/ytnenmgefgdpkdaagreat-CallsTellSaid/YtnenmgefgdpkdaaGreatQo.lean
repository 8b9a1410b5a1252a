/-
 WALKS of layer 25's document: Refers, Vias, Lists.
-/
import Derived.Test.YtnenmgefgdpkdaaGreatZa
import Derived.Test.YtnenmgefgdpkdaaGreatQn
namespace Go.Proofs.YtnenmgefgdpkdaaGreat.Bo
open Go.RowKit Go.Maps
open Mem Rf
set_option linter.unusedSimpArgs false
set_option linter.unusedVariables false
def directL (P : Pgm) (i : Nat) : List Int := rise P.fn (gatV (gfAt P.fs i) (P.cs i) [1, 5])
def datasL (P : Pgm) (i : Nat) : List Int := rise P.dn (gatV (gfAt P.fs i) (P.cs i) [3, 4])
def refersL (P : Pgm) (i : Nat) : List Int := rise P.fn (directL P i ++ valuesL P i)
def viaG (cs : List By.In5) (k : Nat) : List Int := ((List.range k).filter fun j => decide ((By.inAt cs j).1 = 20)).map fun j => (By.inAt cs j).2.2.2.1
theorem viaG_succ (cs : List By.In5) (k : Nat) : viaG cs (k + 1) = viaG cs k ++ (if (By.inAt cs k).1 = 20 then [(By.inAt cs k).2.2.2.1] else []) := by
 unfold viaG
 rw [List.range_succ, List.filter_append, List.map_append]
 by_cases h : (By.inAt cs k).1 = 20
 ·rw [if_pos h]; simp only [List.filter_cons, List.filter_nil]; rw [if_pos (by simp [h])]; rfl
 ·rw [if_neg h]; simp only [List.filter_cons, List.filter_nil]; rw [if_neg (by simp [h])]; rfl
theorem viaG_len (cs : List By.In5) (k : Nat) : (viaG cs k).length ≤ k := by
 unfold viaG; rw [List.length_map]; exact Nat.le_trans (List.length_filter_le _ _) (by simp)
def viasL (P : Pgm) (i : Nat) : List Int := rise 8 (viaG (P.cs i) (gfAt P.fs i).F.code.2.1)
theorem own_row {w : World} {B n : Nat} {A : Option Addr} {c : Nat} {L : List Int} (hl : L.length = n) (h : w.ownsRow B 3 1 (.slice A n c) n (L.flatMap encI)) : IL w A n c L := by
 obtain ⟨A', c', e, hh⟩ := wd_own encI_len hl h
 injection e with e1 e2 e3
 subst e1 e3; exact hh
set_option maxRecDepth 100000 in
set_option maxHeartbeats 4000000 in
theorem refers_doc (w : World) (P : Pgm) (h : PgR w P) (i : Nat) (hi : i < P.fn) :
  Calls Tryz.prog 56 #[pgV P, .int .i64 (i : Int)] w (IOwn w (refersL P i)) := by
 obtain ⟨iN, hiN, hzN0, hzN1, hzN2⟩ := info_split infoInt
 have hfw := h.few
 have hiI : (i : Int) < (P.fn : Int) := by omega
 have hi0 : (0 : Int) ≤ (i : Int) := by omega
 have HDI := Lib.hid (fun W (hb : Below w.heap.size w W) => direct_doc W P (h.on hb) i hi)
 have HVA := Lib.hid (fun W (hb : Below w.heap.size w W) => values_doc W P (h.on hb) i hi)
 have hd24 : (directL P i).length ≤ 24 := Nat.le_trans (rise_len _ _) hfw.1
 have hv24 : (valuesL P i).length ≤ 24 := Nat.le_trans (rise_len _ _) hfw.1
 unfold refersL
 clear h hi
 obtain ⟨fA, fn, fc, fs, dA, dn, dc, ds, en, cs⟩ := P
 unfold pgV at HDI HVA ⊢
 dsimp only at HDI HVA hfw hiI ⊢
 obtain ⟨L1, hL1⟩ : ∃ x, directL ⟨fA, fn, fc, fs, dA, dn, dc, ds, en, cs⟩ i = x := ⟨_, rfl⟩
 obtain ⟨L2, hL2⟩ : ∃ x, valuesL ⟨fA, fn, fc, fs, dA, dn, dc, ds, en, cs⟩ i = x := ⟨_, rfl⟩
 replace HDI := Lib.hid (fun W hw => show Calls _ _ _ W (IOwn W L1) from by rw [← hL1]; exact HDI.out W hw)
 rw [hL2] at HVA hv24
 rw [hL1] at hd24
 rw [hL1, hL2]
 clear hL1 hL2
 obtain ⟨W0, hW0⟩ : ∃ W0, w.alloc (.cells #[.slice fA fn fc, .slice dA dn dc, .int .i64 en] 29) = W0 := ⟨_, rfl⟩
 have HB0 := Lib.hid (show Below w.heap.size w W0 from by rw [← hW0]; exact alloc_ _ _)
 have hbk : Blk W0 w.heap.size 29 #[.slice fA fn fc, .slice dA dn dc, .int .i64 en] := by rw [← hW0]; exact Blk.new _ _ _
 have hz0 := hbk.lt
 have HX := Lib.hid (fun W (hb : Below W0.heap.size W0 W) => show W.cell? ⟨w.heap.size, 0, none⟩ = some (.slice fA fn fc) ∧ W.cell? ⟨w.heap.size, 1, none⟩ = some (.slice dA dn dc) ∧ W.cell? ⟨w.heap.size, 2, none⟩ = some (.int .i64 en) from ⟨(hbk.below hb hbk.lt).cell 0, (hbk.below hb hbk.lt).cell 1, (hbk.below hb hbk.lt).cell 2⟩)
 obtain ⟨c0, c1, c2⟩ := HX.out W0 (Below.refl _ _)
 clear hbk
 unfold IOwn at HDI HVA ⊢
 go_enter Tryz.func56, Tryz.ntmps56
 go_wp2_with (go_at_call 54; refine (HDI.out _ HB0.out).mono ?_; rintro e w1 ⟨v1, rfl, ho1, b1⟩; obtain ⟨dA1, dc1, rfl, hil1⟩ := own_il ho1; have HIL1 := Lib.hid hil1; have HB1 := Lib.hid b1; clear ho1 hil1 b1; go_wp2_with (at_builtin; go_loud (refine list_append_wd _ rfl _ _ 42 rfl W0.heap.size 3 iN (.int .i64 0) 1 8 Tryz.underlying42 hiN hzN0 hzN1 hzN2 rfl (by decide) encI_len encI_one _ 0 [] rfl (World.ownsRow_nil _ _ _ _) dA1 L1.length dc1 L1 rfl HIL1.out (by unfold maxLen; omega) (by omega) HB1.out.size ?_; intro v2 w2 h2 h3 _; rw [Nat.zero_add, List.nil_append] at h2; obtain ⟨eA2, ec2, rfl⟩ := own_form h2; have HO2 := Lib.hid h2; have HB2 := Lib.hid (HB1.out.grown h3 HB1.out.size (fun r e => by cases e)); obtain ⟨c0, c1, c2⟩ := HX.out w2 HB2.out; clear h2 h3; go_wp2_with (go_at_call 55; refine (HVA.out _ (to_ HB0.out HB2.out)).mono ?_; rintro e w3 ⟨v3, rfl, ho3, b3⟩; obtain ⟨dA3, dc3, rfl, hil3⟩ := own_il ho3; have HIL3 := Lib.hid hil3; have HB3 := Lib.hid b3; clear ho3 hil3 b3; go_wp2_with (at_builtin; go_loud (refine list_append_wd _ rfl _ _ 42 rfl W0.heap.size 3 iN (.int .i64 0) 1 8 Tryz.underlying42 hiN hzN0 hzN1 hzN2 rfl (by decide) encI_len encI_one _ L1.length (L1.flatMap encI) rfl (own_on HO2.out HB3.out) dA3 L2.length dc3 L2 rfl HIL3.out (by unfold maxLen; omega) (by omega) (to_ HB2.out HB3.out).size ?_; intro v4 w4 h4 h5 _; obtain ⟨eA4, ec4, rfl⟩ := own_form h4; have HO4 := Lib.hid h4; have HB4 := Lib.hid ((to_ HB2.out HB3.out).grown h5 (to_ HB2.out HB3.out).size (fun r e => (HO2.out.lt r e).1)); obtain ⟨c0, c1, c2⟩ := HX.out w4 HB4.out; clear h4 h5))))))
 have HR := Lib.hid (rising_any w4 eA4 (L1.length + L2.length) ec4 (L1 ++ L2) fn (own_row (by simp) (by have := HO4.out; rw [← flatI] at this; exact this)) (by omega) (by omega))
 unfold IOwn at HR
 go_wp2_with (go_at_call 101; refine HR.out.mono ?_; rintro e w9 ⟨v9, rfl, ho9, b9⟩; have HO9 := Lib.hid ho9; have HB9 := Lib.hid b9; clear ho9 b9)
 go_ret
 exact ⟨_, rfl, own_lower HO9.out (to_ HB0.out HB4.out).size, to_ (to_ HB0.out HB4.out) HB9.out⟩
set_option maxRecDepth 100000 in
set_option maxHeartbeats 4000000 in
theorem vias_doc (w : World) (P : Pgm) (h : PgR w P) (i : Nat) (hi : i < P.fn) :
  Calls Tryz.prog 57 #[pgV P, .int .i64 (i : Int)] w (IOwn w (viasL P i)) := by
 obtain ⟨iN, hiN, hzN0, hzN1, hzN2⟩ := info_split infoInt
 have hfw := h.few
 have hiI : (i : Int) < (P.fn : Int) := by omega
 have hi0 : (0 : Int) ≤ (i : Int) := by omega
 have HC := Lib.hid (fun W (hb : Below w.heap.size w W) k (hk : k < (gfAt P.fs i).F.code.2.1) => in_at ((h.on hb).fns i hi).code hk)
 have HGF := Lib.hid (fun W (hb : Below w.heap.size w W) => gf_at (h.on hb).fr hi)
 have hc80 := (h.fns i hi).few.1
 unfold viasL
 clear h hi
 obtain ⟨fA, fn, fc, fs, dA, dn, dc, ds, en, cs⟩ := P
 unfold pgV
 dsimp only at HC HGF hfw hiI hc80 ⊢
 obtain ⟨g, hg⟩ : ∃ g, gfAt fs i = g := ⟨_, rfl⟩
 rw [hg] at HC HGF hc80 ⊢
 clear hg
 obtain ⟨ad, rfl, -⟩ := HGF.out w (Below.refl _ _)
 obtain ⟨file, item, nm, ⟨cl, kds, pd, no, fr, tt, lns, ⟨cA, cn, cc⟩, rel⟩, R, refs⟩ := g
 dsimp only at HC hc80 ⊢
 have HF := Lib.hid (fun W (hb : Below w.heap.size w W) => show W.cell? ⟨(ad.add (i * 13)).block, (ad.add (i * 13)).off + 10, none⟩ = some (.slice cA cn cc) from by
  obtain ⟨a9, e9, _, _, hh⟩ := HGF.out W hb
  obtain rfl := Option.some.inj e9
  exact hh 9 _ rfl)
 generalize cs i = c9 at HC ⊢
 have HS := Lib.hid (fun k => viaG_succ c9 k)
 have HL := Lib.hid (fun k => viaG_len c9 k)
 clear HGF
 obtain ⟨W0, hW0⟩ : ∃ W0, w.alloc (.cells #[.slice (some ad) fn fc, .slice dA dn dc, .int .i64 en] 29) = W0 := ⟨_, rfl⟩
 have HB0 := Lib.hid (show Below w.heap.size w W0 from by rw [← hW0]; exact alloc_ _ _)
 have hbk : Blk W0 w.heap.size 29 #[.slice (some ad) fn fc, .slice dA dn dc, .int .i64 en] := by rw [← hW0]; exact Blk.new _ _ _
 have hz0 := hbk.lt
 have HX := Lib.hid (fun W (hb : Below W0.heap.size W0 W) => show W.cell? ⟨w.heap.size, 0, none⟩ = some (.slice (some ad) fn fc) ∧ W.cell? ⟨w.heap.size, 1, none⟩ = some (.slice dA dn dc) ∧ W.cell? ⟨w.heap.size, 2, none⟩ = some (.int .i64 en) from ⟨(hbk.below hb hbk.lt).cell 0, (hbk.below hb hbk.lt).cell 1, (hbk.below hb hbk.lt).cell 2⟩)
 obtain ⟨c0, c1, c2⟩ := HX.out W0 (Below.refl _ _)
 clear hbk
 unfold IOwn
 go_enter Tryz.func57, Tryz.ntmps57
 go_wp2_with fail
 clear hW0 c0 c1 c2
 go_loopw [5, 6] (fun v9 i9 wr => ∃ k : Nat, k ≤ cn ∧ i9 = .int .i64 (k : Int) ∧ Hid (wr.ownsRow W0.heap.size 3 1 v9 (viaG c9 k).length ((viaG c9 k).flatMap encI)) ∧ Hid (Below W0.heap.size W0 wr)) (fun _ i9 _ => cn - (intOf i9).toNat)
 case atStart => exact ⟨0, Nat.zero_le _, rfl, Lib.hid (World.ownsRow_nil _ _ _ _), Lib.hid (Below.refl _ _)⟩
 case round =>
  obtain ⟨k, hk, rfl, HOW, HBE⟩ := hrel
  obtain ⟨c0, c1, c2⟩ := HX.out wr HBE.out
  have HBW := Lib.hid (to_ HB0.out HBE.out)
  have f10 := HF.out wr HBW.out
  obtain ⟨q, hq⟩ : ∃ q, (viaG c9 k).length = q := ⟨_, rfl⟩
  have HQ := Lib.hid hq
  have hl9 := HL.out k
  rw [hq] at hl9
  obtain ⟨pA, pc, rfl⟩ := own_form HOW.out
  have HW : Hid (wr.ownsRow W0.heap.size 3 1 (.slice pA (viaG c9 k).length pc) q ((viaG c9 k).flatMap encI)) := Lib.hid (by rw [← HQ.out]; exact HOW.out)
  rw [hq] at HW ⊢
  clear hq
  by_cases hlt : k < cn
  ·have hkI : (k : Int) < (cn : Int) := by omega
   have hk0 : (0 : Int) ≤ (k : Int) := by omega
   obtain ⟨cad, rfl, hz1, z0, -, -, z3, -⟩ := HC.out wr HBW.out k hlt
   have hs := HS.out k
   obtain ⟨op, hop⟩ : ∃ x, (By.inAt c9 k).1 = x := ⟨_, rfl⟩
   obtain ⟨cl9, hcl⟩ : ∃ x, (By.inAt c9 k).2.2.2.1 = x := ⟨_, rfl⟩
   rw [hop] at z0
   have hs : viaG c9 (k + 1) = viaG c9 k ++ (if op = 20 then [(By.inAt c9 k).2.2.2.1] else []) := by rw [hs, ← hop]
   rw [hcl] at z3 hs
   clear hop hcl
   by_cases e : op = 20
   ·have e' : (op == 20) = true := by simp [e]
    rw [if_pos e] at hs
    have HX9 := Lib.hid hs
    clear hs e
    go_wp2_with (at_builtin; go_loud (refine wpList_append_own _ rfl _ _ 42 rfl W0.heap.size 3 iN (.int .i64 0) 1 8 Tryz.underlying42 hiN hzN0 hzN1 hzN2 rfl (by decide) _ q ((viaG c9 k).flatMap encI) rfl (own_on HW.out (alloc_ _ _)) ⟨wr.heap.size, 0, none⟩ 1 1 [.int .i64 cl9] rfl rfl (one_new wr _ 3) (by simp [Value.oneCell']) (by unfold maxLen; omega) (by omega) (by have := HBE.out.size; simp; omega) ?_; intro v' w' h2 h3 _; have H2 := Lib.hid h2; have H3 := Lib.hid h3; clear h2 h3))
    go_roundw
    case rel => exact ⟨k + 1, by omega, by go_num, Lib.hid (by rw [HX9.out, List.length_append, HQ.out, flatI]; exact H2.out), Lib.hid ((to_ HBE.out (alloc_ _ _)).grown H3.out (to_ HBE.out (alloc_ _ _)).size fun r e => (HW.out.lt r e).1)⟩
    case measure => simp [intOf]; omega
   ·have e' : (op == 20) = false := by simp [e]
    rw [if_neg e, List.append_nil] at hs
    have HX9 := Lib.hid hs
    clear hs e
    go_wp2_with fail
    go_roundw
    case rel => exact ⟨k + 1, by omega, by go_num, Lib.hid (by rw [HX9.out, HQ.out]; exact HW.out), HBE⟩
    case measure => simp [intOf]; omega
  ·obtain rfl : cn = k := by omega
   have HR := Lib.hid (rising_any wr pA q pc (viaG c9 cn) 8 (own_row HQ.out HW.out) (by omega) (by omega))
   unfold IOwn at HR
   go_wp2_with (go_at_call 101; refine HR.out.mono ?_; rintro e w9 ⟨v9, rfl, ho9, b9⟩; have HO9 := Lib.hid ho9; have HB9 := Lib.hid b9; clear ho9 b9)
   go_ret
   exact ⟨_, rfl, own_lower HO9.out HBW.out.size, to_ HBW.out HB9.out⟩
end Go.Proofs.YtnenmgefgdpkdaaGreat.Bo
