/-
 WALKS of layer 29's laws: PlaceTells.
-/
import Derived.Test.YtbcabomblfehlabZa
import Derived.Test.YtbcabomblfehlabUk
import Derived.Test.YtbcabomblfehlabUi
namespace Go.Proofs.Ytbcabomblfehlab.Bo
open Go.RowKit Go.Maps
open Mem Rf
set_option linter.unusedSimpArgs false
set_option linter.unusedVariables false
def nilP : Pn := ⟨none, 0, 0, [], none, 0, 0, []⟩
theorem nilP_in (w : World) : PnR w nilP := ⟨Wd.nil, Wd.nil⟩
set_option maxRecDepth 100000 in
set_option maxHeartbeats 8000000 in
theorem tells29_any (w : World) (A : Option Addr) (n c : Nat) (os : List Oj) (xs : Nat → Nat → By.Fn) (ws : Nat → Nat → List Int) (rs : Nat → Nat → List By.Rl) (h : OjsI w A n c os xs ws rs) (p : Pn) (hp : PnR w p) :
  Calls Try.prog 3 #[.slice A n c, pnV p] w fun e w' => e = .returned (.bool true) ∧ Below w.heap.size w w' := by
 have HFW := Lib.hid (fun W (hb : Below w.heap.size w W) => few29_any W A n c os xs ws rs (h.on hb) p (hp.on hb))
 have HPN := Lib.hid (fun W (hb : Below w.heap.size w W) => hp.on hb)
 clear h hp
 obtain ⟨kA, kn, kc, ks, cA, cn, cc, cl⟩ := p
 unfold pnV at HFW ⊢
 dsimp only at HFW HPN ⊢
 obtain ⟨W0, hW0⟩ : ∃ W0, w.alloc (.cells #[.slice kA kn kc, .slice cA cn cc] 26) = W0 := ⟨_, rfl⟩
 have HB0 := Lib.hid (show Below w.heap.size w W0 from by rw [← hW0]; exact alloc_ _ _)
 have HPB := Lib.hid (show Blk W0 w.heap.size 26 #[.slice kA kn kc, .slice cA cn cc] from by rw [← hW0]; exact Blk.new _ _ _)
 have a0 : W0.cell? ⟨w.heap.size, 0, none⟩ = some (.slice kA kn kc) := HPB.out.cell 0
 have a1 : W0.cell? ⟨w.heap.size, 1, none⟩ = some (.slice cA cn cc) := HPB.out.cell 1
 go_enter Try.func3, Try.ntmps3
 go_wp2_with (go_at_call 6; refine (HFW.out W0 HB0.out).mono ?_; rintro e w2 ⟨P, b, rfl, hpp, hb2⟩; have HPP := Lib.hid hpp; have HB2 := Lib.hid hb2; clear hpp hb2 hW0 a0 a1; obtain ⟨fA, fn, fc, fs, dA, dn, dc, ds, en, cs⟩ := P; unfold pgV; dsimp only; cases b)
 ·go_wp2_with (go_at_call 7; refine (known29_any _).mono ?_; rintro e w9 ⟨rfl, hb9⟩; have HB9 := Lib.hid hb9; clear hb9)
  go_ret
  exact ⟨rfl, to_ HB0.out (to_ HB2.out (to_ (alloc_ _ _) HB9.out))⟩
 ·have HPQ := Lib.hid (HPP.out (by trivial)).1
  clear HPP
  obtain ⟨W4, hW4⟩ : ∃ x, w2.alloc (.cells #[.slice fA fn fc, .slice dA dn dc, .int .i64 en] 30) = x := ⟨_, rfl⟩
  rw [hW4]
  have HW4 := Lib.hid (show Below w2.heap.size w2 W4 from by rw [← hW4]; exact alloc_ _ _)
  have HPX := Lib.hid (show Blk W4 w2.heap.size 30 #[.slice fA fn fc, .slice dA dn dc, .int .i64 en] from by rw [← hW4]; exact Blk.new _ _ _)
  clear hW4
  have HP4 := Lib.hid (fun W (hb : Below W4.heap.size W4 W) => HPQ.out.on (to_ HW4.out hb))
  have HBW := Lib.hid (show Below w.heap.size w W4 from to_ HB0.out (to_ HB2.out HW4.out))
  have HN4 := Lib.hid (fun W (hb : Below W4.heap.size W4 W) => HPN.out W (to_ HBW.out hb))
  have HPY := Lib.hid (HPB.out.below (to_ HB2.out HW4.out) HPB.out.lt)
  have HKK := Lib.hid HPQ.out.kk
  have HFN := Lib.hid (show fn ≤ 24 ∧ dn ≤ 24 from HPQ.out.few)
  have HL := Lib.hid (show (fnsL ⟨fA, fn, fc, fs, dA, dn, dc, ds, en, cs⟩ ⟨kA, kn, kc, ks, cA, cn, cc, cl⟩).length ≤ fn from by unfold fnsL; rw [List.length_map]; exact told_len)
  have HST := Lib.hid (fun W hb => starts_any W _ _ ((HP4.out W hb).rdF (HN4.out W hb)))
  have HRS := Lib.hid (fun W hb => rstarts_any W _ _ ((HP4.out W hb).rdF (HN4.out W hb)))
  have HCO := Lib.hid (fun W hb => code_any W _ _ ((HP4.out W hb).rdF (HN4.out W hb)))
  have HRC := Lib.hid (fun W hb => rcode_any W _ _ ((HP4.out W hb).rdF (HN4.out W hb)))
  have HAD := Lib.hid (fun W hb => addrs_any W _ (HP4.out W hb).rdD)
  have HRA := Lib.hid (fun W hb => raddrs_any W _ (HP4.out W hb).rdD)
  have HWO := Lib.hid (fun W hb => words_any W _ (HP4.out W hb).rdD)
  have HRW := Lib.hid (fun W hb => rwords_any W _ (HP4.out W hb).rdD)
  have HFS := Lib.hid (fun W hb => fns_any W _ _ ((HP4.out W hb).rdF (HN4.out W hb)) HKK.out)
  have HRF := Lib.hid (fun W hb => rfns_any W _ _ ((HP4.out W hb).rdF (HN4.out W hb)) HKK.out)
  unfold pgV pnV at HST HRS HCO HRC HFS HRF
  unfold pgV at HAD HRA HWO HRW
  obtain ⟨l1, hl1⟩ : ∃ x, startsL ⟨fA, fn, fc, fs, dA, dn, dc, ds, en, cs⟩ ⟨kA, kn, kc, ks, cA, cn, cc, cl⟩ = x := ⟨_, rfl⟩
  obtain ⟨z1, hz1⟩ : ∃ x, codeV ⟨fA, fn, fc, fs, dA, dn, dc, ds, en, cs⟩ ⟨kA, kn, kc, ks, cA, cn, cc, cl⟩ = x := ⟨_, rfl⟩
  obtain ⟨l2, hl2⟩ : ∃ x, addrsL ⟨fA, fn, fc, fs, dA, dn, dc, ds, en, cs⟩ = x := ⟨_, rfl⟩
  obtain ⟨z2, hz2⟩ : ∃ x, wordsV ⟨fA, fn, fc, fs, dA, dn, dc, ds, en, cs⟩ = x := ⟨_, rfl⟩
  obtain ⟨l3, hl3⟩ : ∃ x, fnsL ⟨fA, fn, fc, fs, dA, dn, dc, ds, en, cs⟩ ⟨kA, kn, kc, ks, cA, cn, cc, cl⟩ = x := ⟨_, rfl⟩
  rw [hl1] at HST HRS
  rw [hz1] at HCO HRC
  rw [hl2] at HAD HRA
  rw [hz2] at HWO HRW
  rw [hl3] at HFS HRF HL
  dsimp only at HST HRS HCO HRC HAD HRA HWO HRW HFS HRF
  have hzz1 : (z1 == z1) = true := by simp
  have hzz2 : (z2 == z2) = true := by simp
  clear hl1 hz1 hl2 hz2 hl3
  refine wp_region_noPanic ?_
  refine wp_region_held_drew (S := fun W => W.cell? ⟨w2.heap.size, 0, none⟩ = some (.slice fA fn fc) ∧ W.cell? ⟨w2.heap.size, 1, none⟩ = some (.slice dA dn dc) ∧ W.cell? ⟨w2.heap.size, 2, none⟩ = some (.int .i64 en) ∧ W.cell? ⟨w.heap.size, 0, none⟩ = some (.slice kA kn kc) ∧ W.cell? ⟨w.heap.size, 1, none⟩ = some (.slice cA cn cc)) (by kernel_rfl) (⟨HPX.out.cell 0, HPX.out.cell 1, HPX.out.cell 2, HPY.out.cell 0, HPY.out.cell 1⟩) (fun hHeld => ?_)
  refine tkZ 0 rfl hHeld ?_
  try simp only [Act.put, nmZ]
  refine tkZ 1 rfl hHeld ?_
  try simp only [Act.put, nmZ]
  refine tkZ 3 rfl hHeld ?_
  try simp only [Act.put, nmZ]
  refine tkZ 4 rfl hHeld ?_
  try simp only [Act.put, nmZ]
  refine wpAnyH_ready (rs := [2]) (by kernel_rfl) (by simp) ?_
  refine AllReadyH.cons rfl (fun K hK => ?_) AllReadyH.nil
  go_simp
  refine (HST.out _ (Below.refl W4.heap.size W4).drew).mono ?_; rintro e u1 ⟨A1, c1, rfl, hi, hb⟩; have HB21 := Lib.hid (to_ (Below.refl W4.heap.size W4).drew hb); have HU := Lib.hid hb; have HI1 := Lib.hid hi; clear hi; clear hb
  try go_wp2_with fail
  refine hK.out _ _ (⟨cell_on hHeld.1 HU.out, cell_on hHeld.2.1 HU.out, cell_on hHeld.2.2.1 HU.out, cell_on hHeld.2.2.2.1 HU.out, cell_on hHeld.2.2.2.2 HU.out⟩) ?_
  clear hK K hHeld
  intro hHeld
  try simp only [Act.put, nmZ]
  refine wpAnyH_ready (rs := [5]) (by kernel_rfl) (by simp) ?_
  refine AllReadyH.cons rfl (fun K hK => ?_) AllReadyH.nil
  go_simp
  refine (HRS.out _ HB21.out).mono ?_; rintro e u2 ⟨A2, c2, rfl, hi, hb⟩; have HB22 := Lib.hid (to_ HB21.out hb); have HU := Lib.hid hb; have HI2 := Lib.hid hi; have HI1 := Lib.hid (HI1.out.on HU.out); clear hi; clear hb
  try go_wp2_with fail
  refine hK.out _ _ (⟨cell_on hHeld.1 HU.out, cell_on hHeld.2.1 HU.out, cell_on hHeld.2.2.1 HU.out, cell_on hHeld.2.2.2.1 HU.out, cell_on hHeld.2.2.2.2 HU.out⟩) ?_
  clear hK K hHeld
  intro hHeld
  try simp only [Act.put, nmZ]
  refine wpAnyH_ready (rs := [6]) (by kernel_rfl) (by simp) ?_
  refine AllReadyH.cons rfl (fun K hK => ?_) AllReadyH.nil
  go_simp
  refine (ints29_any _ A1 A2 fn c1 c2 l1 HI1.out HI2.out (by have := HFN.out; omega)).mono ?_; rintro e u3 ⟨rfl, hb⟩; have HB23 := Lib.hid (to_ HB22.out hb); have HU := Lib.hid hb; clear hb
  try go_wp2_with fail
  refine hK.out _ _ (⟨cell_on hHeld.1 HU.out, cell_on hHeld.2.1 HU.out, cell_on hHeld.2.2.1 HU.out, cell_on hHeld.2.2.2.1 HU.out, cell_on hHeld.2.2.2.2 HU.out⟩) ?_
  clear hK K hHeld
  intro hHeld
  try simp only [Act.put, nmZ]
  refine tkZ 7 rfl hHeld ?_
  try simp only [Act.put, nmZ]
  refine tkZ 8 rfl hHeld ?_
  try simp only [Act.put, nmZ]
  refine tkZ 9 rfl hHeld ?_
  try simp only [Act.put, nmZ]
  refine tkZ 11 rfl hHeld ?_
  try simp only [Act.put, nmZ]
  refine tkZ 12 rfl hHeld ?_
  try simp only [Act.put, nmZ]
  refine wpAnyH_ready (rs := [10]) (by kernel_rfl) (by simp) ?_
  refine AllReadyH.cons rfl (fun K hK => ?_) AllReadyH.nil
  go_simp
  refine (HCO.out _ HB23.out).mono ?_; rintro e u4 ⟨rfl, hb⟩; have HB24 := Lib.hid (to_ HB23.out hb); have HU := Lib.hid hb; clear hb
  try go_wp2_with fail
  refine hK.out _ _ (⟨cell_on hHeld.1 HU.out, cell_on hHeld.2.1 HU.out, cell_on hHeld.2.2.1 HU.out, cell_on hHeld.2.2.2.1 HU.out, cell_on hHeld.2.2.2.2 HU.out⟩) ?_
  clear hK K hHeld
  intro hHeld
  try simp only [Act.put, nmZ]
  refine wpAnyH_ready (rs := [13]) (by kernel_rfl) (by simp) ?_
  refine AllReadyH.cons rfl (fun K hK => ?_) AllReadyH.nil
  go_simp
  refine (HRC.out _ HB24.out).mono ?_; rintro e u5 ⟨rfl, hb⟩; have HB25 := Lib.hid (to_ HB24.out hb); have HU := Lib.hid hb; clear hb
  try go_wp2_with fail
  refine hK.out _ _ (⟨cell_on hHeld.1 HU.out, cell_on hHeld.2.1 HU.out, cell_on hHeld.2.2.1 HU.out, cell_on hHeld.2.2.2.1 HU.out, cell_on hHeld.2.2.2.2 HU.out⟩) ?_
  clear hK K hHeld
  intro hHeld
  try simp only [Act.put, nmZ]
  refine tkZ 14 rfl hHeld ?_
  try simp only [Act.put, nmZ]
  refine tkZ 15 rfl hHeld ?_
  try simp only [Act.put, nmZ]
  refine tkZ 16 rfl hHeld ?_
  try simp only [Act.put, nmZ]
  refine tkZ 17 rfl hHeld ?_
  try simp only [Act.put, nmZ]
  refine tkZ 19 rfl hHeld ?_
  try simp only [Act.put, nmZ]
  refine wpAnyH_ready (rs := [18]) (by kernel_rfl) (by simp) ?_
  refine AllReadyH.cons rfl (fun K hK => ?_) AllReadyH.nil
  go_simp
  refine (HAD.out _ HB25.out).mono ?_; rintro e u6 ⟨A3, c3, rfl, hi, hb⟩; have HB26 := Lib.hid (to_ HB25.out hb); have HU := Lib.hid hb; have HI3 := Lib.hid hi; clear hi; clear hb
  try go_wp2_with fail
  refine hK.out _ _ (⟨cell_on hHeld.1 HU.out, cell_on hHeld.2.1 HU.out, cell_on hHeld.2.2.1 HU.out, cell_on hHeld.2.2.2.1 HU.out, cell_on hHeld.2.2.2.2 HU.out⟩) ?_
  clear hK K hHeld
  intro hHeld
  try simp only [Act.put, nmZ]
  refine wpAnyH_ready (rs := [20]) (by kernel_rfl) (by simp) ?_
  refine AllReadyH.cons rfl (fun K hK => ?_) AllReadyH.nil
  go_simp
  refine (HRA.out _ HB26.out).mono ?_; rintro e u7 ⟨A4, c4, rfl, hi, hb⟩; have HB27 := Lib.hid (to_ HB26.out hb); have HU := Lib.hid hb; have HI4 := Lib.hid hi; have HI3 := Lib.hid (HI3.out.on HU.out); clear hi; clear hb
  try go_wp2_with fail
  refine hK.out _ _ (⟨cell_on hHeld.1 HU.out, cell_on hHeld.2.1 HU.out, cell_on hHeld.2.2.1 HU.out, cell_on hHeld.2.2.2.1 HU.out, cell_on hHeld.2.2.2.2 HU.out⟩) ?_
  clear hK K hHeld
  intro hHeld
  try simp only [Act.put, nmZ]
  refine wpAnyH_ready (rs := [21]) (by kernel_rfl) (by simp) ?_
  refine AllReadyH.cons rfl (fun K hK => ?_) AllReadyH.nil
  go_simp
  refine (ints29_any _ A3 A4 dn c3 c4 l2 HI3.out HI4.out (by have := HFN.out; omega)).mono ?_; rintro e u8 ⟨rfl, hb⟩; have HB28 := Lib.hid (to_ HB27.out hb); have HU := Lib.hid hb; clear hb
  try go_wp2_with fail
  refine hK.out _ _ (⟨cell_on hHeld.1 HU.out, cell_on hHeld.2.1 HU.out, cell_on hHeld.2.2.1 HU.out, cell_on hHeld.2.2.2.1 HU.out, cell_on hHeld.2.2.2.2 HU.out⟩) ?_
  clear hK K hHeld
  intro hHeld
  try simp only [Act.put, nmZ]
  refine tkZ 22 rfl hHeld ?_
  try simp only [Act.put, nmZ]
  refine tkZ 23 rfl hHeld ?_
  try simp only [Act.put, nmZ]
  refine tkZ 24 rfl hHeld ?_
  try simp only [Act.put, nmZ]
  refine tkZ 26 rfl hHeld ?_
  try simp only [Act.put, nmZ]
  refine wpAnyH_ready (rs := [25]) (by kernel_rfl) (by simp) ?_
  refine AllReadyH.cons rfl (fun K hK => ?_) AllReadyH.nil
  go_simp
  refine (HWO.out _ HB28.out).mono ?_; rintro e u9 ⟨rfl, hb⟩; have HB29 := Lib.hid (to_ HB28.out hb); have HU := Lib.hid hb; clear hb
  try go_wp2_with fail
  refine hK.out _ _ (⟨cell_on hHeld.1 HU.out, cell_on hHeld.2.1 HU.out, cell_on hHeld.2.2.1 HU.out, cell_on hHeld.2.2.2.1 HU.out, cell_on hHeld.2.2.2.2 HU.out⟩) ?_
  clear hK K hHeld
  intro hHeld
  try simp only [Act.put, nmZ]
  refine wpAnyH_ready (rs := [27]) (by kernel_rfl) (by simp) ?_
  refine AllReadyH.cons rfl (fun K hK => ?_) AllReadyH.nil
  go_simp
  refine (HRW.out _ HB29.out).mono ?_; rintro e u10 ⟨rfl, hb⟩; have HB210 := Lib.hid (to_ HB29.out hb); have HU := Lib.hid hb; clear hb
  try go_wp2_with fail
  refine hK.out _ _ (⟨cell_on hHeld.1 HU.out, cell_on hHeld.2.1 HU.out, cell_on hHeld.2.2.1 HU.out, cell_on hHeld.2.2.2.1 HU.out, cell_on hHeld.2.2.2.2 HU.out⟩) ?_
  clear hK K hHeld
  intro hHeld
  try simp only [Act.put, nmZ]
  refine tkZ 28 rfl hHeld ?_
  try simp only [Act.put, nmZ]
  refine tkZ 29 rfl hHeld ?_
  try simp only [Act.put, nmZ]
  refine tkZ 30 rfl hHeld ?_
  try simp only [Act.put, nmZ]
  refine tkZ 31 rfl hHeld ?_
  try simp only [Act.put, nmZ]
  refine tkZ 32 rfl hHeld ?_
  try simp only [Act.put, nmZ]
  refine tkZ 34 rfl hHeld ?_
  try simp only [Act.put, nmZ]
  refine tkZ 35 rfl hHeld ?_
  try simp only [Act.put, nmZ]
  refine wpAnyH_ready (rs := [33]) (by kernel_rfl) (by simp) ?_
  refine AllReadyH.cons rfl (fun K hK => ?_) AllReadyH.nil
  go_simp
  refine (HFS.out _ HB210.out).mono ?_; rintro e u11 ⟨A5, c5, rfl, hi, hb⟩; have HB211 := Lib.hid (to_ HB210.out hb); have HU := Lib.hid hb; have HI5 := Lib.hid hi; clear hi; clear hb
  try go_wp2_with fail
  refine hK.out _ _ (⟨cell_on hHeld.1 HU.out, cell_on hHeld.2.1 HU.out, cell_on hHeld.2.2.1 HU.out, cell_on hHeld.2.2.2.1 HU.out, cell_on hHeld.2.2.2.2 HU.out⟩) ?_
  clear hK K hHeld
  intro hHeld
  try simp only [Act.put, nmZ]
  refine wpAnyH_ready (rs := [36]) (by kernel_rfl) (by simp) ?_
  refine AllReadyH.cons rfl (fun K hK => ?_) AllReadyH.nil
  go_simp
  refine (HRF.out _ HB211.out).mono ?_; rintro e u12 ⟨A6, c6, rfl, hi, hb⟩; have HB212 := Lib.hid (to_ HB211.out hb); have HU := Lib.hid hb; have HI6 := Lib.hid hi; have HI5 := Lib.hid (HI5.out.on HU.out); clear hi; clear hb
  try go_wp2_with fail
  refine hK.out _ _ (⟨cell_on hHeld.1 HU.out, cell_on hHeld.2.1 HU.out, cell_on hHeld.2.2.1 HU.out, cell_on hHeld.2.2.2.1 HU.out, cell_on hHeld.2.2.2.2 HU.out⟩) ?_
  clear hK K hHeld
  intro hHeld
  try simp only [Act.put, nmZ]
  refine wpAnyH_ready (rs := [37]) (by kernel_rfl) (by simp) ?_
  refine AllReadyH.cons rfl (fun K hK => ?_) AllReadyH.nil
  go_simp
  refine (same29_any _ A5 A6 _ c5 c6 l3 HI5.out HI6.out (by have := HFN.out; have := HL.out; omega)).mono ?_; rintro e u13 ⟨rfl, hb⟩; have HB213 := Lib.hid (to_ HB212.out hb); have HU := Lib.hid hb; clear hb
  try go_wp2_with fail
  refine hK.out _ _ (⟨cell_on hHeld.1 HU.out, cell_on hHeld.2.1 HU.out, cell_on hHeld.2.2.1 HU.out, cell_on hHeld.2.2.2.1 HU.out, cell_on hHeld.2.2.2.2 HU.out⟩) ?_
  clear hK K hHeld
  intro hHeld
  try simp only [Act.put, nmZ]
  refine tkZ 38 rfl hHeld ?_
  try simp only [Act.put, nmZ]
  refine tkZ 39 rfl hHeld ?_
  try simp only [Act.put, nmZ]
  refine wpAnyH_ready (rs := [40]) (by kernel_rfl) (by simp) ?_
  refine AllReadyH.cons rfl (fun K hK => ?_) AllReadyH.nil
  go_simp
  refine (known29_any _).mono ?_; rintro e u14 ⟨rfl, hb⟩; have HB214 := Lib.hid (to_ HB213.out hb); have HU := Lib.hid hb; clear hb
  try go_wp2_with fail
  refine hK.out _ _ (⟨cell_on hHeld.1 HU.out, cell_on hHeld.2.1 HU.out, cell_on hHeld.2.2.1 HU.out, cell_on hHeld.2.2.2.1 HU.out, cell_on hHeld.2.2.2.2 HU.out⟩) ?_
  clear hK K hHeld
  intro hHeld
  try simp only [Act.put, nmZ]
  refine tkZ 41 rfl hHeld ?_
  try simp only [Act.put, nmZ]
  refine tkZ 42 rfl hHeld ?_
  try simp only [Act.put, nmZ]
  refine wpAnyH_done (by kernel_rfl) ?_ _
  refine NoPanic.normal ?_
  go_wp2_with fail
  go_ret
  exact ⟨rfl, to_ HBW.out HB214.out⟩
end Go.Proofs.Ytbcabomblfehlab.Bo
