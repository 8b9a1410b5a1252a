/-
 WALKS of layer 29: Fns, Same: the document's.
-/
import Derived.Test.YtbcabomblfehlabZa
import Derived.Test.YtbcabomblfehlabUh
import Derived.Test.YtbcabomblfehlabUf
namespace Go.Proofs.Ytbcabomblfehlab.Bo
open Go.RowKit Go.Maps
open Mem Rf
set_option linter.unusedSimpArgs false
set_option linter.unusedVariables false
set_option maxRecDepth 100000 in
set_option maxHeartbeats 4000000 in
theorem same29_any (w : World) (A B : Option Addr) (n c d : Nat) (l : List F6) (hA : FL w A n c l) (hB : FL w B n d l) (hn : n ≤ 1000) :
  Calls Try.prog 17 #[.slice A n c, .slice B n d] w fun e w' => e = .returned (.bool true) ∧ Below w.heap.size w w' := by
 have HA := Lib.hid (fun W (hb : Below w.heap.size w W) i (hi : i < n) => fl_at (hA.on hb) hi)
 have HB := Lib.hid (fun W (hb : Below w.heap.size w W) i (hi : i < n) => fl_at (hB.on hb) hi)
 clear hA hB
 go_enter Try.func17, Try.ntmps17
 go_wp2_with fail
 go_loopw [5] (fun i wr => ∃ k : Nat, k ≤ n ∧ i = .int .i64 (k : Int) ∧ Below w.heap.size w wr) (fun i _ => n - (intOf i).toNat)
 case atStart => exact ⟨0, Nat.zero_le _, rfl, Below.refl _ _⟩
 case round =>
  obtain ⟨k, hk, rfl, hbel⟩ := hrel
  by_cases hlt : k < n
  ·have hI : (k : Int) < (n : Int) := by omega
   have hk0 : (0 : Int) ≤ (k : Int) := by omega
   obtain ⟨ad, a0, a1, a2, a3, a4, a5, rfl, h1, y0, y1, y2, y3, y4, y5⟩ := HA.out wr hbel k hlt
   obtain ⟨ae, b0, b1, b2, b3, b4, b5, rfl, h2, z0, z1, z2, z3, z4, z5⟩ := HB.out wr hbel k hlt
   rw [h1] at h2
   simp only [Option.some.injEq, F6.mk.injEq] at h2
   obtain ⟨rfl, rfl, rfl, rfl, rfl, rfl⟩ := h2
   have HBE := Lib.hid hbel
   clear h1 hbel
   go_wp2_with fail
   go_quiet (fail)
   go_wp2_with fail
   go_roundw
   case rel => exact ⟨k + 1, by omega, by go_num, below_drewN HBE.out _⟩
   case measure => simp [intOf]; omega
  ·obtain rfl : k = n := by omega
   go_wp2_with fail
   go_ret
   exact ⟨rfl, hbel⟩
set_option maxRecDepth 100000 in
set_option maxHeartbeats 8000000 in
theorem rfns_any (w : World) (P : Pgm) (p : Pn) (hr : RdF w w.heap.size P p) (hkk : ∀ a, a < P.fn → (gfAt P.fs a).F.kinds.2.1 ≤ 1000) :
  Calls Try.prog 19 #[pgV P, pnV p] w fun e w' => ∃ A c, e = .returned (.slice A (fnsL P p).length c) ∧ FL w' A (fnsL P p).length c (fnsL P p) ∧ Below w.heap.size w w' := by
 obtain ⟨iF, hiF, hzF0, hzF1, hzF2⟩ := info_split infoFn
 have hfn := hr.fn
 have HST := Lib.hid (fun W (hb : Below w.heap.size w W) k (hk : k ≤ P.fn) => rstart_any W P p ((hr.below hb).more hb.size) k hk)
 have HKE := Lib.hid (fun W (hb : Below w.heap.size w W) k => rkept_any W P p ⟨(hr.k.below hb).more hb.size, (hr.c.below hb).more hb.size⟩ hr.fn (k : Int))
 have HYE := Lib.hid (fun k (h : keptV P p ((k : Nat) : Int) = true) => told_take (s := szf P p) (szf_pos.2 h))
 have HNO := Lib.hid (fun k (h : keptV P p ((k : Nat) : Int) = false) => told_skip (s := szf P p) (k := k) (fun h2 => by rw [szf_pos.1 h2] at h; cases h))
 have HTN := Lib.hid (fun k => told_len (s := szf P p) (n := k))
 have HIN := Lib.hid (fun k hk => stV_in (f := 2) (szf_in (p := p) hr.cd) k hk)
 have HCE := Lib.hid (fun W (hb : Below w.heap.size w W) k (hk : k < P.fn) => fun_cells (hr.fr.below hb) hk)
 have HCD := Lib.hid hr.cd
 have HKK := Lib.hid hkk
 have HPUT := Lib.hid (fun pre x => @fnsL_put P p pre x)
 have HFO : Hid (∀ k, encF6 (fnO P p k) = [.int .i64 ((gfAt P.fs k).file : Int), .int .i64 ((gfAt P.fs k).item : Int), .int .i64 (stV (szf P p) 2 k), .int .i64 (stV (szf P p) 2 (k + 1) - ((gfAt P.fs k).F.code.2.1 : Int)), .int .i64 (stV (szf P p) 2 (k + 1)), .int .i64 (frV (gfAt P.fs k).F)]) := Lib.hid (fun k => rfl)
 have HOWN : Hid (∀ W B v, W.ownsRow B 44 6 v (told (szf P p) P.fn).length (((told (szf P p) P.fn).map (fnO P p)).flatMap encF6) → ∃ A c, v = .slice A (fnsL P p).length c ∧ FL W A (fnsL P p).length c (fnsL P p)) := Lib.hid (fun W B v h => wd_own encF6_len (l := fnsL P p) rfl (by unfold fnsL; rw [List.length_map]; exact h))
 obtain ⟨fo, hfo⟩ : ∃ fo, fnO P p = fo := ⟨_, rfl⟩
 rw [hfo] at HPUT HFO HOWN
 obtain ⟨fl, hfl⟩ : ∃ fl, fnsL P p = fl := ⟨_, rfl⟩
 rw [hfl] at HOWN ⊢
 obtain ⟨s, hs⟩ : ∃ s, szf P p = s := ⟨_, rfl⟩
 rw [hs] at HST HYE HNO HTN HIN HFO HOWN
 obtain ⟨kv, hkv⟩ : ∃ kv : Nat → Bool, (fun k : Nat => keptV P p (k : Int)) = kv := ⟨_, rfl⟩
 have HKV := Lib.hid (fun k => show keptV P p ((k : Nat) : Int) = kv k from by rw [← hkv])
 clear hfo hfl hs hr hkk hkv
 obtain ⟨fA, fn, fc, fs, dA, dn, dc, ds, en, cs⟩ := P
 obtain ⟨kA, kn, kc, ks, cA, cn, cc, cs2⟩ := p
 unfold pgV pnV at HST HKE ⊢
 dsimp only at HST HKE HYE HNO HTN HIN HCE HCD HKK HFO HOWN hfn ⊢
 have hbx := box2 w (.slice fA fn fc) (.slice dA dn dc) (.int .i64 en) (.slice kA kn kc) (.slice cA cn cc)
 obtain ⟨W0, hW0⟩ : ∃ W0, (w.alloc (.cells #[.slice fA fn fc, .slice dA dn dc, .int .i64 en] 30)).alloc (.cells #[.slice kA kn kc, .slice cA cn cc] 26) = W0 := ⟨_, rfl⟩
 have HB0 := Lib.hid (show Below w.heap.size w W0 from by rw [← hW0]; exact to_ (alloc_ _ _) (alloc_ _ _))
 rw [hW0] at hbx
 have HX := Lib.hid (fun W hb => box2_at hbx (W := W) hb)
 clear hbx
 go_enter Try.func19, Try.ntmps19
 go_wp2_with fail
 clear hW0
 go_loopw [5, 6] (fun v9 i9 wr => ∃ k : Nat, k ≤ fn ∧ i9 = .int .i64 (k : Int) ∧ Hid (wr.ownsRow W0.heap.size 44 6 v9 (told s k).length (((told s k).map fo).flatMap encF6)) ∧ Hid (Below W0.heap.size W0 wr)) (fun _ i9 _ => fn - (intOf i9).toNat)
 case atStart => exact ⟨0, Nat.zero_le _, rfl, Lib.hid (World.ownsRow_nil _ _ _ _), Lib.hid (Below.refl _ _)⟩
 case round =>
  obtain ⟨k, hk, rfl, HOW, HBE⟩ := hrel
  obtain ⟨x0, x1, x2, x3, x4⟩ := HX.out wr HBE.out
  by_cases hlt : k < fn
  ·have hkI : (k : Int) < (fn : Int) := by omega
   have hk0 : (0 : Int) ≤ (k : Int) := by omega
   have HC := Lib.hid (HKE.out wr (to_ HB0.out HBE.out) k)
   rw [HKV.out] at HC
   obtain ⟨b, hb⟩ : ∃ b, kv k = b := ⟨_, rfl⟩
   rw [hb] at HC
   cases b with
   | false =>
    have HT := Lib.hid (HNO.out k (by rw [HKV.out]; exact hb))
    clear hb
    go_wp2_with (go_at_call 26; refine HC.out.mono ?_; rintro e w2 ⟨rfl, b2⟩; have HB2 := Lib.hid b2; clear b2)
    go_roundw
    case rel => exact ⟨k + 1, by omega, by go_num, Lib.hid (by rw [HT.out]; exact own_keep1 HOW.out fun gg _ hgl _ => HB2.out.block gg hgl), Lib.hid (to_ HBE.out HB2.out)⟩
    case measure => simp [intOf]; omega
   | true =>
    have HT := Lib.hid (HYE.out k (by rw [HKV.out]; exact hb))
    clear hb
    have hin := HIN.out k (by omega)
    have hin2 := HIN.out (k + 1) (by omega)
    have hcd := HCD.out k hlt
    have hkk := HKK.out k hlt
    have hfo := HFO.out k
    have HLN := Lib.hid (HTN.out k)
    have HCX := Lib.hid (fun W hb => HCE.out W hb k hlt)
    obtain ⟨⟨fi, it, nm, ⟨cl, ⟨gA, gn, gc⟩, pd, no, fr, tt, ⟨lA, ln, lc⟩, ⟨oA, on, oc⟩, ⟨rA, rn, rc⟩⟩, ⟨qA, qn, qc⟩, zs⟩, hg⟩ : ∃ g, gfAt fs k = g := ⟨_, rfl⟩
    rw [hg] at hcd hkk hfo HCX
    dsimp only at hcd hkk hfo
    have HFR := Lib.hid (fun W => rframe_any ⟨cl, (gA, gn, gc), pd, no, fr, tt, (lA, ln, lc), (oA, on, oc), (rA, rn, rc)⟩ hkk W)
    unfold encFc slV at HFR
    dsimp only at HFR
    obtain ⟨frz, hfrz⟩ : ∃ z, frV ⟨cl, (gA, gn, gc), pd, no, fr, tt, (lA, ln, lc), (oA, on, oc), (rA, rn, rc)⟩ = z := ⟨_, rfl⟩
    rw [hfrz] at HFR hfo
    have HS0 := Lib.hid (fun W hb => HST.out W hb k (by omega))
    have HS1 := Lib.hid (fun W hb => HST.out W hb (k + 1) (by omega))
    obtain ⟨x9, hx9⟩ : ∃ z, stV s 2 k = z := ⟨_, rfl⟩
    obtain ⟨y9, hy9⟩ : ∃ z, stV s 2 (k + 1) = z := ⟨_, rfl⟩
    rw [hx9] at hin hfo HS0
    rw [hy9] at hin2 hfo HS1
    rw [show (((k + 1 : Nat)) : Int) = (k : Int) + 1 from by omega] at HS1
    have hsub : IntKind.i64.wrap (y9 - (on : Int)) = y9 - (on : Int) := IntWalk.i64_in _ (by omega)
    have hk1 : IntKind.i64.wrap ((k : Int) + 1) = (k : Int) + 1 := IntWalk.i64_in _ (by omega)
    have HFQ := Lib.hid (HPUT.out (told s k) k)
    rw [hfo] at HFQ
    obtain ⟨ad, hA⟩ : ∃ ad, fA = some ad := (HCX.out W0 HB0.out).elim fun ad h => ⟨ad, h.1⟩
    subst hA
    clear hin hin2 hcd hkk hfo hg hfrz hx9 hy9
    go_wp2_with (go_at_call 26; refine HC.out.mono ?_; rintro e w2 ⟨rfl, b2⟩; have HB2 := Lib.hid (to_ HBE.out b2); have HR2 := Lib.hid b2; clear b2 x0 x1 x2 x3 x4; obtain ⟨x0, x1, x2, x3, x4⟩ := HX.out w2 HB2.out; obtain ⟨ad2, hA2, hab, hce⟩ := HCX.out w2 (to_ HB0.out HB2.out); obtain rfl := Option.some.inj hA2; have k0 : w2.cell? (ad.add (k * 13)) = some (.int .i64 (fi : Int)) := (hce 0 _ rfl).1 rfl; have k1 : w2.cell? ⟨(ad.add (k * 13)).block, (ad.add (k * 13)).off + 1, none⟩ = some (.int .i64 (it : Int)) := (hce 1 _ rfl).2 (by omega); have k2 : w2.cell? ⟨(ad.add (k * 13)).block, (ad.add (k * 13)).off + 2, none⟩ = some (.string nm) := (hce 2 _ rfl).2 (by omega); have k3 : w2.cell? ⟨(ad.add (k * 13)).block, (ad.add (k * 13)).off + 3, none⟩ = some (.int .i64 cl) := (hce 3 _ rfl).2 (by omega); have k4 : w2.cell? ⟨(ad.add (k * 13)).block, (ad.add (k * 13)).off + 4, none⟩ = some (.slice gA gn gc) := (hce 4 _ rfl).2 (by omega); have k5 : w2.cell? ⟨(ad.add (k * 13)).block, (ad.add (k * 13)).off + 5, none⟩ = some (.int .i64 pd) := (hce 5 _ rfl).2 (by omega); have k6 : w2.cell? ⟨(ad.add (k * 13)).block, (ad.add (k * 13)).off + 6, none⟩ = some (.bool no) := (hce 6 _ rfl).2 (by omega); have k7 : w2.cell? ⟨(ad.add (k * 13)).block, (ad.add (k * 13)).off + 7, none⟩ = some (.int .i64 fr) := (hce 7 _ rfl).2 (by omega); have k8 : w2.cell? ⟨(ad.add (k * 13)).block, (ad.add (k * 13)).off + 8, none⟩ = some (.int .i64 tt) := (hce 8 _ rfl).2 (by omega); have k9 : w2.cell? ⟨(ad.add (k * 13)).block, (ad.add (k * 13)).off + 9, none⟩ = some (.slice lA ln lc) := (hce 9 _ rfl).2 (by omega); have k10 : w2.cell? ⟨(ad.add (k * 13)).block, (ad.add (k * 13)).off + 10, none⟩ = some (.slice oA on oc) := (hce 10 _ rfl).2 (by omega); have k11 : w2.cell? ⟨(ad.add (k * 13)).block, (ad.add (k * 13)).off + 11, none⟩ = some (.slice rA rn rc) := (hce 11 _ rfl).2 (by omega); have k12 : w2.cell? ⟨(ad.add (k * 13)).block, (ad.add (k * 13)).off + 12, none⟩ = some (.slice qA qn qc) := (hce 12 _ rfl).2 (by omega); obtain ⟨X1, hX1⟩ : ∃ X1, w2.alloc (.cells #[.int .i64 (fi : Int), .int .i64 (it : Int), .string nm, .int .i64 cl, .slice gA gn gc, .int .i64 pd, .bool no, .int .i64 fr, .int .i64 tt, .slice lA ln lc, .slice oA on oc, .slice rA rn rc, .slice qA qn qc] 75) = X1 := ⟨_, rfl⟩; have HSB : Hid (Blk X1 w2.heap.size 75 #[.int .i64 (fi : Int), .int .i64 (it : Int), .string nm, .int .i64 cl, .slice gA gn gc, .int .i64 pd, .bool no, .int .i64 fr, .int .i64 tt, .slice lA ln lc, .slice oA on oc, .slice rA rn rc, .slice qA qn qc]) := Lib.hid (by rw [← hX1]; exact Blk.new _ _ _); have HA1 := Lib.hid (show Below w2.heap.size w2 X1 from by rw [← hX1]; exact alloc_ _ _); obtain ⟨p0, p1, p2, p3, p4⟩ := HX.out X1 (to_ HB2.out HA1.out); clear hce hab hA2; go_wp2_with (go_at_call 27; refine (HS1.out X1 (to_ HB0.out (to_ HB2.out HA1.out))).mono ?_; rintro e w5 ⟨rfl, hb5⟩; have HB5 := Lib.hid hb5; clear hb5 x0 x1 x2 x3 x4 p0 p1 p2 p3 p4 k0 k1 k2 k3 k4 k5 k6 k7 k8 k9 k10 k11 k12 hX1))
    have HW5 := Lib.hid (to_ HB2.out (to_ HA1.out HB5.out))
    have HR5 := Lib.hid (to_ HR2.out (to_ HA1.out HB5.out))
    obtain ⟨q0, q1, q2, q3, q4⟩ := HX.out w5 HW5.out
    have HS5 := Lib.hid (HSB.out.below HB5.out HSB.out.lt)
    refine wp_region_noPanic ?_
    refine wp_region_held_drew (S := fun W => W.cell? ⟨w.heap.size, 0, none⟩ = some (.slice (some ad) fn fc) ∧ W.cell? ⟨w.heap.size, 1, none⟩ = some (.slice dA dn dc) ∧ W.cell? ⟨w.heap.size, 2, none⟩ = some (.int .i64 en) ∧ W.cell? ⟨w.heap.size + 1, 0, none⟩ = some (.slice kA kn kc) ∧ W.cell? ⟨w.heap.size + 1, 1, none⟩ = some (.slice cA cn cc) ∧ W.cell? ⟨w2.heap.size, 0, none⟩ = some (.int .i64 (fi : Int)) ∧ W.cell? ⟨w2.heap.size, 1, none⟩ = some (.int .i64 (it : Int)) ∧ W.cell? ⟨w2.heap.size, 2, none⟩ = some (.string nm) ∧ W.cell? ⟨w2.heap.size, 3, none⟩ = some (.int .i64 cl) ∧ W.cell? ⟨w2.heap.size, 4, none⟩ = some (.slice gA gn gc) ∧ W.cell? ⟨w2.heap.size, 5, none⟩ = some (.int .i64 pd) ∧ W.cell? ⟨w2.heap.size, 6, none⟩ = some (.bool no) ∧ W.cell? ⟨w2.heap.size, 7, none⟩ = some (.int .i64 fr) ∧ W.cell? ⟨w2.heap.size, 8, none⟩ = some (.int .i64 tt) ∧ W.cell? ⟨w2.heap.size, 9, none⟩ = some (.slice lA ln lc) ∧ W.cell? ⟨w2.heap.size, 10, none⟩ = some (.slice oA on oc) ∧ W.cell? ⟨w2.heap.size, 11, none⟩ = some (.slice rA rn rc)) (by kernel_rfl) (⟨q0, q1, q2, q3, q4, HS5.out.cell 0, HS5.out.cell 1, HS5.out.cell 2, HS5.out.cell 3, HS5.out.cell 4, HS5.out.cell 5, HS5.out.cell 6, HS5.out.cell 7, HS5.out.cell 8, HS5.out.cell 9, HS5.out.cell 10, HS5.out.cell 11⟩) (fun hHeld => ?_)
    clear q0 q1 q2 q3 q4
    refine tkZ 0 rfl hHeld ?_
    try simp only [Act.put, nmZ]
    refine tkZ 1 rfl hHeld ?_
    try simp only [Act.put, nmZ]
    refine tkZ 2 rfl hHeld ?_
    try simp only [Act.put, nmZ]
    refine tkZ 3 rfl hHeld ?_
    try simp only [Act.put, nmZ]
    refine tkZ 4 rfl hHeld ?_
    try simp only [Act.put, nmZ]
    refine tkZ 5 rfl hHeld ?_
    try simp only [Act.put, nmZ]
    refine tkZ 6 rfl hHeld ?_
    try simp only [Act.put, nmZ]
    refine tkZ 7 rfl hHeld ?_
    try simp only [Act.put, nmZ]
    refine tkZ 9 rfl hHeld ?_
    try simp only [Act.put, nmZ]
    refine tkZ 10 rfl hHeld ?_
    try simp only [Act.put, nmZ]
    refine tkZ 11 rfl hHeld ?_
    try simp only [Act.put, nmZ]
    refine tkZ 12 rfl hHeld ?_
    try simp only [Act.put, nmZ]
    refine tkZ 13 rfl hHeld ?_
    try simp only [Act.put, nmZ]
    refine tkZ 14 rfl hHeld ?_
    try simp only [Act.put, nmZ]
    refine tkZ 15 rfl hHeld ?_
    try simp only [Act.put, nmZ]
    refine tkZ 16 rfl hHeld ?_
    try simp only [Act.put, nmZ]
    refine tkZ 17 rfl hHeld ?_
    try simp only [Act.put, nmZ]
    refine wpAnyH_ready (rs := [8]) (by kernel_rfl) (by simp) ?_
    refine AllReadyH.cons rfl (fun K hK => ?_) AllReadyH.nil
    go_simp
    refine (HS0.out _ (to_ HB0.out HW5.out).drew).mono ?_; rintro e w6 ⟨rfl, hb6⟩; have HU := Lib.hid hb6; clear hb6
    try go_wp2_with fail
    refine hK.out _ _ (⟨cell_on hHeld.1 HU.out, cell_on hHeld.2.1 HU.out, cell_on hHeld.2.2.1 HU.out, cell_on hHeld.2.2.2.1 HU.out, cell_on hHeld.2.2.2.2.1 HU.out, cell_on hHeld.2.2.2.2.2.1 HU.out, cell_on hHeld.2.2.2.2.2.2.1 HU.out, cell_on hHeld.2.2.2.2.2.2.2.1 HU.out, cell_on hHeld.2.2.2.2.2.2.2.2.1 HU.out, cell_on hHeld.2.2.2.2.2.2.2.2.2.1 HU.out, cell_on hHeld.2.2.2.2.2.2.2.2.2.2.1 HU.out, cell_on hHeld.2.2.2.2.2.2.2.2.2.2.2.1 HU.out, cell_on hHeld.2.2.2.2.2.2.2.2.2.2.2.2.1 HU.out, cell_on hHeld.2.2.2.2.2.2.2.2.2.2.2.2.2.1 HU.out, cell_on hHeld.2.2.2.2.2.2.2.2.2.2.2.2.2.2.1 HU.out, cell_on hHeld.2.2.2.2.2.2.2.2.2.2.2.2.2.2.2.1 HU.out, cell_on hHeld.2.2.2.2.2.2.2.2.2.2.2.2.2.2.2.2 HU.out⟩) ?_
    clear hK K hHeld
    intro hHeld
    try simp only [Act.put, nmZ]
    refine wpAnyH_ready (rs := [18]) (by kernel_rfl) (by simp) ?_
    refine AllReadyH.cons rfl (fun K hK => ?_) AllReadyH.nil
    go_simp
    refine (HFR.out _).mono ?_; rintro e w7 ⟨rfl, hb7⟩; have HU7 := Lib.hid hb7; clear hb7
    try go_wp2_with fail
    refine hK.out _ _ (⟨cell_on hHeld.1 HU7.out, cell_on hHeld.2.1 HU7.out, cell_on hHeld.2.2.1 HU7.out, cell_on hHeld.2.2.2.1 HU7.out, cell_on hHeld.2.2.2.2.1 HU7.out, cell_on hHeld.2.2.2.2.2.1 HU7.out, cell_on hHeld.2.2.2.2.2.2.1 HU7.out, cell_on hHeld.2.2.2.2.2.2.2.1 HU7.out, cell_on hHeld.2.2.2.2.2.2.2.2.1 HU7.out, cell_on hHeld.2.2.2.2.2.2.2.2.2.1 HU7.out, cell_on hHeld.2.2.2.2.2.2.2.2.2.2.1 HU7.out, cell_on hHeld.2.2.2.2.2.2.2.2.2.2.2.1 HU7.out, cell_on hHeld.2.2.2.2.2.2.2.2.2.2.2.2.1 HU7.out, cell_on hHeld.2.2.2.2.2.2.2.2.2.2.2.2.2.1 HU7.out, cell_on hHeld.2.2.2.2.2.2.2.2.2.2.2.2.2.2.1 HU7.out, cell_on hHeld.2.2.2.2.2.2.2.2.2.2.2.2.2.2.2.1 HU7.out, cell_on hHeld.2.2.2.2.2.2.2.2.2.2.2.2.2.2.2.2 HU7.out⟩) ?_
    clear hK K hHeld
    intro hHeld
    try simp only [Act.put, nmZ]
    refine tkZ 19 rfl hHeld ?_
    try simp only [Act.put, nmZ]
    refine wpAnyH_ready (rs := [20]) (by kernel_rfl) (by simp) ?_
    refine AllReadyH.cons rfl (fun K hK => ?_) AllReadyH.nil
    go_simp
    have HN9 := Lib.hid (alloc_ w7 (.cells #[.int .i64 (fi : Int), .int .i64 (it : Int), .int .i64 x9, .int .i64 (y9 - (on : Int)), .int .i64 y9, .int .i64 frz] 44))
    refine hK.out _ _ (⟨cell_on hHeld.1 HN9.out, cell_on hHeld.2.1 HN9.out, cell_on hHeld.2.2.1 HN9.out, cell_on hHeld.2.2.2.1 HN9.out, cell_on hHeld.2.2.2.2.1 HN9.out, cell_on hHeld.2.2.2.2.2.1 HN9.out, cell_on hHeld.2.2.2.2.2.2.1 HN9.out, cell_on hHeld.2.2.2.2.2.2.2.1 HN9.out, cell_on hHeld.2.2.2.2.2.2.2.2.1 HN9.out, cell_on hHeld.2.2.2.2.2.2.2.2.2.1 HN9.out, cell_on hHeld.2.2.2.2.2.2.2.2.2.2.1 HN9.out, cell_on hHeld.2.2.2.2.2.2.2.2.2.2.2.1 HN9.out, cell_on hHeld.2.2.2.2.2.2.2.2.2.2.2.2.1 HN9.out, cell_on hHeld.2.2.2.2.2.2.2.2.2.2.2.2.2.1 HN9.out, cell_on hHeld.2.2.2.2.2.2.2.2.2.2.2.2.2.2.1 HN9.out, cell_on hHeld.2.2.2.2.2.2.2.2.2.2.2.2.2.2.2.1 HN9.out, cell_on hHeld.2.2.2.2.2.2.2.2.2.2.2.2.2.2.2.2 HN9.out⟩) ?_
    clear hK K hHeld
    intro hHeld
    try simp only [Act.put, nmZ]
    refine wpAnyH_ready (rs := [21]) (by kernel_rfl) (by simp) ?_
    refine AllReadyH.cons rfl (fun K hK => ?_) AllReadyH.nil
    have KH := hHeld
    have HR7 := Lib.hid (show Below wr.heap.size wr w7 from to_ HR5.out.drew (to_ HU.out HU7.out))
    have HB7 := Lib.hid (show Below W0.heap.size W0 w7 from to_ HBE.out HR7.out)
    refine step_append_own rfl _ _ 40 rfl W0.heap.size 44 iF (.agg #[.int .i64 0, .int .i64 0, .int .i64 0, .int .i64 0, .int .i64 0, .int .i64 0]) 6 48 Try.underlying40 hiF hzF0 hzF1 hzF2 rfl (by decide) _ (told s k).length (((told s k).map fo).flatMap encF6) rfl (own_on HOW.out (to_ HR7.out (alloc_ _ _))) ⟨w7.heap.size, 0, none⟩ 1 [.int .i64 (fi : Int), .int .i64 (it : Int), .int .i64 x9, .int .i64 (y9 - (on : Int)), .int .i64 y9, .int .i64 frz] rfl rfl (cells_new w7 _ _) (by simp [Value.oneCell']) (by unfold maxLen; have := HLN.out; omega) (by have := HLN.out; omega) (by have := HB7.out.size; simp; omega) ?_
    intro v' w8 h2 h3
    have hno5 : ∀ b, b < W0.heap.size → _ ≠ some b := fun b hb => own_ne HOW.out hb
    have hnoS := blk_not HS5.out (own_on HOW.out HR5.out) (by decide)
    have hs00 : w.heap.size + 2 ≤ W0.heap.size := by have h1 := (HX.out W0 (Below.refl _ _)).2.2.2.1; have h2 : w.heap.size + 1 < W0.heap.size := World.block_lt_of_cell? W0 _ h1; omega
    have h6 : w8.cell? ⟨w.heap.size, 0, none⟩ = some (.slice (some ad) fn fc) ∧ w8.cell? ⟨w.heap.size, 1, none⟩ = some (.slice dA dn dc) ∧ w8.cell? ⟨w.heap.size, 2, none⟩ = some (.int .i64 en) ∧ w8.cell? ⟨w.heap.size + 1, 0, none⟩ = some (.slice kA kn kc) ∧ w8.cell? ⟨w.heap.size + 1, 1, none⟩ = some (.slice cA cn cc) ∧ w8.cell? ⟨w2.heap.size, 0, none⟩ = some (.int .i64 (fi : Int)) ∧ w8.cell? ⟨w2.heap.size, 1, none⟩ = some (.int .i64 (it : Int)) ∧ w8.cell? ⟨w2.heap.size, 2, none⟩ = some (.string nm) ∧ w8.cell? ⟨w2.heap.size, 3, none⟩ = some (.int .i64 cl) ∧ w8.cell? ⟨w2.heap.size, 4, none⟩ = some (.slice gA gn gc) ∧ w8.cell? ⟨w2.heap.size, 5, none⟩ = some (.int .i64 pd) ∧ w8.cell? ⟨w2.heap.size, 6, none⟩ = some (.bool no) ∧ w8.cell? ⟨w2.heap.size, 7, none⟩ = some (.int .i64 fr) ∧ w8.cell? ⟨w2.heap.size, 8, none⟩ = some (.int .i64 tt) ∧ w8.cell? ⟨w2.heap.size, 9, none⟩ = some (.slice lA ln lc) ∧ w8.cell? ⟨w2.heap.size, 10, none⟩ = some (.slice oA on oc) ∧ w8.cell? ⟨w2.heap.size, 11, none⟩ = some (.slice rA rn rc) := ⟨cell_step KH.1 h3 (hno5 _ (by show w.heap.size < W0.heap.size; omega)), cell_step KH.2.1 h3 (hno5 _ (by show w.heap.size < W0.heap.size; omega)), cell_step KH.2.2.1 h3 (hno5 _ (by show w.heap.size < W0.heap.size; omega)), cell_step KH.2.2.2.1 h3 (hno5 _ (by show w.heap.size + 1 < W0.heap.size; omega)), cell_step KH.2.2.2.2.1 h3 (hno5 _ (by show w.heap.size + 1 < W0.heap.size; omega)), cell_step KH.2.2.2.2.2.1 h3 hnoS, cell_step KH.2.2.2.2.2.2.1 h3 hnoS, cell_step KH.2.2.2.2.2.2.2.1 h3 hnoS, cell_step KH.2.2.2.2.2.2.2.2.1 h3 hnoS, cell_step KH.2.2.2.2.2.2.2.2.2.1 h3 hnoS, cell_step KH.2.2.2.2.2.2.2.2.2.2.1 h3 hnoS, cell_step KH.2.2.2.2.2.2.2.2.2.2.2.1 h3 hnoS, cell_step KH.2.2.2.2.2.2.2.2.2.2.2.2.1 h3 hnoS, cell_step KH.2.2.2.2.2.2.2.2.2.2.2.2.2.1 h3 hnoS, cell_step KH.2.2.2.2.2.2.2.2.2.2.2.2.2.2.1 h3 hnoS, cell_step KH.2.2.2.2.2.2.2.2.2.2.2.2.2.2.2.1 h3 hnoS, cell_step KH.2.2.2.2.2.2.2.2.2.2.2.2.2.2.2.2 h3 hnoS⟩
    have H2 := Lib.hid h2
    have H3 := Lib.hid h3
    clear h2 h3 KH hno5 hnoS
    refine hK.out _ _ (h6) ?_
    clear hK K hHeld
    intro hHeld
    try simp only [Act.put, nmZ]
    clear h6
    refine tkZ 22 rfl hHeld ?_
    try simp only [Act.put, nmZ]
    refine wpAnyH_done (by kernel_rfl) ?_ _
    refine NoPanic.normal ?_
    go_wp2_with fail
    go_roundw
    case rel => exact ⟨k + 1, by omega, by go_num, Lib.hid (by rw [HT.out, HFQ.out, List.length_append]; exact H2.out), Lib.hid ((to_ HB7.out (alloc_ _ _)).grown H3.out (to_ HB7.out (alloc_ _ _)).size fun r e => (HOW.out.lt r e).1)⟩
    case measure => simp [intOf]; omega
  ·obtain rfl : k = fn := by omega
   obtain ⟨A, c, rfl, hil⟩ := HOWN.out wr _ _ HOW.out
   have HIL := Lib.hid hil
   clear hil
   go_wp2_with fail
   go_ret
   exact ⟨A, c, rfl, HIL.out, to_ HB0.out HBE.out⟩
end Go.Proofs.Ytbcabomblfehlab.Bo
