/-
  WALK of layer 28's law: ProloguePlans.
-/
import Derived.Test.YtnenmgefgdpkdaaTk
import Derived.Test.YtnenmgefgdpkdaaTm
import Derived.Test.YtnenmgefgdpkdaaTc
namespace Go.Proofs.Ytnenmgefgdpkdaa.Bo
open Go.RowKit Go.Maps
open Mem Rf
set_option linter.unusedSimpArgs false
set_option linter.unusedVariables false

theorem FnI.on {w w' : World} {F : Fc} {x : By.Fn} (h : FnI w F x) (hb : Below w.heap.size w w') : FnI w' F x := ⟨h.fw.on hb, h.hk, h.hpd, h.hns, h.hf, h.ht, h.bd, h.wf⟩
theorem DtI.on {w w' : World} {D : Dc} {ws : List Int} {rs : List By.Rl} (h : DtI w D ws rs) (hb : Below w.heap.size w w') : DtI w' D ws rs := ⟨h.hw.on hb, h.hl, h.hr.on hb, h.bd⟩
theorem ObI.on {w w' : World} {o : Oj} {xs : Nat → By.Fn} {ws : Nat → List Int} {rs : Nat → List By.Rl} (h : ObI w o xs ws rs) (hb : Below w.heap.size w w') : ObI w' o xs ws rs := ⟨h.mem.on hb, h.kinds, fun k hk => (h.fns k hk).on hb, fun k hk => (h.dats k hk).on hb⟩
theorem OjsI.on {w w' : World} {A : Option Addr} {n c : Nat} {os : List Oj} {xs : Nat → Nat → By.Fn} {ws : Nat → Nat → List Int} {rs : Nat → Nat → List By.Rl} (h : OjsI w A n c os xs ws rs) (hb : Below w.heap.size w w') : OjsI w' A n c os xs ws rs := ⟨h.mem.on hb, fun i hi => (h.each i hi).on hb⟩

set_option maxRecDepth 100000 in
set_option maxHeartbeats 8000000 in
theorem plans28_any (w : World) (A : Option Addr) (n c : Nat) (os : List Oj) (xs : Nat → Nat → By.Fn) (ws : Nat → Nat → List Int) (rs : Nat → Nat → List By.Rl) (h : OjsI w A n c os xs ws rs)
    (xA yA : Option Addr) (xn xc yn yc : Nat) (xl yl : List Bool) (hx : BL w xA xn xc xl) (hy : BL w yA yn yc yl) (p : Pn) (hp : PnR w p) (i : Int) :
    Calls Try.prog 4 #[.slice A n c, .slice xA xn xc, .slice yA yn yc, pnV p, .int .i64 i] w fun e w' => e = .returned (.bool true) ∧ Below w.heap.size w w' := by
  have HFEW := Lib.hid (fun W (hb : Below w.heap.size w W) => few_in (h.on hb))
  have HX := Lib.hid (fun W (hb : Below w.heap.size w W) => hx.on hb)
  have HY := Lib.hid (fun W (hb : Below w.heap.size w W) => hy.on hb)
  have hxn := hx.few
  have hyn := hy.few
  have hkn := hp.k.few
  have hcn := hp.c.few
  have HPN := Lib.hid (fun W (hb : Below w.heap.size w W) => hp.on hb)
  clear h hx hy hp
  obtain ⟨kA, kn, kc, ks, cA, cn, cc, cl⟩ := p
  unfold pnV
  dsimp only at HPN hkn hcn ⊢
  obtain ⟨W0, hW0⟩ : ∃ W0, w.alloc (.cells #[.slice kA kn kc, .slice cA cn cc] 29) = W0 := ⟨_, rfl⟩
  have HB0 := Lib.hid (show Below w.heap.size w W0 from by rw [← hW0]; exact alloc_ _ _)
  have HPB := Lib.hid (show Blk W0 w.heap.size 29 #[.slice kA kn kc, .slice cA cn cc] from by rw [← hW0]; exact Blk.new _ _ _)
  by_cases g1 : 60 < xn ∨ 60 < yn ∨ 60 < kn ∨ 60 < cn
  · have HX9 : ∀ W, Below W0.heap.size W0 W → W.cell? ⟨w.heap.size, 0, none⟩ = some (.slice kA kn kc) ∧ W.cell? ⟨w.heap.size, 1, none⟩ = some (.slice cA cn cc) := fun W hb => ⟨(HPB.out.below hb HPB.out.lt).cell 0, (HPB.out.below hb HPB.out.lt).cell 1⟩
    have HX9 := Lib.hid HX9
    have d1 : ∃ b1 b2 b3 b4 : Bool, decide ((60 : Int) < (xn : Int)) = b1 ∧ decide ((60 : Int) < (yn : Int)) = b2 ∧ decide ((60 : Int) < (kn : Int)) = b3 ∧ decide ((60 : Int) < (cn : Int)) = b4 ∧ (b1 || b2 || b3 || b4) = true := by
      refine ⟨_, _, _, _, rfl, rfl, rfl, rfl, ?_⟩
      simp
      omega
    clear g1
    obtain ⟨b1, b2, b3, b4, e1, e2, e3, e4, e5⟩ := d1
    cases b1 <;> cases b2 <;> cases b3 <;> cases b4 <;> first
      | (exfalso; revert e5; decide)
      | (clear e5
         go_enter Try.func4, Try.ntmps4
         go_wp2_with (go_at_call 13; refine (HFEW.out W0 HB0.out).mono ?_; rintro e w2 ⟨⟨b, rfl, -⟩, hb2⟩; have HB2 := Lib.hid hb2; have q9 := HX9.out w2 hb2; obtain ⟨q0, q1⟩ := q9; clear hb2; cases b)
         · go_wp2_with (go_at_call 12; refine (known28_any _).mono ?_; rintro e w7 ⟨rfl, hb7⟩; have HB7 := Lib.hid hb7; clear hb7)
           go_ret
           exact ⟨rfl, to_ HB0.out (to_ HB2.out HB7.out)⟩
         · go_wp2_with (go_at_call 12; refine (known28_any _).mono ?_; rintro e w7 ⟨rfl, hb7⟩; have HB7 := Lib.hid hb7; clear hb7)
           go_ret
           exact ⟨rfl, to_ HB0.out (to_ HB2.out HB7.out)⟩)
  · have e1 : ¬ (60 : Int) < (xn : Int) := by omega
    have e2 : ¬ (60 : Int) < (yn : Int) := by omega
    have e3 : ¬ (60 : Int) < (kn : Int) := by omega
    have e4 : ¬ (60 : Int) < (cn : Int) := by omega
    have HN6 := Lib.hid (show xn ≤ 60 ∧ yn ≤ 60 ∧ kn ≤ 60 ∧ cn ≤ 60 by omega)
    clear g1
    have HX9 := Lib.hid (show ∀ W, Below W0.heap.size W0 W → W.cell? ⟨w.heap.size, 0, none⟩ = some (.slice kA kn kc) ∧ W.cell? ⟨w.heap.size, 1, none⟩ = some (.slice cA cn cc) from fun W hb => ⟨(HPB.out.below hb HPB.out.lt).cell 0, (HPB.out.below hb HPB.out.lt).cell 1⟩)
    go_enter Try.func4, Try.ntmps4
    go_wp2_with (go_at_call 13; refine (HFEW.out W0 HB0.out).mono ?_; rintro e w2 ⟨⟨b, rfl, hj⟩, hb2⟩; have HJ := Lib.hid hj; have HB2 := Lib.hid hb2; have q9 := HX9.out w2 hb2; obtain ⟨q0, q1⟩ := q9; clear hb2 hj hW0; cases b)
    · go_wp2_with (go_at_call 12; refine (known28_any _).mono ?_; rintro e w7 ⟨rfl, hb7⟩; have HB7 := Lib.hid hb7; clear hb7)
      go_ret
      exact ⟨rfl, to_ HB0.out (to_ HB2.out HB7.out)⟩
    · have HJ2 := Lib.hid (HJ.out (by trivial))
      clear HJ
      go_wp2_with (go_at_call 14; refine (bind_in (HJ2.out.on HB2.out) _).mono ?_; rintro e w3 ⟨P, r1, r2, r3, rfl, hpl, hb3, -⟩; have HPL := Lib.hid hpl; have HB3 := Lib.hid hb3; clear hpl hb3 q0 q1; obtain ⟨fA, fn, fc, fs, dA, dn, dc, ds, en, cs⟩ := P; unfold pgV; dsimp only; go_wp2_with (go_at_call 15; obtain ⟨W4, hW4⟩ : ∃ x, (w3.alloc (.cells #[.slice fA fn fc, .slice dA dn dc, .int .i64 en] 34)).alloc (.cells #[.int .i64 r1, .int .i64 r2, .int .i64 r3] 37) = x := ⟨_, rfl⟩; rw [hW4]; have HW4 := Lib.hid (show Below w3.heap.size w3 W4 from by rw [← hW4]; exact to_ (alloc_ _ _) (alloc_ _ _)); have HPX := Lib.hid (show Blk W4 w3.heap.size 34 #[.slice fA fn fc, .slice dA dn dc, .int .i64 en] from by rw [← hW4]; exact blk2.1); clear hW4; have HPL4 := Lib.hid (HPL.out.on HW4.out); refine (few25_any W4 ⟨fA, fn, fc, fs, dA, dn, dc, ds, en, cs⟩ HPL4.out.fr HPL4.out.dr).mono ?_; rintro e w4 ⟨b2, rfl, hb4, hfe⟩; have HB4 := Lib.hid hb4; have HFE := Lib.hid hfe; clear hb4 hfe; cases b2))
      · go_wp2_with (go_at_call 12; refine (known28_any _).mono ?_; rintro e w7 ⟨rfl, hb7⟩; have HB7 := Lib.hid hb7; clear hb7)
        go_ret
        exact ⟨rfl, to_ HB0.out (to_ HB2.out (to_ HB3.out (to_ HW4.out (to_ HB4.out HB7.out))))⟩
      · have HFE9 := Lib.hid (HFE.out (by trivial))
        have HRP := Lib.hid (fun W (hb : Below w4.heap.size w4 W) => (HPL4.out.rd HFE9.out).on (to_ HB4.out hb))
        have HBW := Lib.hid (show Below w.heap.size w w4 from to_ HB0.out (to_ HB2.out (to_ HB3.out (to_ HW4.out HB4.out))))
        have HFN := Lib.hid (show fn ≤ 24 from HFE9.out.2.2.1)
        have hfn9 : (⟨fA, fn, fc, fs, dA, dn, dc, ds, en, cs⟩ : Pgm).fn ≤ 1000 := by show fn ≤ 1000; have := HFN.out; omega
        have hkk9 : ∀ a, a < (⟨fA, fn, fc, fs, dA, dn, dc, ds, en, cs⟩ : Pgm).fn → (gfAt (⟨fA, fn, fc, fs, dA, dn, dc, ds, en, cs⟩ : Pgm).fs a).F.kinds.2.1 ≤ 1000 := fun a ha => by have h9 : fewG (gfAt fs a) := HFE9.out.1 a ha; unfold fewG at h9; show (gfAt fs a).F.kinds.2.1 ≤ 1000; omega
        have hcd9 : ∀ a, a < (⟨fA, fn, fc, fs, dA, dn, dc, ds, en, cs⟩ : Pgm).fn → (gfAt (⟨fA, fn, fc, fs, dA, dn, dc, ds, en, cs⟩ : Pgm).fs a).F.code.2.1 ≤ 1000 := fun a ha => by have h9 : fewG (gfAt fs a) := HFE9.out.1 a ha; unfold fewG at h9; show (gfAt fs a).F.code.2.1 ≤ 1000; omega
        have HFU := Lib.hid (fun W (hb : Below w4.heap.size w4 W) => full_any W ⟨fA, fn, fc, fs, dA, dn, dc, ds, en, cs⟩ (HRP.out W hb).fr hfn9)
        have HRF := Lib.hid (fun W (hb : Below w4.heap.size w4 W) => rfull_any W ⟨fA, fn, fc, fs, dA, dn, dc, ds, en, cs⟩ (HRP.out W hb).fr hfn9)
        have HLE := Lib.hid (fun W (hb : Below w4.heap.size w4 W) => lean_any W ⟨fA, fn, fc, fs, dA, dn, dc, ds, en, cs⟩ (HRP.out W hb).fr hfn9 hkk9 xA yA xn xc yn yc xl yl (HX.out W (to_ HBW.out hb)) (HY.out W (to_ HBW.out hb)))
        have HRL := Lib.hid (fun W (hb : Below w4.heap.size w4 W) => rlean_any W ⟨fA, fn, fc, fs, dA, dn, dc, ds, en, cs⟩ (HRP.out W hb).fr hfn9 hkk9 xA yA xn xc yn yc xl yl (HX.out W (to_ HBW.out hb)) (HY.out W (to_ HBW.out hb)))
        have HSZ := Lib.hid (fun W (hb : Below w4.heap.size w4 W) => size_any W ⟨fA, fn, fc, fs, dA, dn, dc, ds, en, cs⟩ (HRP.out W hb).fr hfn9 hcd9 ⟨kA, kn, kc, ks, cA, cn, cc, cl⟩ (HPN.out W (to_ HBW.out hb)) i)
        have HRS := Lib.hid (fun W (hb : Below w4.heap.size w4 W) => rsize_any W ⟨fA, fn, fc, fs, dA, dn, dc, ds, en, cs⟩ (HRP.out W hb).fr hfn9 hcd9 ⟨kA, kn, kc, ks, cA, cn, cc, cl⟩ (HPN.out W (to_ HBW.out hb)) i)
        obtain ⟨z, hz⟩ : ∃ z, sizeV ⟨fA, fn, fc, fs, dA, dn, dc, ds, en, cs⟩ ⟨kA, kn, kc, ks, cA, cn, cc, cl⟩ i = z := ⟨_, rfl⟩
        rw [hz] at HSZ HRS
        unfold pgV at HFU HRF HLE HRL HSZ HRS
        unfold pnV at HSZ HRS
        dsimp only at HFU HRF HLE HRL HSZ HRS
        obtain ⟨f1, hf1⟩ : ∃ x, kpAll = x := ⟨_, rfl⟩
        obtain ⟨f2, hf2⟩ : ∃ x, ckFull ⟨fA, fn, fc, fs, dA, dn, dc, ds, en, cs⟩ = x := ⟨_, rfl⟩
        obtain ⟨f3, hf3⟩ : ∃ x, kpOf xl = x := ⟨_, rfl⟩
        obtain ⟨f4, hf4⟩ : ∃ x, ckLean ⟨fA, fn, fc, fs, dA, dn, dc, ds, en, cs⟩ yl = x := ⟨_, rfl⟩
        rw [hf1, hf2] at HFU HRF
        rw [hf3, hf4] at HLE HRL
        clear hz hf1 hf2 hf3 hf4 hfn9 hkk9 hcd9 HFE
        have hzz : (z == z) = true := by simp
        have b0 : w4.cell? ⟨w3.heap.size, 0, none⟩ = some (.slice fA fn fc) := (HPX.out.below HB4.out HPX.out.lt).cell 0
        have b1 : w4.cell? ⟨w3.heap.size, 1, none⟩ = some (.slice dA dn dc) := (HPX.out.below HB4.out HPX.out.lt).cell 1
        have b2 : w4.cell? ⟨w3.heap.size, 2, none⟩ = some (.int .i64 en) := (HPX.out.below HB4.out HPX.out.lt).cell 2
        obtain ⟨q0, q1⟩ := HX9.out w4 (to_ HB2.out (to_ HB3.out (to_ HW4.out HB4.out)))
        refine wp_region_noPanic ?_
        refine wp_region_held_drew (S := fun W => W.cell? ⟨w3.heap.size, 0, none⟩ = some (.slice fA fn fc) ∧ W.cell? ⟨w3.heap.size, 1, none⟩ = some (.slice dA dn dc) ∧ W.cell? ⟨w3.heap.size, 2, none⟩ = some (.int .i64 en) ∧ W.cell? ⟨w.heap.size, 0, none⟩ = some (.slice kA kn kc) ∧ W.cell? ⟨w.heap.size, 1, none⟩ = some (.slice cA cn cc)) (by kernel_rfl) (⟨b0, b1, b2, q0, q1⟩) (fun hHeld => ?_)
        refine wpAnyH_take (i := 0) rfl (by kernel_rfl) (by kernel_rfl) (by kernel_rfl) (fun _ _ _ h => h) (Or.inl ⟨by rfl, by intro W hSW; (try dsimp only at hSW); go_simp; try (with_reducible rfl)⟩) hHeld ?_
        try simp only [Act.put, List.getElem_toArray, List.getElem_cons_zero, List.getElem_cons_succ, List.setIfInBounds_toArray, List.set_cons_zero, List.set_cons_succ]
        refine wpAnyH_take (i := 2) rfl (by kernel_rfl) (by kernel_rfl) (by kernel_rfl) (fun _ _ _ h => h) (Or.inl ⟨by rfl, by intro W hSW; (try dsimp only at hSW); go_simp; try (with_reducible rfl)⟩) hHeld ?_
        try simp only [Act.put, List.getElem_toArray, List.getElem_cons_zero, List.getElem_cons_succ, List.setIfInBounds_toArray, List.set_cons_zero, List.set_cons_succ]
        refine wpAnyH_ready (rs := [1]) (by kernel_rfl) (by simp) ?_
        refine AllReadyH.cons rfl (fun K hK => ?_) AllReadyH.nil
        go_simp
        refine (HFU.out _ (Below.refl _ _).drew).mono ?_; rintro e u1 ⟨⟨A1, n1, c1, l1, B1, m1, d1, k1⟩, rfl, hr, hk, hc, hb⟩; have HB21 := Lib.hid (to_ (Below.refl _ _).drew hb); have HR1 := Lib.hid hr; have HK1 := Lib.hid hk; have HC1 := Lib.hid hc; have HU := Lib.hid hb; clear hr hk hc hb; unfold pnV; dsimp only
        try go_wp2_with fail
        refine hK.out _ _ (⟨cell_on hHeld.1 HU.out, cell_on hHeld.2.1 HU.out, cell_on hHeld.2.2.1 HU.out, cell_on hHeld.2.2.2.1 HU.out, cell_on hHeld.2.2.2.2 HU.out⟩) ?_
        clear hK K hHeld
        intro hHeld
        try simp only [Act.put, List.getElem_toArray, List.getElem_cons_zero, List.getElem_cons_succ, List.setIfInBounds_toArray, List.set_cons_zero, List.set_cons_succ]
        refine wpAnyH_ready (rs := [3]) (by kernel_rfl) (by simp) ?_
        refine AllReadyH.cons rfl (fun K hK => ?_) AllReadyH.nil
        go_simp
        refine (HRF.out _ HB21.out).mono ?_; rintro e u2 ⟨⟨A2, n2, c2, l2, B2, m2, d2, k2⟩, rfl, hr, hk, hc, hb⟩; have HB22 := Lib.hid (to_ HB21.out hb); have HR2 := Lib.hid hr; have HK2 := Lib.hid hk; have HC2 := Lib.hid hc; have HU := Lib.hid hb; clear hr hk hc hb; unfold pnV; dsimp only
        try go_wp2_with fail
        refine hK.out _ _ (⟨cell_on hHeld.1 HU.out, cell_on hHeld.2.1 HU.out, cell_on hHeld.2.2.1 HU.out, cell_on hHeld.2.2.2.1 HU.out, cell_on hHeld.2.2.2.2 HU.out⟩) ?_
        clear hK K hHeld
        intro hHeld
        try simp only [Act.put, List.getElem_toArray, List.getElem_cons_zero, List.getElem_cons_succ, List.setIfInBounds_toArray, List.set_cons_zero, List.set_cons_succ]
        refine wpAnyH_ready (rs := [4]) (by kernel_rfl) (by simp) ?_
        refine AllReadyH.cons rfl (fun K hK => ?_) AllReadyH.nil
        go_simp
        have hn1 := HR1.out.k.1; rw [HK1.out, List.length_map, List.length_range] at hn1; have hm1 := HR1.out.c.1; rw [HC1.out, List.length_map, List.length_range] at hm1; dsimp only at hn1 hm1; have HNM := Lib.hid (show n1 ≤ 1000 ∧ m1 ≤ 1000 from by have := HFN.out; omega); clear hn1 hm1; refine (same28_any _ ⟨A1, n1, c1, l1, B1, m1, d1, k1⟩ ⟨A2, n2, c2, l2, B2, m2, d2, k2⟩ (HR1.out.on HU.out) HR2.out (HK1.out.trans HK2.out.symm) (HC1.out.trans HC2.out.symm) HNM.out.1 HNM.out.2).mono ?_; rintro e u3 ⟨rfl, hb⟩; have HB23 := Lib.hid (to_ HB22.out hb); have HU := Lib.hid hb; clear hb
        try go_wp2_with fail
        refine hK.out _ _ (⟨cell_on hHeld.1 HU.out, cell_on hHeld.2.1 HU.out, cell_on hHeld.2.2.1 HU.out, cell_on hHeld.2.2.2.1 HU.out, cell_on hHeld.2.2.2.2 HU.out⟩) ?_
        clear hK K hHeld
        intro hHeld
        try simp only [Act.put, List.getElem_toArray, List.getElem_cons_zero, List.getElem_cons_succ, List.setIfInBounds_toArray, List.set_cons_zero, List.set_cons_succ]
        refine wpAnyH_take (i := 5) rfl (by kernel_rfl) (by kernel_rfl) (by kernel_rfl) (fun _ _ _ h => h) (Or.inl ⟨by rfl, by intro W hSW; (try dsimp only at hSW); go_simp; try (with_reducible rfl)⟩) hHeld ?_
        try simp only [Act.put, List.getElem_toArray, List.getElem_cons_zero, List.getElem_cons_succ, List.setIfInBounds_toArray, List.set_cons_zero, List.set_cons_succ]
        refine wpAnyH_take (i := 6) rfl (by kernel_rfl) (by kernel_rfl) (by kernel_rfl) (fun _ _ _ h => h) (Or.inl ⟨by rfl, by intro W hSW; (try dsimp only at hSW); go_simp; try (with_reducible rfl)⟩) hHeld ?_
        try simp only [Act.put, List.getElem_toArray, List.getElem_cons_zero, List.getElem_cons_succ, List.setIfInBounds_toArray, List.set_cons_zero, List.set_cons_succ]
        refine wpAnyH_take (i := 7) rfl (by kernel_rfl) (by kernel_rfl) (by kernel_rfl) (fun _ _ _ h => h) (Or.inl ⟨by rfl, by intro W hSW; (try dsimp only at hSW); go_simp; try (with_reducible rfl)⟩) hHeld ?_
        try simp only [Act.put, List.getElem_toArray, List.getElem_cons_zero, List.getElem_cons_succ, List.setIfInBounds_toArray, List.set_cons_zero, List.set_cons_succ]
        refine wpAnyH_take (i := 8) rfl (by kernel_rfl) (by kernel_rfl) (by kernel_rfl) (fun _ _ _ h => h) (Or.inl ⟨by rfl, by intro W hSW; (try dsimp only at hSW); go_simp; try (with_reducible rfl)⟩) hHeld ?_
        try simp only [Act.put, List.getElem_toArray, List.getElem_cons_zero, List.getElem_cons_succ, List.setIfInBounds_toArray, List.set_cons_zero, List.set_cons_succ]
        refine wpAnyH_take (i := 10) rfl (by kernel_rfl) (by kernel_rfl) (by kernel_rfl) (fun _ _ _ h => h) (Or.inl ⟨by rfl, by intro W hSW; (try dsimp only at hSW); go_simp; try (with_reducible rfl)⟩) hHeld ?_
        try simp only [Act.put, List.getElem_toArray, List.getElem_cons_zero, List.getElem_cons_succ, List.setIfInBounds_toArray, List.set_cons_zero, List.set_cons_succ]
        refine wpAnyH_take (i := 11) rfl (by kernel_rfl) (by kernel_rfl) (by kernel_rfl) (fun _ _ _ h => h) (Or.inl ⟨by rfl, by intro W hSW; (try dsimp only at hSW); go_simp; try (with_reducible rfl)⟩) hHeld ?_
        try simp only [Act.put, List.getElem_toArray, List.getElem_cons_zero, List.getElem_cons_succ, List.setIfInBounds_toArray, List.set_cons_zero, List.set_cons_succ]
        refine wpAnyH_take (i := 12) rfl (by kernel_rfl) (by kernel_rfl) (by kernel_rfl) (fun _ _ _ h => h) (Or.inl ⟨by rfl, by intro W hSW; (try dsimp only at hSW); go_simp; try (with_reducible rfl)⟩) hHeld ?_
        try simp only [Act.put, List.getElem_toArray, List.getElem_cons_zero, List.getElem_cons_succ, List.setIfInBounds_toArray, List.set_cons_zero, List.set_cons_succ]
        refine wpAnyH_ready (rs := [9]) (by kernel_rfl) (by simp) ?_
        refine AllReadyH.cons rfl (fun K hK => ?_) AllReadyH.nil
        go_simp
        refine (HLE.out _ HB23.out).mono ?_; rintro e u4 ⟨⟨A3, n3, c3, l3, B3, m3, d3, k3⟩, rfl, hr, hk, hc, hb⟩; have HB24 := Lib.hid (to_ HB23.out hb); have HR3 := Lib.hid hr; have HK3 := Lib.hid hk; have HC3 := Lib.hid hc; have HU := Lib.hid hb; clear hr hk hc hb; unfold pnV; dsimp only
        try go_wp2_with fail
        refine hK.out _ _ (⟨cell_on hHeld.1 HU.out, cell_on hHeld.2.1 HU.out, cell_on hHeld.2.2.1 HU.out, cell_on hHeld.2.2.2.1 HU.out, cell_on hHeld.2.2.2.2 HU.out⟩) ?_
        clear hK K hHeld
        intro hHeld
        try simp only [Act.put, List.getElem_toArray, List.getElem_cons_zero, List.getElem_cons_succ, List.setIfInBounds_toArray, List.set_cons_zero, List.set_cons_succ]
        refine wpAnyH_ready (rs := [13]) (by kernel_rfl) (by simp) ?_
        refine AllReadyH.cons rfl (fun K hK => ?_) AllReadyH.nil
        go_simp
        refine (HRL.out _ HB24.out).mono ?_; rintro e u5 ⟨⟨A4, n4, c4, l4, B4, m4, d4, k4⟩, rfl, hr, hk, hc, hb⟩; have HB25 := Lib.hid (to_ HB24.out hb); have HR4 := Lib.hid hr; have HK4 := Lib.hid hk; have HC4 := Lib.hid hc; have HU := Lib.hid hb; clear hr hk hc hb; unfold pnV; dsimp only
        try go_wp2_with fail
        refine hK.out _ _ (⟨cell_on hHeld.1 HU.out, cell_on hHeld.2.1 HU.out, cell_on hHeld.2.2.1 HU.out, cell_on hHeld.2.2.2.1 HU.out, cell_on hHeld.2.2.2.2 HU.out⟩) ?_
        clear hK K hHeld
        intro hHeld
        try simp only [Act.put, List.getElem_toArray, List.getElem_cons_zero, List.getElem_cons_succ, List.setIfInBounds_toArray, List.set_cons_zero, List.set_cons_succ]
        refine wpAnyH_ready (rs := [14]) (by kernel_rfl) (by simp) ?_
        refine AllReadyH.cons rfl (fun K hK => ?_) AllReadyH.nil
        go_simp
        have hn3 := HR3.out.k.1; rw [HK3.out, List.length_map, List.length_range] at hn3; have hm3 := HR3.out.c.1; rw [HC3.out, List.length_map, List.length_range] at hm3; dsimp only at hn3 hm3; have HNM := Lib.hid (show n3 ≤ 1000 ∧ m3 ≤ 1000 from by have := HFN.out; omega); clear hn3 hm3; refine (same28_any _ ⟨A3, n3, c3, l3, B3, m3, d3, k3⟩ ⟨A4, n4, c4, l4, B4, m4, d4, k4⟩ (HR3.out.on HU.out) HR4.out (HK3.out.trans HK4.out.symm) (HC3.out.trans HC4.out.symm) HNM.out.1 HNM.out.2).mono ?_; rintro e u6 ⟨rfl, hb⟩; have HB26 := Lib.hid (to_ HB25.out hb); have HU := Lib.hid hb; clear hb
        try go_wp2_with fail
        refine hK.out _ _ (⟨cell_on hHeld.1 HU.out, cell_on hHeld.2.1 HU.out, cell_on hHeld.2.2.1 HU.out, cell_on hHeld.2.2.2.1 HU.out, cell_on hHeld.2.2.2.2 HU.out⟩) ?_
        clear hK K hHeld
        intro hHeld
        try simp only [Act.put, List.getElem_toArray, List.getElem_cons_zero, List.getElem_cons_succ, List.setIfInBounds_toArray, List.set_cons_zero, List.set_cons_succ]
        refine wpAnyH_take (i := 15) rfl (by kernel_rfl) (by kernel_rfl) (by kernel_rfl) (fun _ _ _ h => h) (Or.inl ⟨by rfl, by intro W hSW; (try dsimp only at hSW); go_simp; try (with_reducible rfl)⟩) hHeld ?_
        try simp only [Act.put, List.getElem_toArray, List.getElem_cons_zero, List.getElem_cons_succ, List.setIfInBounds_toArray, List.set_cons_zero, List.set_cons_succ]
        refine wpAnyH_take (i := 16) rfl (by kernel_rfl) (by kernel_rfl) (by kernel_rfl) (fun _ _ _ h => h) (Or.inl ⟨by rfl, by intro W hSW; (try dsimp only at hSW); go_simp; try (with_reducible rfl)⟩) hHeld ?_
        try simp only [Act.put, List.getElem_toArray, List.getElem_cons_zero, List.getElem_cons_succ, List.setIfInBounds_toArray, List.set_cons_zero, List.set_cons_succ]
        refine wpAnyH_take (i := 17) rfl (by kernel_rfl) (by kernel_rfl) (by kernel_rfl) (fun _ _ _ h => h) (Or.inl ⟨by rfl, by intro W hSW; (try dsimp only at hSW); go_simp; try (with_reducible rfl)⟩) hHeld ?_
        try simp only [Act.put, List.getElem_toArray, List.getElem_cons_zero, List.getElem_cons_succ, List.setIfInBounds_toArray, List.set_cons_zero, List.set_cons_succ]
        refine wpAnyH_take (i := 18) rfl (by kernel_rfl) (by kernel_rfl) (by kernel_rfl) (fun _ _ _ h => h) (Or.inl ⟨by rfl, by intro W hSW; (try dsimp only at hSW); go_simp; try (with_reducible rfl)⟩) hHeld ?_
        try simp only [Act.put, List.getElem_toArray, List.getElem_cons_zero, List.getElem_cons_succ, List.setIfInBounds_toArray, List.set_cons_zero, List.set_cons_succ]
        refine wpAnyH_take (i := 19) rfl (by kernel_rfl) (by kernel_rfl) (by kernel_rfl) (fun _ _ _ h => h) (Or.inl ⟨by rfl, by intro W hSW; (try dsimp only at hSW); go_simp; try (with_reducible rfl)⟩) hHeld ?_
        try simp only [Act.put, List.getElem_toArray, List.getElem_cons_zero, List.getElem_cons_succ, List.setIfInBounds_toArray, List.set_cons_zero, List.set_cons_succ]
        refine wpAnyH_take (i := 21) rfl (by kernel_rfl) (by kernel_rfl) (by kernel_rfl) (fun _ _ _ h => h) (Or.inl ⟨by rfl, by intro W hSW; (try dsimp only at hSW); go_simp; try (with_reducible rfl)⟩) hHeld ?_
        try simp only [Act.put, List.getElem_toArray, List.getElem_cons_zero, List.getElem_cons_succ, List.setIfInBounds_toArray, List.set_cons_zero, List.set_cons_succ]
        refine wpAnyH_take (i := 22) rfl (by kernel_rfl) (by kernel_rfl) (by kernel_rfl) (fun _ _ _ h => h) (Or.inl ⟨by rfl, by intro W hSW; (try dsimp only at hSW); go_simp; try (with_reducible rfl)⟩) hHeld ?_
        try simp only [Act.put, List.getElem_toArray, List.getElem_cons_zero, List.getElem_cons_succ, List.setIfInBounds_toArray, List.set_cons_zero, List.set_cons_succ]
        refine wpAnyH_take (i := 23) rfl (by kernel_rfl) (by kernel_rfl) (by kernel_rfl) (fun _ _ _ h => h) (Or.inl ⟨by rfl, by intro W hSW; (try dsimp only at hSW); go_simp; try (with_reducible rfl)⟩) hHeld ?_
        try simp only [Act.put, List.getElem_toArray, List.getElem_cons_zero, List.getElem_cons_succ, List.setIfInBounds_toArray, List.set_cons_zero, List.set_cons_succ]
        refine wpAnyH_ready (rs := [20]) (by kernel_rfl) (by simp) ?_
        refine AllReadyH.cons rfl (fun K hK => ?_) AllReadyH.nil
        go_simp
        refine (HSZ.out _ HB26.out).mono ?_; rintro e u7 ⟨rfl, hb⟩; have HB27 := Lib.hid (to_ HB26.out hb); have HU := Lib.hid hb; clear hb
        try go_wp2_with fail
        refine hK.out _ _ (⟨cell_on hHeld.1 HU.out, cell_on hHeld.2.1 HU.out, cell_on hHeld.2.2.1 HU.out, cell_on hHeld.2.2.2.1 HU.out, cell_on hHeld.2.2.2.2 HU.out⟩) ?_
        clear hK K hHeld
        intro hHeld
        try simp only [Act.put, List.getElem_toArray, List.getElem_cons_zero, List.getElem_cons_succ, List.setIfInBounds_toArray, List.set_cons_zero, List.set_cons_succ]
        refine wpAnyH_ready (rs := [24]) (by kernel_rfl) (by simp) ?_
        refine AllReadyH.cons rfl (fun K hK => ?_) AllReadyH.nil
        go_simp
        refine (HRS.out _ HB27.out).mono ?_; rintro e u8 ⟨rfl, hb⟩; have HB28 := Lib.hid (to_ HB27.out hb); have HU := Lib.hid hb; clear hb
        try go_wp2_with fail
        refine hK.out _ _ (⟨cell_on hHeld.1 HU.out, cell_on hHeld.2.1 HU.out, cell_on hHeld.2.2.1 HU.out, cell_on hHeld.2.2.2.1 HU.out, cell_on hHeld.2.2.2.2 HU.out⟩) ?_
        clear hK K hHeld
        intro hHeld
        try simp only [Act.put, List.getElem_toArray, List.getElem_cons_zero, List.getElem_cons_succ, List.setIfInBounds_toArray, List.set_cons_zero, List.set_cons_succ]
        refine wpAnyH_take (i := 25) rfl (by kernel_rfl) (by kernel_rfl) (by kernel_rfl) (fun _ _ _ h => h) (Or.inl ⟨by rfl, by intro W hSW; (try dsimp only at hSW); go_simp; try (with_reducible rfl)⟩) hHeld ?_
        try simp only [Act.put, List.getElem_toArray, List.getElem_cons_zero, List.getElem_cons_succ, List.setIfInBounds_toArray, List.set_cons_zero, List.set_cons_succ]
        refine wpAnyH_take (i := 26) rfl (by kernel_rfl) (by kernel_rfl) (by kernel_rfl) (fun _ _ _ h => h) (Or.inl ⟨by rfl, by intro W hSW; (try dsimp only at hSW); go_simp; try (with_reducible rfl)⟩) hHeld ?_
        try simp only [Act.put, List.getElem_toArray, List.getElem_cons_zero, List.getElem_cons_succ, List.setIfInBounds_toArray, List.set_cons_zero, List.set_cons_succ]
        refine wpAnyH_take (i := 27) rfl (by kernel_rfl) (by kernel_rfl) (by kernel_rfl) (fun _ _ _ h => h) (Or.inl ⟨by rfl, by intro W hSW; (try dsimp only at hSW); go_simp; try (with_reducible rfl)⟩) hHeld ?_
        try simp only [Act.put, List.getElem_toArray, List.getElem_cons_zero, List.getElem_cons_succ, List.setIfInBounds_toArray, List.set_cons_zero, List.set_cons_succ]
        refine wpAnyH_ready (rs := [28]) (by kernel_rfl) (by simp) ?_
        refine AllReadyH.cons rfl (fun K hK => ?_) AllReadyH.nil
        go_simp
        refine (known28_any _).mono ?_; rintro e u9 ⟨rfl, hb⟩; have HB29 := Lib.hid (to_ HB28.out hb); have HU := Lib.hid hb; clear hb
        try go_wp2_with fail
        refine hK.out _ _ (⟨cell_on hHeld.1 HU.out, cell_on hHeld.2.1 HU.out, cell_on hHeld.2.2.1 HU.out, cell_on hHeld.2.2.2.1 HU.out, cell_on hHeld.2.2.2.2 HU.out⟩) ?_
        clear hK K hHeld
        intro hHeld
        try simp only [Act.put, List.getElem_toArray, List.getElem_cons_zero, List.getElem_cons_succ, List.setIfInBounds_toArray, List.set_cons_zero, List.set_cons_succ]
        refine wpAnyH_take (i := 29) rfl (by kernel_rfl) (by kernel_rfl) (by kernel_rfl) (fun _ _ _ h => h) (Or.inl ⟨by rfl, by intro W hSW; (try dsimp only at hSW); go_simp; try (with_reducible rfl)⟩) hHeld ?_
        try simp only [Act.put, List.getElem_toArray, List.getElem_cons_zero, List.getElem_cons_succ, List.setIfInBounds_toArray, List.set_cons_zero, List.set_cons_succ]
        refine wpAnyH_take (i := 30) rfl (by kernel_rfl) (by kernel_rfl) (by kernel_rfl) (fun _ _ _ h => h) (Or.inl ⟨by rfl, by intro W hSW; (try dsimp only at hSW); go_simp; try (with_reducible rfl)⟩) hHeld ?_
        try simp only [Act.put, List.getElem_toArray, List.getElem_cons_zero, List.getElem_cons_succ, List.setIfInBounds_toArray, List.set_cons_zero, List.set_cons_succ]
        refine wpAnyH_done (by kernel_rfl) ?_ _
        refine NoPanic.normal ?_
        go_wp2_with fail
        go_ret
        exact ⟨rfl, to_ HBW.out HB29.out⟩
end Go.Proofs.Ytnenmgefgdpkdaa.Bo
