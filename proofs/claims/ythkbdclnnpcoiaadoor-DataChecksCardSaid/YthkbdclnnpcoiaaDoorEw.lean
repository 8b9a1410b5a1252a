/-
  DATACHECKS: what is wrong with data, its marks and its references are what the document says.
-/
import Derived.Test.YthkbdclnnpcoiaaDoorEs
import Derived.Test.YthkbdclnnpcoiaaDoorEn
import Derived.Test.YthkbdclnnpcoiaaDoorHm
namespace Go.Proofs.YthkbdclnnpcoiaaDoor.By
open Go.RowKit
open Mem Gm Rf
set_option linter.unusedSimpArgs false
set_option linter.unusedVariables false

set_option maxRecDepth 100000 in
set_option maxHeartbeats 8000000 in
theorem dataChecks_any (w : World) (kd n : Int) (AW AR AS : Option Addr) (nW cW nR cR nS cS : Nat) (ws : List Int) (rs : List Rl) (ss : List Sy) (hT : Si.Txs w) (hlo : -9223372036854775808 ≤ kd ∧ kd ≤ 9223372036854775807) (h1 : IW w (.slice AW nW cW) ws) (hL : ws.length = nW) (h2 : RlL w AR nR cR rs) (h3 : SyL w AS nS cS ss) :
    Calls Tryd.prog 3 #[.agg #[.int .i64 kd, .slice AW nW cW, .slice AR nR cR], .slice AS nS cS, .int .i64 n] w (TAns w) := by
  obtain ⟨W1, hW1⟩ : ∃ W1, w.alloc (.cells #[.int .i64 kd, .slice AW nW cW, .slice AR nR cR] 25) = W1 := ⟨_, rfl⟩
  have hb0 : Below w.heap.size w W1 := by rw [← hW1]; exact alloc_ _ _
  have HB0 := Lib.hid hb0
  have RK := Lib.hid (show BK W1 w.heap.size (.int .i64 kd) (.slice AW nW cW) (.slice AR nR cR) from by rw [← hW1]; exact Blk.new w _ _)
  have RX := Lib.hid (TX.on hT hb0)
  have RI := Lib.hid (IW.on h1 hb0)
  have RR := Lib.hid (RlL.on h2 hb0)
  have RS := Lib.hid (SyL.on h3 hb0)
  have HF := Lib.hid (fewD_any W1 kd AW AR nW cW nR cR)
  obtain ⟨bf, hbf⟩ : ∃ b, fewD nW nR = b := ⟨_, rfl⟩
  rw [hbf] at HF
  obtain ⟨c0, c1, c2⟩ := BK.cells RK.out
  cases bf with
  | false =>
    clear hbf hT h1 hL h2 h3 hb0 hlo
    go_enter Tryd.func3, Tryd.ntmps3
    go_wp2_with fail
    refine HF.out.mono ?_
    rintro e w1 ⟨rfl, b1⟩
    have HB1 := Lib.hid (to_ HB0.out b1)
    have RX1 := Lib.hid (RX.out.on b1)
    clear b1
    go_wp2_with fail
    refine (known15_any _ RX1.out).mono ?_
    rintro e w9 ⟨rfl, b9⟩
    have HB9 := Lib.hid (to_ HB1.out b9)
    clear b9
    go_wp2_with fail
    go_ret
    exact ⟨rfl, HB9.out⟩
  | true =>
    have hfw : nW ≤ 100 ∧ nR ≤ 100 := of_decide_eq_true hbf
    by_cases h9 : 60 < nS
    · have e2 : (60 : Int) < (nS : Int) := by omega
      clear hbf hT h1 hL h2 h3 hb0 hfw h9 hlo
      go_enter Tryd.func3, Tryd.ntmps3
      go_wp2_with fail
      refine HF.out.mono ?_
      rintro e w1 ⟨rfl, b1⟩
      have HB1 := Lib.hid (to_ HB0.out b1)
      have RX1 := Lib.hid (RX.out.on b1)
      clear b1
      go_wp2_with fail
      refine (known15_any _ RX1.out).mono ?_
      rintro e w9 ⟨rfl, b9⟩
      have HB9 := Lib.hid (to_ HB1.out b9)
      clear b9
      go_wp2_with fail
      go_ret
      exact ⟨rfl, HB9.out⟩
    · have e2 : ¬ (60 : Int) < (nS : Int) := by omega
      have HCK := Lib.hid (show ∀ W, TX W → IW W (.slice AW nW cW) ws → RlL W AR nR cR rs → SyL W AS nS cS ss → Calls Tryd.prog 8 #[.agg #[.int .i64 kd, .slice AW nW cW, .slice AR nR cR], .slice AS nS cS] W (CkD (chkD kd ws nS rs ss) W) from fun W ht hi hr hs => checkD_any W kd AW AR AS nW cW nR cR nS cS ws rs ss hlo.1 hlo.2 ht hi hL (by omega) hr (by omega) hs)
      have HRC := Lib.hid (show ∀ W, IW W (.slice AW nW cW) ws → RlL W AR nR cR rs → SyL W AS nS cS ss → Calls Tryd.prog 9 #[.agg #[.int .i64 kd, .slice AW nW cW, .slice AR nR cR], .slice AS nS cS] W (CkD (chkD kd ws nS rs ss) W) from fun W hi hr hs => rcheckD_any W kd AW AR AS nW cW nR cR nS cS ws rs ss hlo.1 hlo.2 hi hL (by omega) hr (by omega) hs)
      obtain ⟨x, hx⟩ : ∃ x, chkD kd ws nS rs ss = x := ⟨_, rfl⟩
      rw [hx] at HCK HRC
      have HRF := Lib.hid (show ∀ W, RlL W AR nR cR rs → Calls Tryd.prog 11 #[.agg #[.int .i64 kd, .slice AW nW cW, .slice AR nR cR]] W (IAns nW (rfL rs nR nW) W) from fun W hr => refs_any W kd AW AR nW cW nR cR rs hr (by omega) (by omega))
      have HRR := Lib.hid (show ∀ W, RlL W AR nR cR rs → Calls Tryd.prog 12 #[.agg #[.int .i64 kd, .slice AW nW cW, .slice AR nR cR]] W (IAns nW (rfL rs nR nW) W) from fun W hr => rrefs_any W kd AW AR nW cW nR cR rs hr (by omega) (by omega))
      have hL1 : (rfL rs nR nW).length = nW := by simp [rfL]
      generalize rfL rs nR nW = L1 at HRF HRR hL1
      have HL1 := Lib.hid hL1
      obtain ⟨N, hN⟩ : ∃ N, (min (max n 0) 4096).toNat = N := ⟨_, rfl⟩
      have HMK := Lib.hid (show ∀ W, RlL W AR nR cR rs → Calls Tryd.prog 13 #[.slice AR nR cR, .int .i64 n] W (IAns N (fmL rs nR N) W) from fun W hr => by rw [← hN]; exact marks_small W AR nR cR n rs hr (by omega))
      have HMR := Lib.hid (show ∀ W, RlL W AR nR cR rs → Calls Tryd.prog 14 #[.slice AR nR cR, .int .i64 n] W (IAns N (fmL rs nR N) W) from fun W hr => (rmarks_own W AR nR cR N n rs hr (by omega) hN).mono fun _ _ h => oans_i h)
      have hL2 : (fmL rs nR N).length = N := by simp [fmL]
      generalize fmL rs nR N = L2 at HMK HMR hL2
      have HL2 := Lib.hid hL2
      have HNN := Lib.hid (show N ≤ 4096 ∧ nW ≤ 100 from ⟨by omega, hfw.1⟩)
      have HIN := Lib.hid (show ∀ (W : World) (A A2 : Option Addr) (c c2 L : Nat) (l : List Int), l.length = L → IW W (.slice A L c) l → IW W (.slice A2 L c2) l → L ≤ 4096 → Calls Tryd.prog 10 #[.slice A L c, .slice A2 L c2] W (TAns W) from fun W A A2 c c2 L l hL h h2 hl => by
        subst hL
        refine (ints_same W _ _ A A2 c c2 l h h2 (by omega)).mono fun e w' hh => ?_
        obtain ⟨h1, m, rfl⟩ := hh
        exact ⟨h1, below_drewN (Below.refl _ _) _⟩)
      clear h9 hfw hbf hT h1 hL h2 h3 hb0 hlo hx hL1 hL2 hN
      go_enter Tryd.func3, Tryd.ntmps3
      go_wp2_with fail
      refine (HF.out).mono ?_
      rintro e w1 ⟨rfl, b1⟩
      have Ri1 := Lib.hid (RI.out.on b1)
      have Rr1 := Lib.hid (RR.out.on b1)
      have Rx1 := Lib.hid (RX.out.on b1)
      have Rk1 := Lib.hid (RK.out.on b1)
      have Rs1 := Lib.hid (RS.out.on b1)
      have HB1 := Lib.hid (to_ HB0.out b1)
      clear b1 RI RR RX RK RS HB0
      clear hW1 c0 c1 c2
      obtain ⟨c0, c1, c2⟩ := BK.cells Rk1.out
      go_wp2_with fail
      clear c0 c1 c2
      have MK1 := Lib.hid (show ∀ W, Below w1.heap.size w1 W → (fun W => (W.cell? ⟨w.heap.size, 0, none⟩ = some (.int .i64 kd) ∧ W.cell? ⟨w.heap.size, 1, none⟩ = some (.slice AW nW cW) ∧ W.cell? ⟨w.heap.size, 2, none⟩ = some (.slice AR nR cR)) ∧ Below w1.heap.size w1 W) W from fun W hb => ⟨BK.cells (Rk1.out.on hb), hb⟩)
      refine wp_region_noPanic ?_
      refine wp_region_held_drew (S := fun W => (W.cell? ⟨w.heap.size, 0, none⟩ = some (.int .i64 kd) ∧ W.cell? ⟨w.heap.size, 1, none⟩ = some (.slice AW nW cW) ∧ W.cell? ⟨w.heap.size, 2, none⟩ = some (.slice AR nR cR)) ∧ Below w1.heap.size w1 W) (by kernel_rfl) (MK1.out _ (Below.refl _ _).drew) (fun hHeld => ?_)
      refine wpAnyH_take (i := 0) rfl (by kernel_rfl) (by kernel_rfl) (by kernel_rfl) (fun _ _ _ h => h) (Or.inl ⟨by rfl, by intro W hSW; (try dsimp only at hSW); go_simp; try (with_reducible rfl)⟩) hHeld ?_
      try simp only [Act.put, List.getElem_toArray, List.getElem_cons_zero, List.getElem_cons_succ, List.setIfInBounds_toArray, List.set_cons_zero, List.set_cons_succ]
      refine wpAnyH_take (i := 1) rfl (by kernel_rfl) (by kernel_rfl) (by kernel_rfl) (fun _ _ _ h => h) (Or.inl ⟨by rfl, by intro W hSW; (try dsimp only at hSW); go_simp; try (with_reducible rfl)⟩) hHeld ?_
      try simp only [Act.put, List.getElem_toArray, List.getElem_cons_zero, List.getElem_cons_succ, List.setIfInBounds_toArray, List.set_cons_zero, List.set_cons_succ]
      refine wpAnyH_take (i := 3) rfl (by kernel_rfl) (by kernel_rfl) (by kernel_rfl) (fun _ _ _ h => h) (Or.inl ⟨by rfl, by intro W hSW; (try dsimp only at hSW); go_simp; try (with_reducible rfl)⟩) hHeld ?_
      try simp only [Act.put, List.getElem_toArray, List.getElem_cons_zero, List.getElem_cons_succ, List.setIfInBounds_toArray, List.set_cons_zero, List.set_cons_succ]
      refine wpAnyH_take (i := 4) rfl (by kernel_rfl) (by kernel_rfl) (by kernel_rfl) (fun _ _ _ h => h) (Or.inl ⟨by rfl, by intro W hSW; (try dsimp only at hSW); go_simp; try (with_reducible rfl)⟩) hHeld ?_
      try simp only [Act.put, List.getElem_toArray, List.getElem_cons_zero, List.getElem_cons_succ, List.setIfInBounds_toArray, List.set_cons_zero, List.set_cons_succ]
      refine wpAnyH_ready (rs := [2]) (by kernel_rfl) (by simp) ?_
      refine AllReadyH.cons rfl (fun K hK => ?_) AllReadyH.nil
      go_simp
      refine (HCK.out _ (Rx1.out.on hHeld.2) (Ri1.out.on hHeld.2) (Rr1.out.on hHeld.2) (Rs1.out.on hHeld.2)).mono ?_
      rintro e w2 ⟨rfl, b2⟩
      try go_wp2_with fail
      refine hK.out _ _ (MK1.out _ (to_ hHeld.2 b2)) ?_
      clear hK K hHeld
      intro hHeld
      try simp only [Act.put, List.getElem_toArray, List.getElem_cons_zero, List.getElem_cons_succ, List.setIfInBounds_toArray, List.set_cons_zero, List.set_cons_succ]
      clear b2
      refine wpAnyH_ready (rs := [5]) (by kernel_rfl) (by simp) ?_
      refine AllReadyH.cons rfl (fun K hK => ?_) AllReadyH.nil
      go_simp
      refine (HRC.out _ (Ri1.out.on hHeld.2) (Rr1.out.on hHeld.2) (Rs1.out.on hHeld.2)).mono ?_
      rintro e w3 ⟨rfl, b3⟩
      try go_wp2_with fail
      refine hK.out _ _ (MK1.out _ (to_ hHeld.2 b3)) ?_
      clear hK K hHeld
      intro hHeld
      try simp only [Act.put, List.getElem_toArray, List.getElem_cons_zero, List.getElem_cons_succ, List.setIfInBounds_toArray, List.set_cons_zero, List.set_cons_succ]
      clear b3
      refine wpAnyH_take (i := 6) rfl (by kernel_rfl) (by kernel_rfl) (by kernel_rfl) (fun _ _ _ h => h) (Or.inl ⟨by rfl, by intro W hSW; (try dsimp only at hSW); go_simp; try (with_reducible rfl)⟩) hHeld ?_
      try simp only [Act.put, List.getElem_toArray, List.getElem_cons_zero, List.getElem_cons_succ, List.setIfInBounds_toArray, List.set_cons_zero, List.set_cons_succ]
      try rw [show (x == x) = true from by simp]
      refine wpAnyH_take (i := 7) rfl (by kernel_rfl) (by kernel_rfl) (by kernel_rfl) (fun _ _ _ h => h) (Or.inl ⟨by rfl, by intro W hSW; (try dsimp only at hSW); go_simp; try (with_reducible rfl)⟩) hHeld ?_
      try simp only [Act.put, List.getElem_toArray, List.getElem_cons_zero, List.getElem_cons_succ, List.setIfInBounds_toArray, List.set_cons_zero, List.set_cons_succ]
      refine wpAnyH_take (i := 8) rfl (by kernel_rfl) (by kernel_rfl) (by kernel_rfl) (fun _ _ _ h => h) (Or.inl ⟨by rfl, by intro W hSW; (try dsimp only at hSW); go_simp; try (with_reducible rfl)⟩) hHeld ?_
      try simp only [Act.put, List.getElem_toArray, List.getElem_cons_zero, List.getElem_cons_succ, List.setIfInBounds_toArray, List.set_cons_zero, List.set_cons_succ]
      refine wpAnyH_take (i := 10) rfl (by kernel_rfl) (by kernel_rfl) (by kernel_rfl) (fun _ _ _ h => h) (Or.inl ⟨by rfl, by intro W hSW; (try dsimp only at hSW); go_simp; try (with_reducible rfl)⟩) hHeld ?_
      try simp only [Act.put, List.getElem_toArray, List.getElem_cons_zero, List.getElem_cons_succ, List.setIfInBounds_toArray, List.set_cons_zero, List.set_cons_succ]
      refine wpAnyH_ready (rs := [9]) (by kernel_rfl) (by simp) ?_
      refine AllReadyH.cons rfl (fun K hK => ?_) AllReadyH.nil
      go_simp
      have q4 := hHeld.2
      refine (HRF.out _ (Rr1.out.on q4)).mono ?_
      rintro e w4 ⟨A4, d4, rfl, h4, b4⟩
      have r4 := to_ q4 b4
      have s4 := to_ hHeld.2 b4
      try go_wp2_with fail
      refine hK.out _ _ (MK1.out _ s4) ?_
      clear hK K hHeld
      intro hHeld
      try simp only [Act.put, List.getElem_toArray, List.getElem_cons_zero, List.getElem_cons_succ, List.setIfInBounds_toArray, List.set_cons_zero, List.set_cons_succ]
      have HS4 := Lib.hid h4
      have HQ4 := Lib.hid r4
      have HU4 := Lib.hid s4
      clear h4 b4 q4 r4 s4
      have MK4 := Lib.hid (show ∀ W, Below w4.heap.size w4 W → (fun W => (W.cell? ⟨w.heap.size, 0, none⟩ = some (.int .i64 kd) ∧ W.cell? ⟨w.heap.size, 1, none⟩ = some (.slice AW nW cW) ∧ W.cell? ⟨w.heap.size, 2, none⟩ = some (.slice AR nR cR)) ∧ Below w4.heap.size w4 W) W from fun W hb => ⟨BK.cells (Rk1.out.on (to_ HQ4.out hb)), hb⟩)
      refine Mem.wpAnyH_mono (fun W => (W.cell? ⟨w.heap.size, 0, none⟩ = some (.int .i64 kd) ∧ W.cell? ⟨w.heap.size, 1, none⟩ = some (.slice AW nW cW) ∧ W.cell? ⟨w.heap.size, 2, none⟩ = some (.slice AR nR cR)) ∧ Below w4.heap.size w4 W) (fun w' h => MK1.out _ (to_ HU4.out h.2)) _ _ _ _ ?_
      clear hHeld
      have hHeld := MK4.out _ (Below.refl _ _)
      refine wpAnyH_ready (rs := [11]) (by kernel_rfl) (by simp) ?_
      refine AllReadyH.cons rfl (fun K hK => ?_) AllReadyH.nil
      go_simp
      refine (HRR.out _ (Rr1.out.on (to_ HQ4.out hHeld.2))).mono ?_
      rintro e w5 ⟨A5, d5, rfl, h5, b5⟩
      have HA5 := Lib.hid (HS4.out.on (to_ hHeld.2 b5))
      have HC5 := Lib.hid h5
      have s5 := to_ hHeld.2 b5
      clear h5 b5
      try go_wp2_with fail
      refine hK.out _ _ (MK4.out _ s5) ?_
      clear hK K hHeld
      intro hHeld
      try simp only [Act.put, List.getElem_toArray, List.getElem_cons_zero, List.getElem_cons_succ, List.setIfInBounds_toArray, List.set_cons_zero, List.set_cons_succ]
      clear s5
      refine wpAnyH_ready (rs := [12]) (by kernel_rfl) (by simp) ?_
      refine AllReadyH.cons rfl (fun K hK => ?_) AllReadyH.nil
      go_simp
      refine (HIN.out _ _ _ _ _ _ _ HL1.out HA5.out HC5.out (by have := HNN.out; omega)).mono ?_
      rintro e w6 ⟨rfl, b6⟩
      have s6 := to_ hHeld.2 b6
      clear b6
      try go_wp2_with fail
      refine hK.out _ _ (MK4.out _ s6) ?_
      clear hK K hHeld
      intro hHeld
      try simp only [Act.put, List.getElem_toArray, List.getElem_cons_zero, List.getElem_cons_succ, List.setIfInBounds_toArray, List.set_cons_zero, List.set_cons_succ]
      clear s6
      refine wpAnyH_take (i := 13) rfl (by kernel_rfl) (by kernel_rfl) (by kernel_rfl) (fun _ _ _ h => h) (Or.inl ⟨by rfl, by intro W hSW; (try dsimp only at hSW); go_simp; try (with_reducible rfl)⟩) hHeld ?_
      try simp only [Act.put, List.getElem_toArray, List.getElem_cons_zero, List.getElem_cons_succ, List.setIfInBounds_toArray, List.set_cons_zero, List.set_cons_succ]
      refine wpAnyH_take (i := 14) rfl (by kernel_rfl) (by kernel_rfl) (by kernel_rfl) (fun _ _ _ h => h) (Or.inl ⟨by rfl, by intro W hSW; (try dsimp only at hSW); go_simp; try (with_reducible rfl)⟩) hHeld ?_
      try simp only [Act.put, List.getElem_toArray, List.getElem_cons_zero, List.getElem_cons_succ, List.setIfInBounds_toArray, List.set_cons_zero, List.set_cons_succ]
      refine wpAnyH_take (i := 15) rfl (by kernel_rfl) (by kernel_rfl) (by kernel_rfl) (fun _ _ _ h => h) (Or.inl ⟨by rfl, by intro W hSW; (try dsimp only at hSW); go_simp; try (with_reducible rfl)⟩) hHeld ?_
      try simp only [Act.put, List.getElem_toArray, List.getElem_cons_zero, List.getElem_cons_succ, List.setIfInBounds_toArray, List.set_cons_zero, List.set_cons_succ]
      refine wpAnyH_take (i := 16) rfl (by kernel_rfl) (by kernel_rfl) (by kernel_rfl) (fun _ _ _ h => h) (Or.inl ⟨by rfl, by intro W hSW; (try dsimp only at hSW); go_simp; try (with_reducible rfl)⟩) hHeld ?_
      try simp only [Act.put, List.getElem_toArray, List.getElem_cons_zero, List.getElem_cons_succ, List.setIfInBounds_toArray, List.set_cons_zero, List.set_cons_succ]
      refine wpAnyH_take (i := 17) rfl (by kernel_rfl) (by kernel_rfl) (by kernel_rfl) (fun _ _ _ h => h) (Or.inl ⟨by rfl, by intro W hSW; (try dsimp only at hSW); go_simp; try (with_reducible rfl)⟩) hHeld ?_
      try simp only [Act.put, List.getElem_toArray, List.getElem_cons_zero, List.getElem_cons_succ, List.setIfInBounds_toArray, List.set_cons_zero, List.set_cons_succ]
      refine wpAnyH_take (i := 19) rfl (by kernel_rfl) (by kernel_rfl) (by kernel_rfl) (fun _ _ _ h => h) (Or.inl ⟨by rfl, by intro W hSW; (try dsimp only at hSW); go_simp; try (with_reducible rfl)⟩) hHeld ?_
      try simp only [Act.put, List.getElem_toArray, List.getElem_cons_zero, List.getElem_cons_succ, List.setIfInBounds_toArray, List.set_cons_zero, List.set_cons_succ]
      refine wpAnyH_take (i := 20) rfl (by kernel_rfl) (by kernel_rfl) (by kernel_rfl) (fun _ _ _ h => h) (Or.inl ⟨by rfl, by intro W hSW; (try dsimp only at hSW); go_simp; try (with_reducible rfl)⟩) hHeld ?_
      try simp only [Act.put, List.getElem_toArray, List.getElem_cons_zero, List.getElem_cons_succ, List.setIfInBounds_toArray, List.set_cons_zero, List.set_cons_succ]
      refine wpAnyH_take (i := 21) rfl (by kernel_rfl) (by kernel_rfl) (by kernel_rfl) (fun _ _ _ h => h) (Or.inl ⟨by rfl, by intro W hSW; (try dsimp only at hSW); go_simp; try (with_reducible rfl)⟩) hHeld ?_
      try simp only [Act.put, List.getElem_toArray, List.getElem_cons_zero, List.getElem_cons_succ, List.setIfInBounds_toArray, List.set_cons_zero, List.set_cons_succ]
      refine wpAnyH_ready (rs := [18]) (by kernel_rfl) (by simp) ?_
      refine AllReadyH.cons rfl (fun K hK => ?_) AllReadyH.nil
      go_simp
      have q7 := to_ HQ4.out hHeld.2
      refine (HMK.out _ (Rr1.out.on q7)).mono ?_
      rintro e w7 ⟨A7, d7, rfl, h7, b7⟩
      have r7 := to_ q7 b7
      have s7 := to_ hHeld.2 b7
      try go_wp2_with fail
      refine hK.out _ _ (MK4.out _ s7) ?_
      clear hK K hHeld
      intro hHeld
      try simp only [Act.put, List.getElem_toArray, List.getElem_cons_zero, List.getElem_cons_succ, List.setIfInBounds_toArray, List.set_cons_zero, List.set_cons_succ]
      have HS7 := Lib.hid h7
      have HQ7 := Lib.hid r7
      have HU7 := Lib.hid s7
      clear h7 b7 q7 r7 s7
      have MK7 := Lib.hid (show ∀ W, Below w7.heap.size w7 W → (fun W => (W.cell? ⟨w.heap.size, 0, none⟩ = some (.int .i64 kd) ∧ W.cell? ⟨w.heap.size, 1, none⟩ = some (.slice AW nW cW) ∧ W.cell? ⟨w.heap.size, 2, none⟩ = some (.slice AR nR cR)) ∧ Below w7.heap.size w7 W) W from fun W hb => ⟨BK.cells (Rk1.out.on (to_ HQ7.out hb)), hb⟩)
      refine Mem.wpAnyH_mono (fun W => (W.cell? ⟨w.heap.size, 0, none⟩ = some (.int .i64 kd) ∧ W.cell? ⟨w.heap.size, 1, none⟩ = some (.slice AW nW cW) ∧ W.cell? ⟨w.heap.size, 2, none⟩ = some (.slice AR nR cR)) ∧ Below w7.heap.size w7 W) (fun w' h => MK4.out _ (to_ HU7.out h.2)) _ _ _ _ ?_
      clear hHeld
      have hHeld := MK7.out _ (Below.refl _ _)
      refine wpAnyH_ready (rs := [22]) (by kernel_rfl) (by simp) ?_
      refine AllReadyH.cons rfl (fun K hK => ?_) AllReadyH.nil
      go_simp
      refine (HMR.out _ (Rr1.out.on (to_ HQ7.out hHeld.2))).mono ?_
      rintro e w8 ⟨A8, d8, rfl, h8, b8⟩
      have HA8 := Lib.hid (HS7.out.on (to_ hHeld.2 b8))
      have HC8 := Lib.hid h8
      have s8 := to_ hHeld.2 b8
      clear h8 b8
      try go_wp2_with fail
      refine hK.out _ _ (MK7.out _ s8) ?_
      clear hK K hHeld
      intro hHeld
      try simp only [Act.put, List.getElem_toArray, List.getElem_cons_zero, List.getElem_cons_succ, List.setIfInBounds_toArray, List.set_cons_zero, List.set_cons_succ]
      clear s8
      refine wpAnyH_ready (rs := [23]) (by kernel_rfl) (by simp) ?_
      refine AllReadyH.cons rfl (fun K hK => ?_) AllReadyH.nil
      go_simp
      refine (HIN.out _ _ _ _ _ _ _ HL2.out HA8.out HC8.out (by have := HNN.out; omega)).mono ?_
      rintro e w9 ⟨rfl, b9⟩
      have s9 := to_ hHeld.2 b9
      clear b9
      try go_wp2_with fail
      refine hK.out _ _ (MK7.out _ s9) ?_
      clear hK K hHeld
      intro hHeld
      try simp only [Act.put, List.getElem_toArray, List.getElem_cons_zero, List.getElem_cons_succ, List.setIfInBounds_toArray, List.set_cons_zero, List.set_cons_succ]
      clear s9
      refine wpAnyH_take (i := 24) rfl (by kernel_rfl) (by kernel_rfl) (by kernel_rfl) (fun _ _ _ h => h) (Or.inl ⟨by rfl, by intro W hSW; (try dsimp only at hSW); go_simp; try (with_reducible rfl)⟩) hHeld ?_
      try simp only [Act.put, List.getElem_toArray, List.getElem_cons_zero, List.getElem_cons_succ, List.setIfInBounds_toArray, List.set_cons_zero, List.set_cons_succ]
      refine wpAnyH_take (i := 25) rfl (by kernel_rfl) (by kernel_rfl) (by kernel_rfl) (fun _ _ _ h => h) (Or.inl ⟨by rfl, by intro W hSW; (try dsimp only at hSW); go_simp; try (with_reducible rfl)⟩) hHeld ?_
      try simp only [Act.put, List.getElem_toArray, List.getElem_cons_zero, List.getElem_cons_succ, List.setIfInBounds_toArray, List.set_cons_zero, List.set_cons_succ]
      refine wpAnyH_ready (rs := [26]) (by kernel_rfl) (by simp) ?_
      refine AllReadyH.cons rfl (fun K hK => ?_) AllReadyH.nil
      go_simp
      have q10 := to_ HQ7.out hHeld.2
      refine (known15_any _ (Rx1.out.on q10)).mono ?_
      rintro e w10 ⟨rfl, b10⟩
      have s10 := to_ hHeld.2 b10
      clear b10 q10
      try go_wp2_with fail
      refine hK.out _ _ (MK7.out _ s10) ?_
      clear hK K hHeld
      intro hHeld
      try simp only [Act.put, List.getElem_toArray, List.getElem_cons_zero, List.getElem_cons_succ, List.setIfInBounds_toArray, List.set_cons_zero, List.set_cons_succ]
      clear s10
      refine wpAnyH_take (i := 27) rfl (by kernel_rfl) (by kernel_rfl) (by kernel_rfl) (fun _ _ _ h => h) (Or.inl ⟨by rfl, by intro W hSW; (try dsimp only at hSW); go_simp; try (with_reducible rfl)⟩) hHeld ?_
      try simp only [Act.put, List.getElem_toArray, List.getElem_cons_zero, List.getElem_cons_succ, List.setIfInBounds_toArray, List.set_cons_zero, List.set_cons_succ]
      refine wpAnyH_take (i := 28) rfl (by kernel_rfl) (by kernel_rfl) (by kernel_rfl) (fun _ _ _ h => h) (Or.inl ⟨by rfl, by intro W hSW; (try dsimp only at hSW); go_simp; try (with_reducible rfl)⟩) hHeld ?_
      try simp only [Act.put, List.getElem_toArray, List.getElem_cons_zero, List.getElem_cons_succ, List.setIfInBounds_toArray, List.set_cons_zero, List.set_cons_succ]
      refine wpAnyH_done (by kernel_rfl) ?_ _
      refine NoPanic.normal ?_
      have HZ := Lib.hid (to_ HB1.out (to_ HQ7.out hHeld.2))
      clear hHeld
      go_wp2_with fail
      go_ret
      exact ⟨rfl, HZ.out⟩
end Go.Proofs.YthkbdclnnpcoiaaDoor.By
