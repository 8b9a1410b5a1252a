/-
  WALK of layer 9: the document's own Parse.
-/
import Derived.Test.YtnplhpbbdgnmiaaGreatDoorMb
namespace Go.Proofs.YtnplhpbbdgnmiaaGreatDoor.Ln
open Go.RowKit
open Mem Go.Lib

set_option linter.unusedSimpArgs false in
set_option maxRecDepth 100000 in
set_option maxHeartbeats 4000000 in
theorem rparse_any (s : ByteArray) (w : World) (hs : s.size ≤ 1000) :
    Calls Tryz.prog 21 #[.string s] w (ParAns s w) := by
  have HW := Lib.hid (fun W => rwords_any s W (by omega))
  have HWS := Lib.hid (show ∀ x ∈ wordsL s, x.size ≤ 1000000 from fun x h => by have := word_size s x h; omega)
  have HWL := Lib.hid (words_few s)
  have HP := Lib.hid (parV_tg s)
  have HZ := Lib.hid hs
  clear hs
  go_enter Tryz.func21, Tryz.ntmps21
  go_wp2_with fail
  refine (HW.out _).mono ?_
  rintro e w1 ⟨v, rfl, hown, hb1⟩
  have hsl := SlV.of_own hown
  obtain ⟨A, c, rfl⟩ := hsl.form
  rw [strs_length] at hsl ⊢
  have HB1 := Lib.hid ((show Below w.heap.size w _ from (Below.refl w.heap.size w).alloc (Nat.le_refl _) _).trans (hb1.mono (by simp)))
  have K1 := Lib.hid ((Blk.new w 34 #[.int .i64 0, .int .i64 0, .int .i64 0, .int .i64 0, .int .i64 0]).below hb1 (by simp))
  clear hown hb1
  generalize wordsL s = ws at HP hsl HWS HWL ⊢
  cases ws with
  | nil =>
    have HF := Lib.hid (show parV s = (zeroI, 3) from HP.out)
    have r0 : w1.cell? ⟨w.heap.size, 0, none⟩ = some (.int .i64 0) := by rw [K1.out.cell]; rfl
    have r1 : w1.cell? ⟨w.heap.size, 1, none⟩ = some (.int .i64 0) := by rw [K1.out.cell]; rfl
    have r2 : w1.cell? ⟨w.heap.size, 2, none⟩ = some (.int .i64 0) := by rw [K1.out.cell]; rfl
    have r3 : w1.cell? ⟨w.heap.size, 3, none⟩ = some (.int .i64 0) := by rw [K1.out.cell]; rfl
    have r4 : w1.cell? ⟨w.heap.size, 4, none⟩ = some (.int .i64 0) := by rw [K1.out.cell]; rfl
    have t0 : w1.frozen? ⟨w.heap.size, 0, none⟩ = false := K1.out.frozen 0
    have t1 : w1.frozen? ⟨w.heap.size, 1, none⟩ = false := K1.out.frozen 1
    have t2 : w1.frozen? ⟨w.heap.size, 2, none⟩ = false := K1.out.frozen 2
    have t3 : w1.frozen? ⟨w.heap.size, 3, none⟩ = false := K1.out.frozen 3
    have t4 : w1.frozen? ⟨w.heap.size, 4, none⟩ = false := K1.out.frozen 4
    have hl1 : w.heap.size < w1.heap.size := K1.out.lt
    clear hsl
    go_wp2_with fail
    refine bodyPost_ret (v := .tuple #[.agg zeroI, .int .i64 3]) ?_ rfl ⟨by rw [HF.out], ?_⟩
    · simp [zeroI, By.insC, results, Tryz.results21, go_sem, r0, r1, r2, r3, r4]
    · exact five_below HB1.out (Nat.le_refl _) _ _ _ _ _
  | cons x l =>
    obtain ⟨M, hM⟩ : ∃ M, (x :: l).length = M + 1 := ⟨_, rfl⟩
    rw [hM] at hsl ⊢
    obtain ⟨ad, rfl, hc0⟩ := slv_first hM hsl
    have HSL := Lib.hid hsl
    have hn0 : ((M : Int) + 1 == 0) = false := by simp; omega
    have hnp : (0 : Int) < (M : Int) + 1 := by omega
    have HFN := Lib.hid (fun W => By.rfind_any x W)
    obtain ⟨o, ho⟩ : ∃ o, By.fnV x.data.toList = o := ⟨_, rfl⟩
    rw [ho] at HFN
    have HO := Lib.hid ho
    have hl1 : w.heap.size < w1.heap.size := K1.out.lt
    clear hsl ho
    go_wp2_with fail
    refine (HFN.out _).mono ?_
    rintro e w2 ⟨rfl, hb2⟩
    have HOW := Lib.hid (By.rown_any o)
    obtain ⟨ow, how⟩ : ∃ ow, By.ownV o = ow := ⟨_, rfl⟩
    rw [how] at HOW
    have HTG := Lib.hid (show tgO (x :: l) = if ow = false then none else (rdL 0 (By.shV o).data.toList l (0, 0, 0, 0)).map fun q => (o, q) by rw [← how, ← HO.out]; rfl)
    have HOO := Lib.hid (show ow = true → 1 ≤ o ∧ o ≤ 24 from fun h => by rw [← how] at h; simpa [By.ownV] using h)
    clear how
    go_wp2_with fail
    obtain ⟨w3, hw3⟩ : ∃ W, w2.alloc (.cells #[.int .i64 o, .int .i64 0, .int .i64 0, .int .i64 0, .int .i64 0] 34) = W := ⟨_, rfl⟩
    have hG2 : w1.heap.size ≤ w2.heap.size := hb2.size
    rw [hw3]
    have X3 := Lib.hid (show Blk w3 w2.heap.size 34 (insQ o (0, 0, 0, 0)) by rw [← hw3]; exact Blk.new _ _ _)
    have B3 := Lib.hid (show Below w1.heap.size w1 w3 by rw [← hw3]; exact hb2.alloc hG2 _)
    have k0 : w3.cell? ⟨w2.heap.size, 0, none⟩ = some (.int .i64 o) := by rw [X3.out.cell]; rfl
    have k1 : w3.cell? ⟨w2.heap.size, 1, none⟩ = some (.int .i64 0) := by rw [X3.out.cell]; rfl
    have hlx : w2.heap.size < w3.heap.size := X3.out.lt
    clear hb2
    refine (HOW.out _).mono ?_
    rintro e w4 ⟨rfl, rfl⟩
    have K3 := Lib.hid (K1.out.below B3.out K1.out.lt)
    have HB3 := Lib.hid (HB1.out.trans (B3.out.mono (by omega)))
    cases ow with
    | false =>
      have HF := Lib.hid (show parV s = (zeroI, 3) by rw [HP.out, HTG.out]; rfl)
      have r0 : w3.cell? ⟨w.heap.size, 0, none⟩ = some (.int .i64 0) := by rw [K3.out.cell]; rfl
      have r1 : w3.cell? ⟨w.heap.size, 1, none⟩ = some (.int .i64 0) := by rw [K3.out.cell]; rfl
      have r2 : w3.cell? ⟨w.heap.size, 2, none⟩ = some (.int .i64 0) := by rw [K3.out.cell]; rfl
      have r3 : w3.cell? ⟨w.heap.size, 3, none⟩ = some (.int .i64 0) := by rw [K3.out.cell]; rfl
      have r4 : w3.cell? ⟨w.heap.size, 4, none⟩ = some (.int .i64 0) := by rw [K3.out.cell]; rfl
      have t0 : w3.frozen? ⟨w.heap.size, 0, none⟩ = false := K3.out.frozen 0
      have t1 : w3.frozen? ⟨w.heap.size, 1, none⟩ = false := K3.out.frozen 1
      have t2 : w3.frozen? ⟨w.heap.size, 2, none⟩ = false := K3.out.frozen 2
      have t3 : w3.frozen? ⟨w.heap.size, 3, none⟩ = false := K3.out.frozen 3
      have t4 : w3.frozen? ⟨w.heap.size, 4, none⟩ = false := K3.out.frozen 4
      have hl1 : w.heap.size < w3.heap.size := K3.out.lt
      go_wp2_with fail
      refine bodyPost_ret (v := .tuple #[.agg zeroI, .int .i64 3]) ?_ rfl ⟨by rw [HF.out], ?_⟩
      · simp [zeroI, By.insC, results, Tryz.results21, go_sem, r0, r1, r2, r3, r4]
      · exact five_below HB3.out (Nat.le_refl _) _ _ _ _ _
    | true =>
      have ho := HOO.out rfl
      have HSH := Lib.hid (By.rshape_any o (by omega) (by omega) w3)
      have HTG2 := Lib.hid (show tgO (x :: l) = (rdL 0 (By.shV o).data.toList l (0, 0, 0, 0)).map fun q => (o, q) from HTG.out)
      have HRC := Lib.hid (fun a b c2 n2 W => By.rcheck_any o a b c2 n2 W (by omega) (by omega))
      clear HTG ho
      go_wp2_with fail
      refine HSH.out.mono ?_
      rintro e w4 ⟨rfl, hb4⟩
      have hs4 : w3.heap.size ≤ w4.heap.size := hb4.size
      have X4 := Lib.hid (X3.out.below hb4 hlx)
      have B4 := Lib.hid (B3.out.trans (hb4.mono (by omega)))
      clear hb4 HSH k0 k1 X3 B3 K3 HB3
      obtain ⟨hsz, _⟩ := shape_facts o
      obtain ⟨sh, hsh⟩ : ∃ sh, By.shV o = sh := ⟨_, rfl⟩
      rw [hsh] at hsz HTG2
      rw [hsh]
      clear hsh
      have HM0 := Lib.hid (RSt.start sh.data.toList l)
      have HLM := Lib.hid (show l.length = M by simpa using hM)
      have hMs := HWL.out
      rw [hM] at hMs
      have hs := HZ.out
      have hMs : M ≤ 1000 := by omega
      go_wp2_with fail
      go_loopw [7, 8] (fun av iv wr => ∃ (k m : Nat) (q : Q), k ≤ sh.size ∧ av = .int .i64 ((m : Int) + 1) ∧ iv = .int .i64 k ∧ Hid (Below w1.heap.size w1 wr) ∧ Hid (Blk wr w2.heap.size 34 (insQ o q)) ∧ Hid (RSt sh.data.toList l k m q)) (fun _ iv _ => sh.size - (intOf iv).toNat)
      case atStart => exact ⟨0, 0, (0, 0, 0, 0), by omega, rfl, rfl, B4, X4, HM0⟩
      case round =>
        obtain ⟨k, m, ⟨a, b, c2, n2⟩, hk, rfl, rfl, HB, HK, HM⟩ := hrel
        obtain ⟨wz, hwz⟩ : ∃ wz, wz = wr := ⟨_, rfl⟩
        subst hwz
        have hmk := HM.out.2.1
        have hml := HM.out.2.2
        have hlm := HLM.out
        by_cases hlt : k < sh.size
        · have hks' : (k : Int) < (sh.size : Int) := by omega
          have hkl : k < sh.data.toList.length := by rw [len_list]; exact hlt
          have hx : sh.data.toList[k]? = some (sh[k]'hlt) := by rw [List.getElem?_eq_getElem hkl]; simp [ByteArray.getElem_eq_getElem_data]
          obtain ⟨x2, hxe⟩ : ∃ x2, (sh[k]'hlt) = x2 := ⟨_, rfl⟩
          rw [hxe] at hx
          have HX2 := Lib.hid hx
          by_cases h45 : x2 = 45
          · subst h45
            have hq2 : (((sh[k]'hlt).toNat : Int) == 45) = true := by rw [hxe]; rfl
            have HM2 := Lib.hid (HM.out.skip HX2.out)
            clear hx hxe HM
            go_wp2_with fail
            go_roundw
            case rel => exact ⟨k + 1, m, (a, b, c2, n2), by omega, rfl, by go_num, HB, HK, HM2⟩
            case measure => simp [intOf]; omega
          · have hq2 : (((sh[k]'hlt).toNat : Int) == 45) = false := by
              rw [hxe]
              exact eq_false fun e => h45 (UInt8.toNat_inj.1 (by have h2 : (45 : UInt8).toNat = 45 := rfl; omega))
            have hq3 : (((sh[k]'hlt).toNat : Int) != 45) = true := by unfold bne; rw [hq2]; rfl
            by_cases hm : M ≤ m
            · have hmI : (M : Int) + 1 ≤ (m : Int) + 1 := by omega
              have HF := Lib.hid (show parV s = (zeroI, 3) by rw [HP.out, HTG2.out, HM.out.few HX2.out h45 (by omega)]; rfl)
              have KZ := Lib.hid (K1.out.below HB.out (by omega))
              have BZ := Lib.hid (HB1.out.trans (HB.out.mono (by omega)))
              have r0 : wz.cell? ⟨w.heap.size, 0, none⟩ = some (.int .i64 0) := by rw [KZ.out.cell]; rfl
              have r1 : wz.cell? ⟨w.heap.size, 1, none⟩ = some (.int .i64 0) := by rw [KZ.out.cell]; rfl
              have r2 : wz.cell? ⟨w.heap.size, 2, none⟩ = some (.int .i64 0) := by rw [KZ.out.cell]; rfl
              have r3 : wz.cell? ⟨w.heap.size, 3, none⟩ = some (.int .i64 0) := by rw [KZ.out.cell]; rfl
              have r4 : wz.cell? ⟨w.heap.size, 4, none⟩ = some (.int .i64 0) := by rw [KZ.out.cell]; rfl
              have t0 : wz.frozen? ⟨w.heap.size, 0, none⟩ = false := KZ.out.frozen 0
              have t1 : wz.frozen? ⟨w.heap.size, 1, none⟩ = false := KZ.out.frozen 1
              have t2 : wz.frozen? ⟨w.heap.size, 2, none⟩ = false := KZ.out.frozen 2
              have t3 : wz.frozen? ⟨w.heap.size, 3, none⟩ = false := KZ.out.frozen 3
              have t4 : wz.frozen? ⟨w.heap.size, 4, none⟩ = false := KZ.out.frozen 4
              have hl1 : w.heap.size < wz.heap.size := KZ.out.lt
              clear hx hxe
              go_wp2_with fail
              refine bodyPost_ret (v := .tuple #[.agg zeroI, .int .i64 3]) ?_ rfl ⟨by rw [HF.out], ?_⟩
              · simp [zeroI, By.insC, results, Tryz.results21, go_sem, r0, r1, r2, r3, r4]
              · exact five_below BZ.out (Nat.le_refl _) _ _ _ _ _
            · have hmI : ¬ (M : Int) + 1 ≤ (m : Int) + 1 := by omega
              have hmI2 : (m : Int) + 1 < (M : Int) + 1 := by omega
              obtain ⟨ad3, y, ea, hyg, hcy⟩ := slv_cells (j := m + 1) hM HSL.out (by omega)
              injection ea with ea
              subst ea
              have hyg2 : l[m]? = some y := by simpa using hyg
              have HYG := Lib.hid hyg2
              have hcy2 : wz.cell? (ad.add (m + 1)) = some (.string y) := (HB.out.cell (World.block_lt_of_cell? w1 _ hcy)).trans hcy
              have hcy3 : wz.cell? ⟨ad.block, ad.off + (m + 1), none⟩ = some (.string y) := by
                have h := hcy2
                unfold Addr.add at h
                rwa [if_neg (by omega)] at h
              have HYS := Lib.hid (HWS.out y (List.mem_cons_of_mem _ (List.mem_of_getElem? hyg2)))
              obtain ⟨p, hp2⟩ : ∃ p, rdV ((x2.toNat : Nat) : Int) y = p := ⟨_, rfl⟩
              have HRD := Lib.hid (fun W => by have h := roper_any (sh[k]'hlt).toNat y W HYS.out; rw [show rdV (((sh[k]'hlt).toNat : Nat) : Int) y = p by rw [hxe]; exact hp2] at h; exact h)
              have HP2 := Lib.hid hp2
              have hto : ((m : Int) + 1).toNat = m + 1 := by omega
              have h0m : (0 : Int) ≤ (m : Int) + 1 := by omega
              clear hp2 hyg hyg2 hcy hx hxe
              go_wp2_with fail
              refine wp_region_noPanic ?_
              refine wp_region_held_drew (S := fun _ => True) (by kernel_rfl) (trivial) (fun hHeld => ?_)
              refine wpAnyH_take (i := 0) rfl (by kernel_rfl) (by kernel_rfl) (by kernel_rfl) (fun _ _ _ h => h) (Or.inl ⟨by rfl, by intro W hSW; (try dsimp only at hSW); go_simp; try (with_reducible rfl)⟩) hHeld ?_
              try simp only [Act.put, List.getElem_toArray, List.getElem_cons_zero, List.getElem_cons_succ, List.setIfInBounds_toArray, List.set_cons_zero, List.set_cons_succ]
              refine wpAnyH_take (i := 1) rfl (by kernel_rfl) (by kernel_rfl) (by kernel_rfl) (fun _ _ _ h => h) (Or.inl ⟨by rfl, by intro W hSW; (try dsimp only at hSW); go_simp; try (with_reducible rfl)⟩) hHeld ?_
              try simp only [Act.put, List.getElem_toArray, List.getElem_cons_zero, List.getElem_cons_succ, List.setIfInBounds_toArray, List.set_cons_zero, List.set_cons_succ]
              refine wpAnyH_take (i := 2) rfl (by kernel_rfl) (by kernel_rfl) (by kernel_rfl) (fun _ _ _ h => h) (Or.inl ⟨by rfl, by intro W hSW; (try dsimp only at hSW); go_simp; try (with_reducible rfl)⟩) hHeld ?_
              try simp only [Act.put, List.getElem_toArray, List.getElem_cons_zero, List.getElem_cons_succ, List.setIfInBounds_toArray, List.set_cons_zero, List.set_cons_succ]
              refine wpAnyH_take (i := 3) rfl (by kernel_rfl) (by kernel_rfl) (by kernel_rfl) (fun _ _ _ h => h) (Or.inl ⟨by rfl, by intro W hSW; (try dsimp only at hSW); go_simp; try (with_reducible rfl)⟩) hHeld ?_
              try simp only [Act.put, List.getElem_toArray, List.getElem_cons_zero, List.getElem_cons_succ, List.setIfInBounds_toArray, List.set_cons_zero, List.set_cons_succ]
              refine wpAnyH_take (i := 4) rfl (by kernel_rfl) (by kernel_rfl) (by kernel_rfl) (fun _ _ _ h => h) (Or.inl ⟨by rfl, by intro W hSW; (try dsimp only at hSW); go_simp; try (with_reducible rfl)⟩) hHeld ?_
              try simp only [Act.put, List.getElem_toArray, List.getElem_cons_zero, List.getElem_cons_succ, List.setIfInBounds_toArray, List.set_cons_zero, List.set_cons_succ]
              refine wpAnyH_take (i := 5) rfl (by kernel_rfl) (by kernel_rfl) (by kernel_rfl) (fun _ _ _ h => h) (Or.inl ⟨by rfl, by intro W hSW; (try dsimp only at hSW); go_simp; try (with_reducible rfl)⟩) hHeld ?_
              try simp only [Act.put, List.getElem_toArray, List.getElem_cons_zero, List.getElem_cons_succ, List.setIfInBounds_toArray, List.set_cons_zero, List.set_cons_succ]
              refine wpAnyH_ready (rs := [6]) (by kernel_rfl) (by simp) ?_
              refine AllReadyH.cons rfl (fun K hK => ?_) AllReadyH.nil
              go_simp
              refine hK.out _ _ (hHeld) ?_
              clear hK K hHeld
              intro hHeld
              try simp only [Act.put, List.getElem_toArray, List.getElem_cons_zero, List.getElem_cons_succ, List.setIfInBounds_toArray, List.set_cons_zero, List.set_cons_succ]
              refine wpAnyH_ready (rs := [7]) (by kernel_rfl) (by simp) ?_
              refine AllReadyH.cons rfl (fun K hK => ?_) AllReadyH.nil
              go_simp
              refine (HRD.out _).mono ?_; rintro e w5 ⟨rfl, hb5⟩
              try go_wp2_with fail
              refine hK.out _ _ (trivial) ?_
              clear hK K hHeld
              intro hHeld
              try simp only [Act.put, List.getElem_toArray, List.getElem_cons_zero, List.getElem_cons_succ, List.setIfInBounds_toArray, List.set_cons_zero, List.set_cons_succ]
              refine wpAnyH_take (i := 8) rfl (by kernel_rfl) (by kernel_rfl) (by kernel_rfl) (fun _ _ _ h => h) (Or.inl ⟨by rfl, by intro W hSW; (try dsimp only at hSW); go_simp; try (with_reducible rfl)⟩) hHeld ?_
              try simp only [Act.put, List.getElem_toArray, List.getElem_cons_zero, List.getElem_cons_succ, List.setIfInBounds_toArray, List.set_cons_zero, List.set_cons_succ]
              refine wpAnyH_take (i := 9) rfl (by kernel_rfl) (by kernel_rfl) (by kernel_rfl) (fun _ _ _ h => h) (Or.inl ⟨by rfl, by intro W hSW; (try dsimp only at hSW); go_simp; try (with_reducible rfl)⟩) hHeld ?_
              try simp only [Act.put, List.getElem_toArray, List.getElem_cons_zero, List.getElem_cons_succ, List.setIfInBounds_toArray, List.set_cons_zero, List.set_cons_succ]
              refine wpAnyH_take (i := 10) rfl (by kernel_rfl) (by kernel_rfl) (by kernel_rfl) (fun _ _ _ h => h) (Or.inl ⟨by rfl, by intro W hSW; (try dsimp only at hSW); go_simp; try (with_reducible rfl)⟩) hHeld ?_
              try simp only [Act.put, List.getElem_toArray, List.getElem_cons_zero, List.getElem_cons_succ, List.setIfInBounds_toArray, List.set_cons_zero, List.set_cons_succ]
              refine wpAnyH_take (i := 11) rfl (by kernel_rfl) (by kernel_rfl) (by kernel_rfl) (fun _ _ _ h => h) (Or.inl ⟨by rfl, by intro W hSW; (try dsimp only at hSW); go_simp; try (with_reducible rfl)⟩) hHeld ?_
              try simp only [Act.put, List.getElem_toArray, List.getElem_cons_zero, List.getElem_cons_succ, List.setIfInBounds_toArray, List.set_cons_zero, List.set_cons_succ]
              refine wpAnyH_take (i := 12) rfl (by kernel_rfl) (by kernel_rfl) (by kernel_rfl) (fun _ _ _ h => h) (Or.inl ⟨by rfl, by intro W hSW; (try dsimp only at hSW); go_simp; try (with_reducible rfl)⟩) hHeld ?_
              try simp only [Act.put, List.getElem_toArray, List.getElem_cons_zero, List.getElem_cons_succ, List.setIfInBounds_toArray, List.set_cons_zero, List.set_cons_succ]
              refine wpAnyH_done (by kernel_rfl) ?_ _
              refine NoPanic.normal ?_
              have hb6 : Below wz.heap.size wz w5 := (Below.refl wz.heap.size wz).drew.trans hb5
              have hwzs := HB.out.size
              have hkl2 := HK.out.lt
              have HB5 := Lib.hid (HB.out.trans (hb6.mono hwzs))
              have X5 := Lib.hid (HK.out.below hb6 hkl2)
              have K5 := Lib.hid (K1.out.below HB5.out K1.out.lt)
              have BW5 := Lib.hid (HB1.out.trans (HB5.out.mono (by omega)))
              clear hb5 hb6 hcy2 hcy3 HB HK
              obtain ⟨v, bl⟩ := p
              cases bl with
              | false =>
                have HF := Lib.hid (show parV s = (zeroI, 3) by rw [HP.out, HTG2.out, HM.out.no HX2.out h45 HYG.out (by rw [HP2.out])]; rfl)
                have r0 : w5.cell? ⟨w.heap.size, 0, none⟩ = some (.int .i64 0) := by rw [K5.out.cell]; rfl
                have r1 : w5.cell? ⟨w.heap.size, 1, none⟩ = some (.int .i64 0) := by rw [K5.out.cell]; rfl
                have r2 : w5.cell? ⟨w.heap.size, 2, none⟩ = some (.int .i64 0) := by rw [K5.out.cell]; rfl
                have r3 : w5.cell? ⟨w.heap.size, 3, none⟩ = some (.int .i64 0) := by rw [K5.out.cell]; rfl
                have r4 : w5.cell? ⟨w.heap.size, 4, none⟩ = some (.int .i64 0) := by rw [K5.out.cell]; rfl
                have t0 : w5.frozen? ⟨w.heap.size, 0, none⟩ = false := K5.out.frozen 0
                have t1 : w5.frozen? ⟨w.heap.size, 1, none⟩ = false := K5.out.frozen 1
                have t2 : w5.frozen? ⟨w.heap.size, 2, none⟩ = false := K5.out.frozen 2
                have t3 : w5.frozen? ⟨w.heap.size, 3, none⟩ = false := K5.out.frozen 3
                have t4 : w5.frozen? ⟨w.heap.size, 4, none⟩ = false := K5.out.frozen 4
                have hl1 : w.heap.size < w5.heap.size := K5.out.lt
                go_wp2_with fail
                refine bodyPost_ret (v := .tuple #[.agg zeroI, .int .i64 3]) ?_ rfl ⟨by rw [HF.out], ?_⟩
                · simp [zeroI, By.insC, results, Tryz.results21, go_sem, r0, r1, r2, r3, r4]
                · exact five_below BW5.out (Nat.le_refl _) _ _ _ _ _
              | true =>
                have HM2 := Lib.hid (HM.out.put HX2.out h45 HYG.out (by rw [HP2.out]))
                have hP2 := HP2.out
                rw [hP2] at HM2
                obtain ⟨⟨a', b', c2', n2'⟩, hq'⟩ : ∃ q', putQ (a, b, c2, n2) k v = q' := ⟨_, rfl⟩
                have hW := By.rwith_any o a b c2 n2 (k : Int) v
                have hwp := with_put o (a, b, c2, n2) k v
                simp only at hwp
                rw [hwp, hq'] at hW
                have HW2 := Lib.hid (show ∀ W, Calls Tryz.prog 44 #[.agg #[.int .i64 o, .int .i64 a, .int .i64 b, .int .i64 c2, .int .i64 n2], .int .i64 (k : Int), .int .i64 v] W fun e w' => e = .returned (.agg #[.int .i64 o, .int .i64 a', .int .i64 b', .int .i64 c2', .int .i64 n2']) ∧ Below W.heap.size W w' from hW)
                rw [hq'] at HM2
                clear hP2 hq' hwp hW HM HP2
                have k0 : w5.cell? ⟨w2.heap.size, 0, none⟩ = some (.int .i64 o) := by rw [X5.out.cell]; rfl
                have k1 : w5.cell? ⟨w2.heap.size, 1, none⟩ = some (.int .i64 a) := by rw [X5.out.cell]; rfl
                have k2 : w5.cell? ⟨w2.heap.size, 2, none⟩ = some (.int .i64 b) := by rw [X5.out.cell]; rfl
                have k3 : w5.cell? ⟨w2.heap.size, 3, none⟩ = some (.int .i64 c2) := by rw [X5.out.cell]; rfl
                have k4 : w5.cell? ⟨w2.heap.size, 4, none⟩ = some (.int .i64 n2) := by rw [X5.out.cell]; rfl
                have f0 : w5.frozen? ⟨w2.heap.size, 0, none⟩ = false := X5.out.frozen 0
                have f1 : w5.frozen? ⟨w2.heap.size, 1, none⟩ = false := X5.out.frozen 1
                have f2 : w5.frozen? ⟨w2.heap.size, 2, none⟩ = false := X5.out.frozen 2
                have f3 : w5.frozen? ⟨w2.heap.size, 3, none⟩ = false := X5.out.frozen 3
                have f4 : w5.frozen? ⟨w2.heap.size, 4, none⟩ = false := X5.out.frozen 4
                have hlx5 : w2.heap.size < w5.heap.size := X5.out.lt
                go_wp2_with fail
                refine (HW2.out _).mono ?_
                rintro e w6 ⟨rfl, hb6⟩
                have X6 := Lib.hid (X5.out.below hb6 hlx5)
                have B6 := Lib.hid (HB5.out.trans (hb6.mono (by omega)))
                clear hb6 k0 k1 k2 k3 k4 f0 f1 f2 f3 f4 hlx5
                have k0 : w6.cell? ⟨w2.heap.size, 0, none⟩ = some (.int .i64 o) := by rw [X6.out.cell]; rfl
                have k1 : w6.cell? ⟨w2.heap.size, 1, none⟩ = some (.int .i64 a) := by rw [X6.out.cell]; rfl
                have k2 : w6.cell? ⟨w2.heap.size, 2, none⟩ = some (.int .i64 b) := by rw [X6.out.cell]; rfl
                have k3 : w6.cell? ⟨w2.heap.size, 3, none⟩ = some (.int .i64 c2) := by rw [X6.out.cell]; rfl
                have k4 : w6.cell? ⟨w2.heap.size, 4, none⟩ = some (.int .i64 n2) := by rw [X6.out.cell]; rfl
                have f0 : w6.frozen? ⟨w2.heap.size, 0, none⟩ = false := X6.out.frozen 0
                have f1 : w6.frozen? ⟨w2.heap.size, 1, none⟩ = false := X6.out.frozen 1
                have f2 : w6.frozen? ⟨w2.heap.size, 2, none⟩ = false := X6.out.frozen 2
                have f3 : w6.frozen? ⟨w2.heap.size, 3, none⟩ = false := X6.out.frozen 3
                have f4 : w6.frozen? ⟨w2.heap.size, 4, none⟩ = false := X6.out.frozen 4
                have hlx6 : w2.heap.size < w6.heap.size := X6.out.lt
                have K7 := Lib.hid (five_blk X6.out (.int .i64 o) (.int .i64 a') (.int .i64 b') (.int .i64 c2') (.int .i64 n2'))
                have B7 := Lib.hid (five_below B6.out hG2 (.int .i64 o) (.int .i64 a') (.int .i64 b') (.int .i64 c2') (.int .i64 n2'))
                have hmw : ((m : Int) + 1 + 1) = (((m + 1 : Nat) : Int) + 1) := by omega
                go_wp2_with fail
                go_roundw
                case rel => exact ⟨k + 1, m + 1, (a', b', c2', n2'), by omega, by rw [← hmw], by go_num, B7, K7, HM2⟩
                case measure => simp [intOf]; omega
        · have hks' : ¬ (k : Int) < (sh.size : Int) := by omega
          have hpl : sh.data.toList.length ≤ k := by rw [len_list]; omega
          have KZ := Lib.hid (K1.out.below HB.out (by omega))
          have BZ := Lib.hid (HB1.out.trans (HB.out.mono (by omega)))
          by_cases hz : m = M
          · have hzq : (((m : Int) + 1) == ((M : Int) + 1)) = true := by simp; omega
            have hzq2 : (((m : Int) + 1) != ((M : Int) + 1)) = false := by simp; omega
            have HF := Lib.hid (show parV s = if By.chV o a b c2 n2 ≠ 0 then (zeroI, By.chV o a b c2 n2) else (insQ o (a, b, c2, n2), 0) by rw [HP.out, HTG2.out, HM.out.done hpl (by omega)]; rfl)
            have HCK := Lib.hid (HRC.out a b c2 n2 wz)
            obtain ⟨ck, hck⟩ : ∃ ck, By.chV o a b c2 n2 = ck := ⟨_, rfl⟩
            rw [hck] at HF HCK
            clear hck
            have k0 : wz.cell? ⟨w2.heap.size, 0, none⟩ = some (.int .i64 o) := by rw [HK.out.cell]; rfl
            have k1 : wz.cell? ⟨w2.heap.size, 1, none⟩ = some (.int .i64 a) := by rw [HK.out.cell]; rfl
            have k2 : wz.cell? ⟨w2.heap.size, 2, none⟩ = some (.int .i64 b) := by rw [HK.out.cell]; rfl
            have k3 : wz.cell? ⟨w2.heap.size, 3, none⟩ = some (.int .i64 c2) := by rw [HK.out.cell]; rfl
            have k4 : wz.cell? ⟨w2.heap.size, 4, none⟩ = some (.int .i64 n2) := by rw [HK.out.cell]; rfl
            have hlx6 : w2.heap.size < wz.heap.size := HK.out.lt
            go_wp2_with fail
            refine HCK.out.mono ?_
            rintro e w6 ⟨rfl, hb6⟩
            have K6 := Lib.hid (KZ.out.below hb6 KZ.out.lt)
            have X6 := Lib.hid (HK.out.below hb6 HK.out.lt)
            have B6 := Lib.hid (BZ.out.trans (hb6.mono BZ.out.size))
            clear hb6 k0 k1 k2 k3 k4 hlx6
            have k0 : w6.cell? ⟨w2.heap.size, 0, none⟩ = some (.int .i64 o) := by rw [X6.out.cell]; rfl
            have k1 : w6.cell? ⟨w2.heap.size, 1, none⟩ = some (.int .i64 a) := by rw [X6.out.cell]; rfl
            have k2 : w6.cell? ⟨w2.heap.size, 2, none⟩ = some (.int .i64 b) := by rw [X6.out.cell]; rfl
            have k3 : w6.cell? ⟨w2.heap.size, 3, none⟩ = some (.int .i64 c2) := by rw [X6.out.cell]; rfl
            have k4 : w6.cell? ⟨w2.heap.size, 4, none⟩ = some (.int .i64 n2) := by rw [X6.out.cell]; rfl
            have hlx6 : w2.heap.size < w6.heap.size := X6.out.lt
            have r0 : w6.cell? ⟨w.heap.size, 0, none⟩ = some (.int .i64 0) := by rw [K6.out.cell]; rfl
            have r1 : w6.cell? ⟨w.heap.size, 1, none⟩ = some (.int .i64 0) := by rw [K6.out.cell]; rfl
            have r2 : w6.cell? ⟨w.heap.size, 2, none⟩ = some (.int .i64 0) := by rw [K6.out.cell]; rfl
            have r3 : w6.cell? ⟨w.heap.size, 3, none⟩ = some (.int .i64 0) := by rw [K6.out.cell]; rfl
            have r4 : w6.cell? ⟨w.heap.size, 4, none⟩ = some (.int .i64 0) := by rw [K6.out.cell]; rfl
            have t0 : w6.frozen? ⟨w.heap.size, 0, none⟩ = false := K6.out.frozen 0
            have t1 : w6.frozen? ⟨w.heap.size, 1, none⟩ = false := K6.out.frozen 1
            have t2 : w6.frozen? ⟨w.heap.size, 2, none⟩ = false := K6.out.frozen 2
            have t3 : w6.frozen? ⟨w.heap.size, 3, none⟩ = false := K6.out.frozen 3
            have t4 : w6.frozen? ⟨w.heap.size, 4, none⟩ = false := K6.out.frozen 4
            have hl1 : w.heap.size < w6.heap.size := K6.out.lt
            by_cases hc : ck = 0
            · subst hc
              have HF2 := Lib.hid (show parV s = (insQ o (a, b, c2, n2), 0) from HF.out)
              go_wp2_with fail
              refine bodyPost_ret (v := .tuple #[.agg (insQ o (a, b, c2, n2)), .int .i64 0]) ?_ rfl ⟨by rw [HF2.out], ?_⟩
              · simp [insQ, By.insC, results, Tryz.results21, go_sem, r0, r1, r2, r3, r4]
              · exact five_below B6.out (Nat.le_refl _) _ _ _ _ _
            · have HF2 := Lib.hid (show parV s = (zeroI, ck) by rw [HF.out, if_pos hc])
              have hzc : (ck == 0) = false := by simpa using hc
              go_wp2_with fail
              refine bodyPost_ret (v := .tuple #[.agg zeroI, .int .i64 ck]) ?_ rfl ⟨by rw [HF2.out], ?_⟩
              · simp [zeroI, By.insC, results, Tryz.results21, go_sem, r0, r1, r2, r3, r4]
              · exact five_below B6.out (Nat.le_refl _) _ _ _ _ _
          · have hzq : (((m : Int) + 1) == ((M : Int) + 1)) = false := by simp; omega
            have hzq2 : (((m : Int) + 1) != ((M : Int) + 1)) = true := by simp; omega
            have HF := Lib.hid (show parV s = (zeroI, 3) by rw [HP.out, HTG2.out, HM.out.more hpl (by omega)]; rfl)
            have r0 : wz.cell? ⟨w.heap.size, 0, none⟩ = some (.int .i64 0) := by rw [KZ.out.cell]; rfl
            have r1 : wz.cell? ⟨w.heap.size, 1, none⟩ = some (.int .i64 0) := by rw [KZ.out.cell]; rfl
            have r2 : wz.cell? ⟨w.heap.size, 2, none⟩ = some (.int .i64 0) := by rw [KZ.out.cell]; rfl
            have r3 : wz.cell? ⟨w.heap.size, 3, none⟩ = some (.int .i64 0) := by rw [KZ.out.cell]; rfl
            have r4 : wz.cell? ⟨w.heap.size, 4, none⟩ = some (.int .i64 0) := by rw [KZ.out.cell]; rfl
            have t0 : wz.frozen? ⟨w.heap.size, 0, none⟩ = false := KZ.out.frozen 0
            have t1 : wz.frozen? ⟨w.heap.size, 1, none⟩ = false := KZ.out.frozen 1
            have t2 : wz.frozen? ⟨w.heap.size, 2, none⟩ = false := KZ.out.frozen 2
            have t3 : wz.frozen? ⟨w.heap.size, 3, none⟩ = false := KZ.out.frozen 3
            have t4 : wz.frozen? ⟨w.heap.size, 4, none⟩ = false := KZ.out.frozen 4
            have hl1 : w.heap.size < wz.heap.size := KZ.out.lt
            go_wp2_with fail
            refine bodyPost_ret (v := .tuple #[.agg zeroI, .int .i64 3]) ?_ rfl ⟨by rw [HF.out], ?_⟩
            · simp [zeroI, By.insC, results, Tryz.results21, go_sem, r0, r1, r2, r3, r4]
            · exact five_below BZ.out (Nat.le_refl _) _ _ _ _ _
end Go.Proofs.YtnplhpbbdgnmiaaGreatDoor.Ln
