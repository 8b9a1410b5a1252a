/-
  WALK: the law SumsTold, of any bytes that came in.
-/
import Derived.Test.YtlpmndljjdljmaaKs
import Derived.Test.YtlpmndljjdljmaaHm
namespace Go.Proofs.Ytlpmndljjdljmaa.By
open Go.ChangeShapes Go.WideShapes Go.ChangeAt Go.RowKit
open Mem Sm

set_option linter.unusedSimpArgs false in
set_option maxHeartbeats 4000000 in
theorem told_any (w : World) (l : List UInt8) (A : Option Addr) (c : Nat) (h : SlV w w.heap.size (.slice A l.length c) (u8s l)) :
    Calls Try.prog 4 #[.slice A l.length c] w fun e w' => e = .returned (.bool true) ∧ Below w.heap.size w w' := by
  by_cases hbig : 3000 < l.length
  · have hd : decide (3000 < (l.length : Int)) = true := by simp; omega
    clear h hbig
    generalize l.length = n at hd ⊢
    go_enter Try.func4, Try.ntmps4
    go_wp2_with fail
    refine (known_sum _).mono ?_
    rintro e w1 ⟨rfl, hb⟩
    go_wp2_with fail
    go_ret
    exact ⟨rfl, hb⟩
  have hd : decide (3000 < (l.length : Int)) = false := by simp; omega
  have HS := Lib.hid h
  have hc0 := text_of h
  have HL := Lib.hid (show l.length ≤ 3000 by omega)
  have HO := Lib.hid (open_any w l _ h (by omega))
  clear h hbig
  have HT0 := Lib.hid (show ∀ W B v, SlV W B v (u8s l) → (convert 22 9 v).run Try.prog W = .ok (.string ⟨l.toArray⟩) W from fun _ _ _ h => text_of h)
  have HT1 := Lib.hid (show ∀ W B v, SlV W B v (u8s (sealB l)) → (convert 22 9 v).run Try.prog W = .ok (.string ⟨(sealB l).toArray⟩) W from fun _ _ _ h => text_of h)
  have HT2 := Lib.hid (show ∀ W B v, SlV W B v (u8s (openB l)) → (convert 22 9 v).run Try.prog W = .ok (.string ⟨(openB l).toArray⟩) W from fun _ _ _ h => text_of h)
  unfold Opens at HO
  generalize hE : openE l = E at HO
  generalize hn : l.length = n at hd HS hc0 HO ⊢
  generalize hT0 : (⟨l.toArray⟩ : ByteArray) = T0 at HT0 hc0
  generalize hT1 : (⟨(sealB l).toArray⟩ : ByteArray) = T1 at HT1
  generalize hT2 : (⟨(openB l).toArray⟩ : ByteArray) = T2 at HT2
  have HE := Lib.hid hE
  have HN := Lib.hid hn
  clear hT0 hT1 hT2 hE hn
  go_enter Try.func4, Try.ntmps4
  go_wp2_with fail
  clear hc0
  refine HO.out.mono ?_
  rintro e u1 ⟨x, rfl, hx, hb1⟩
  have HB1 := Lib.hid hb1
  have HX1 := Lib.hid hx
  clear hx hb1 HO
  have HO2 := Lib.hid (show Calls Try.prog 19 #[.slice A n c] u1 (fun e w' => ∃ v, e = .returned (.tuple #[v, .int .i64 E]) ∧ SlV w' w'.heap.size v (u8s (openB l)) ∧ Below u1.heap.size u1 w') from by
    have h := ropen_any u1 l (.slice A n c) ((HS.out.below HB1.out).more HB1.out.size) (by have := HL.out; omega)
    unfold Opens at h
    rw [HE.out] at h
    exact h)
  go_wp2_with fail
  refine HO2.out.mono ?_
  rintro e u2 ⟨y, rfl, hy, hb2⟩
  have HB2 := Lib.hid (HB1.out.trans (hb2.mono HB1.out.size))
  have HX := Lib.hid ((HX1.out.below hb2).more hb2.size)
  have HY := Lib.hid hy
  have HZ := Lib.hid ((HS.out.below HB2.out).more HB2.out.size)
  clear hy hb2 HO2 HX1 HB1
  have hne := hd
  have MK := Lib.hid (show ∀ w', Below u2.heap.size u2 w' → ((convert 22 9 (.slice A n c)).run Try.prog w' = .ok (.string T0) w' ∧ (convert 22 9 x).run Try.prog w' = .ok (.string T2) w' ∧ (convert 22 9 y).run Try.prog w' = .ok (.string T2) w' ∧ Below u2.heap.size u2 w') from fun w' hb => ⟨HT0.out _ _ _ (HZ.out.below hb), HT2.out _ _ _ (HX.out.below hb), HT2.out _ _ _ (HY.out.below hb), hb⟩)
  obtain ⟨s, hs⟩ : ∃ s : Int, (sumV l : Int) = s := ⟨_, rfl⟩
  have COF := Lib.hid (show ∀ w', Below u2.heap.size u2 w' → Calls Try.prog 20 #[.slice A n c] w' (fun e w'' => e = .returned (.int .i64 s) ∧ Below u2.heap.size u2 w'') from fun w' hb => by
    rw [← hs]
    exact (of_any w' l u2.heap.size _ (HZ.out.below hb) hb.size).mono fun e w'' h => ⟨h.1, hb.trans (h.2.mono hb.size)⟩)
  have CRO := Lib.hid (show ∀ w', Below u2.heap.size u2 w' → Calls Try.prog 21 #[.slice A n c] w' (fun e w'' => e = .returned (.int .i64 s) ∧ Below u2.heap.size u2 w'') from fun w' hb => by
    rw [← hs]
    refine (rof_any w' l u2.heap.size _ (HZ.out.below hb) (by have := HL.out; omega)).mono ?_
    rintro e w'' ⟨he, q, hw⟩
    exact ⟨he, by rw [hw]; exact below_drewN hb q⟩)
  have CSE := Lib.hid (show ∀ w', Below u2.heap.size u2 w' → Calls Try.prog 22 #[.slice A n c] w' (fun e w'' => ∃ v, e = .returned v ∧ SlV w'' w''.heap.size v (u8s (sealB l)) ∧ Below u2.heap.size u2 w'') from fun w' hb => by
    refine (seal_any w' l _ ((HZ.out.below hb).more hb.size) (by have := HL.out; omega)).mono ?_
    rintro e w'' ⟨v, he, hown, hb2⟩
    exact ⟨v, he, SlV.of_own hown, hb.trans (hb2.mono hb.size)⟩)
  have CRS := Lib.hid (show ∀ w', Below u2.heap.size u2 w' → Calls Try.prog 23 #[.slice A n c] w' (fun e w'' => ∃ v, e = .returned v ∧ SlV w'' w''.heap.size v (u8s (sealB l)) ∧ Below w'.heap.size w' w'') from fun w' hb => by
    refine (rseal_any w' l _ ((HZ.out.below hb).more hb.size) (by have := HL.out; omega)).mono ?_
    rintro e w'' ⟨v, he, hown, hb2⟩
    exact ⟨v, he, SlV.of_own hown, hb2⟩)
  clear hs hne
  go_wp2_with fail
  refine wp_region_noPanic ?_
  refine wp_region_held_drew (S := fun w' => (convert 22 9 (.slice A n c)).run Try.prog w' = .ok (.string T0) w' ∧ (convert 22 9 x).run Try.prog w' = .ok (.string T2) w' ∧ (convert 22 9 y).run Try.prog w' = .ok (.string T2) w' ∧ Below u2.heap.size u2 w') (by kernel_rfl) (MK.out _ (Below.refl _ _).drew) (fun hHeld => ?_)
  refine wpAnyH_take (i := 0) rfl (by kernel_rfl) (by kernel_rfl) (by kernel_rfl) (fun _ _ _ h => h) (Or.inl ⟨by rfl, by intro W hSW; (try dsimp only at hSW); go_simp; try (with_reducible rfl)⟩) hHeld ?_
  try simp only [Act.put, List.getElem_toArray, List.getElem_cons_zero, List.getElem_cons_succ, List.setIfInBounds_toArray, List.set_cons_zero, List.set_cons_succ]
  refine wpAnyH_take (i := 2) rfl (by kernel_rfl) (by kernel_rfl) (by kernel_rfl) (fun _ _ _ h => h) (Or.inl ⟨by rfl, by intro W hSW; (try dsimp only at hSW); go_simp; try (with_reducible rfl)⟩) hHeld ?_
  try simp only [Act.put, List.getElem_toArray, List.getElem_cons_zero, List.getElem_cons_succ, List.setIfInBounds_toArray, List.set_cons_zero, List.set_cons_succ]
  refine wpAnyH_ready (rs := [1]) (by kernel_rfl) (by simp) ?_
  refine AllReadyH.cons rfl (fun K hK => ?_) AllReadyH.nil
  go_simp
  refine (COF.out _ hHeld.2.2.2).mono ?_; rintro e w4 ⟨rfl, qb⟩
  try go_wp2_with fail
  refine hK.out _ _ (MK.out _ qb) ?_
  clear hK K hHeld
  intro hHeld
  clear qb
  try simp only [Act.put, List.getElem_toArray, List.getElem_cons_zero, List.getElem_cons_succ, List.setIfInBounds_toArray, List.set_cons_zero, List.set_cons_succ]
  refine wpAnyH_ready (rs := [3]) (by kernel_rfl) (by simp) ?_
  refine AllReadyH.cons rfl (fun K hK => ?_) AllReadyH.nil
  go_simp
  refine (CRO.out _ hHeld.2.2.2).mono ?_; rintro e w5 ⟨rfl, qb⟩
  try go_wp2_with fail
  refine hK.out _ _ (MK.out _ qb) ?_
  clear hK K hHeld
  intro hHeld
  clear qb
  try simp only [Act.put, List.getElem_toArray, List.getElem_cons_zero, List.getElem_cons_succ, List.setIfInBounds_toArray, List.set_cons_zero, List.set_cons_succ]
  refine wpAnyH_take (i := 4) rfl (by kernel_rfl) (by kernel_rfl) (by kernel_rfl) (fun _ _ _ h => h) (Or.inl ⟨by rfl, by intro W hSW; (try dsimp only at hSW); go_simp; try (with_reducible rfl)⟩) hHeld ?_
  try simp only [Act.put, List.getElem_toArray, List.getElem_cons_zero, List.getElem_cons_succ, List.setIfInBounds_toArray, List.set_cons_zero, List.set_cons_succ]
  refine wpAnyH_take (i := 5) rfl (by kernel_rfl) (by kernel_rfl) (by kernel_rfl) (fun _ _ _ h => h) (Or.inl ⟨by rfl, by intro W hSW; (try dsimp only at hSW); go_simp; try (with_reducible rfl)⟩) hHeld ?_
  try simp only [Act.put, List.getElem_toArray, List.getElem_cons_zero, List.getElem_cons_succ, List.setIfInBounds_toArray, List.set_cons_zero, List.set_cons_succ]
  refine wpAnyH_take (i := 6) rfl (by kernel_rfl) (by kernel_rfl) (by kernel_rfl) (fun _ _ _ h => h) (Or.inl ⟨by rfl, by intro W hSW; (try dsimp only at hSW); go_simp; try (with_reducible rfl)⟩) hHeld ?_
  try simp only [Act.put, List.getElem_toArray, List.getElem_cons_zero, List.getElem_cons_succ, List.setIfInBounds_toArray, List.set_cons_zero, List.set_cons_succ]
  refine wpAnyH_take (i := 9) rfl (by kernel_rfl) (by kernel_rfl) (by kernel_rfl) (fun _ _ _ h => h) (Or.inl ⟨by rfl, by intro W hSW; (try dsimp only at hSW); go_simp; try (with_reducible rfl)⟩) hHeld ?_
  try simp only [Act.put, List.getElem_toArray, List.getElem_cons_zero, List.getElem_cons_succ, List.setIfInBounds_toArray, List.set_cons_zero, List.set_cons_succ]
  refine wpAnyH_ready (rs := [7]) (by kernel_rfl) (by simp) ?_
  refine AllReadyH.cons rfl (fun K hK => ?_) AllReadyH.nil
  go_simp
  refine (CSE.out _ hHeld.2.2.2).mono ?_; rintro e w6 ⟨v1, rfl, hs6, qb⟩
  try go_wp2_with fail
  refine hK.out _ _ (MK.out _ qb) ?_
  clear hK K hHeld
  intro hHeld
  try simp only [Act.put, List.getElem_toArray, List.getElem_cons_zero, List.getElem_cons_succ, List.setIfInBounds_toArray, List.set_cons_zero, List.set_cons_succ]
  have HS6 := Lib.hid hs6
  have HB6 := Lib.hid qb
  clear hs6 qb
  have MK2 := Lib.hid (show ∀ w', Below w6.heap.size w6 w' → ((convert 22 9 (.slice A n c)).run Try.prog w' = .ok (.string T0) w' ∧ (convert 22 9 x).run Try.prog w' = .ok (.string T2) w' ∧ (convert 22 9 y).run Try.prog w' = .ok (.string T2) w' ∧ (convert 22 9 v1).run Try.prog w' = .ok (.string T1) w' ∧ Below w6.heap.size w6 w') from fun w' hb => by
    have h := MK.out w' (HB6.out.trans (hb.mono HB6.out.size))
    exact ⟨h.1, h.2.1, h.2.2.1, HT1.out _ _ _ (HS6.out.below hb), hb⟩)
  refine Mem.wpAnyH_mono (fun w' => (convert 22 9 (.slice A n c)).run Try.prog w' = .ok (.string T0) w' ∧ (convert 22 9 x).run Try.prog w' = .ok (.string T2) w' ∧ (convert 22 9 y).run Try.prog w' = .ok (.string T2) w' ∧ (convert 22 9 v1).run Try.prog w' = .ok (.string T1) w' ∧ Below w6.heap.size w6 w') (fun w' h => MK.out w' (HB6.out.trans (h.2.2.2.2.mono HB6.out.size))) _ _ _ _ ?_
  clear hHeld
  have hHeld := MK2.out _ (Below.refl _ _)
  refine wpAnyH_take (i := 8) rfl (by kernel_rfl) (by kernel_rfl) (by kernel_rfl) (fun _ _ _ h => h) (Or.inl ⟨by rfl, by intro W hSW; (try dsimp only at hSW); go_simp; try (with_reducible rfl)⟩) hHeld ?_
  try simp only [Act.put, List.getElem_toArray, List.getElem_cons_zero, List.getElem_cons_succ, List.setIfInBounds_toArray, List.set_cons_zero, List.set_cons_succ]
  refine wpAnyH_ready (rs := [10]) (by kernel_rfl) (by simp) ?_
  refine AllReadyH.cons rfl (fun K hK => ?_) AllReadyH.nil
  go_simp
  refine (CRS.out _ (HB6.out.trans (hHeld.2.2.2.2.mono HB6.out.size))).mono ?_; rintro e w7 ⟨v2, rfl, hs7, qb⟩
  try go_wp2_with fail
  refine hK.out _ _ (MK2.out _ (hHeld.2.2.2.2.trans (qb.mono hHeld.2.2.2.2.size))) ?_
  clear hK K hHeld
  intro hHeld
  try simp only [Act.put, List.getElem_toArray, List.getElem_cons_zero, List.getElem_cons_succ, List.setIfInBounds_toArray, List.set_cons_zero, List.set_cons_succ]
  have hc7 := HT1.out _ _ _ hs7
  clear hs7 qb
  refine wpAnyH_ready (rs := [11]) (by kernel_rfl) (by simp) ?_
  refine AllReadyH.cons rfl (fun K hK => ?_) AllReadyH.nil
  go_simp
  refine hK.out _ _ (hHeld) ?_
  clear hK K hHeld
  intro hHeld
  clear hc7
  try simp only [Act.put, List.getElem_toArray, List.getElem_cons_zero, List.getElem_cons_succ, List.setIfInBounds_toArray, List.set_cons_zero, List.set_cons_succ]
  refine wpAnyH_take (i := 12) rfl (by kernel_rfl) (by kernel_rfl) (by kernel_rfl) (fun _ _ _ h => h) (Or.inl ⟨by rfl, by intro W hSW; (try dsimp only at hSW); go_simp; try (with_reducible rfl)⟩) hHeld ?_
  try simp only [Act.put, List.getElem_toArray, List.getElem_cons_zero, List.getElem_cons_succ, List.setIfInBounds_toArray, List.set_cons_zero, List.set_cons_succ]
  refine wpAnyH_take (i := 13) rfl (by kernel_rfl) (by kernel_rfl) (by kernel_rfl) (fun _ _ _ h => h) (Or.inl ⟨by rfl, by intro W hSW; (try dsimp only at hSW); go_simp; try (with_reducible rfl)⟩) hHeld ?_
  try simp only [Act.put, List.getElem_toArray, List.getElem_cons_zero, List.getElem_cons_succ, List.setIfInBounds_toArray, List.set_cons_zero, List.set_cons_succ]
  refine wpAnyH_take (i := 14) rfl (by kernel_rfl) (by kernel_rfl) (by kernel_rfl) (fun _ _ _ h => h) (Or.inl ⟨by rfl, by intro W hSW; (try dsimp only at hSW); go_simp; try (with_reducible rfl)⟩) hHeld ?_
  try simp only [Act.put, List.getElem_toArray, List.getElem_cons_zero, List.getElem_cons_succ, List.setIfInBounds_toArray, List.set_cons_zero, List.set_cons_succ]
  refine wpAnyH_take (i := 15) rfl (by kernel_rfl) (by kernel_rfl) (by kernel_rfl) (fun _ _ _ h => h) (Or.inl ⟨by rfl, by intro W hSW; (try dsimp only at hSW); go_simp; try (with_reducible rfl)⟩) hHeld ?_
  try simp only [Act.put, List.getElem_toArray, List.getElem_cons_zero, List.getElem_cons_succ, List.setIfInBounds_toArray, List.set_cons_zero, List.set_cons_succ]
  refine wpAnyH_take (i := 16) rfl (by kernel_rfl) (by kernel_rfl) (by kernel_rfl) (fun _ _ _ h => h) (Or.inl ⟨by rfl, by intro W hSW; (try dsimp only at hSW); go_simp; try (with_reducible rfl)⟩) hHeld ?_
  try simp only [Act.put, List.getElem_toArray, List.getElem_cons_zero, List.getElem_cons_succ, List.setIfInBounds_toArray, List.set_cons_zero, List.set_cons_succ]
  refine wpAnyH_take (i := 17) rfl (by kernel_rfl) (by kernel_rfl) (by kernel_rfl) (fun _ _ _ h => h) (Or.inl ⟨by rfl, by intro W hSW; (try dsimp only at hSW); go_simp; try (with_reducible rfl)⟩) hHeld ?_
  try simp only [Act.put, List.getElem_toArray, List.getElem_cons_zero, List.getElem_cons_succ, List.setIfInBounds_toArray, List.set_cons_zero, List.set_cons_succ]
  refine wpAnyH_take (i := 18) rfl (by kernel_rfl) (by kernel_rfl) (by kernel_rfl) (fun _ _ _ h => h) (Or.inl ⟨by rfl, by intro W hSW; (try dsimp only at hSW); go_simp; try (with_reducible rfl)⟩) hHeld ?_
  try simp only [Act.put, List.getElem_toArray, List.getElem_cons_zero, List.getElem_cons_succ, List.setIfInBounds_toArray, List.set_cons_zero, List.set_cons_succ]
  refine wpAnyH_take (i := 19) rfl (by kernel_rfl) (by kernel_rfl) (by kernel_rfl) (fun _ _ _ h => h) (Or.inl ⟨by rfl, by intro W hSW; (try dsimp only at hSW); go_simp; try (with_reducible rfl)⟩) hHeld ?_
  try simp only [Act.put, List.getElem_toArray, List.getElem_cons_zero, List.getElem_cons_succ, List.setIfInBounds_toArray, List.set_cons_zero, List.set_cons_succ]
  refine wpAnyH_take (i := 20) rfl (by kernel_rfl) (by kernel_rfl) (by kernel_rfl) (fun _ _ _ h => h) (Or.inl ⟨by rfl, by intro W hSW; (try dsimp only at hSW); go_simp; try (with_reducible rfl)⟩) hHeld ?_
  try simp only [Act.put, List.getElem_toArray, List.getElem_cons_zero, List.getElem_cons_succ, List.setIfInBounds_toArray, List.set_cons_zero, List.set_cons_succ]
  refine wpAnyH_take (i := 21) rfl (by kernel_rfl) (by kernel_rfl) (by kernel_rfl) (fun _ _ _ h => h) (Or.inl ⟨by rfl, by intro W hSW; (try dsimp only at hSW); go_simp; try (with_reducible rfl)⟩) hHeld ?_
  try simp only [Act.put, List.getElem_toArray, List.getElem_cons_zero, List.getElem_cons_succ, List.setIfInBounds_toArray, List.set_cons_zero, List.set_cons_succ]
  refine wpAnyH_take (i := 22) rfl (by kernel_rfl) (by kernel_rfl) (by kernel_rfl) (fun _ _ _ h => h) (Or.inl ⟨by rfl, by intro W hSW; (try dsimp only at hSW); go_simp; try (with_reducible rfl)⟩) hHeld ?_
  try simp only [Act.put, List.getElem_toArray, List.getElem_cons_zero, List.getElem_cons_succ, List.setIfInBounds_toArray, List.set_cons_zero, List.set_cons_succ]
  refine wpAnyH_take (i := 23) rfl (by kernel_rfl) (by kernel_rfl) (by kernel_rfl) (fun _ _ _ h => h) (Or.inl ⟨by rfl, by intro W hSW; (try dsimp only at hSW); go_simp; try (with_reducible rfl)⟩) hHeld ?_
  try simp only [Act.put, List.getElem_toArray, List.getElem_cons_zero, List.getElem_cons_succ, List.setIfInBounds_toArray, List.set_cons_zero, List.set_cons_succ]
  refine wpAnyH_take (i := 24) rfl (by kernel_rfl) (by kernel_rfl) (by kernel_rfl) (fun _ _ _ h => h) (Or.inl ⟨by rfl, by intro W hSW; (try dsimp only at hSW); go_simp; try (with_reducible rfl)⟩) hHeld ?_
  try simp only [Act.put, List.getElem_toArray, List.getElem_cons_zero, List.getElem_cons_succ, List.setIfInBounds_toArray, List.set_cons_zero, List.set_cons_succ]
  refine wpAnyH_take (i := 25) rfl (by kernel_rfl) (by kernel_rfl) (by kernel_rfl) (fun _ _ _ h => h) (Or.inl ⟨by rfl, by intro W hSW; (try dsimp only at hSW); go_simp; try (with_reducible rfl)⟩) hHeld ?_
  try simp only [Act.put, List.getElem_toArray, List.getElem_cons_zero, List.getElem_cons_succ, List.setIfInBounds_toArray, List.set_cons_zero, List.set_cons_succ]
  refine wpAnyH_take (i := 26) rfl (by kernel_rfl) (by kernel_rfl) (by kernel_rfl) (fun _ _ _ h => h) (Or.inl ⟨by rfl, by intro W hSW; (try dsimp only at hSW); go_simp; try (with_reducible rfl)⟩) hHeld ?_
  try simp only [Act.put, List.getElem_toArray, List.getElem_cons_zero, List.getElem_cons_succ, List.setIfInBounds_toArray, List.set_cons_zero, List.set_cons_succ]
  refine wpAnyH_take (i := 27) rfl (by kernel_rfl) (by kernel_rfl) (by kernel_rfl) (fun _ _ _ h => h) (Or.inl ⟨by rfl, by intro W hSW; (try dsimp only at hSW); go_simp; try (with_reducible rfl)⟩) hHeld ?_
  try simp only [Act.put, List.getElem_toArray, List.getElem_cons_zero, List.getElem_cons_succ, List.setIfInBounds_toArray, List.set_cons_zero, List.set_cons_succ]
  refine wpAnyH_take (i := 28) rfl (by kernel_rfl) (by kernel_rfl) (by kernel_rfl) (fun _ _ _ h => h) (Or.inl ⟨by rfl, by intro W hSW; (try dsimp only at hSW); go_simp; try (with_reducible rfl)⟩) hHeld ?_
  try simp only [Act.put, List.getElem_toArray, List.getElem_cons_zero, List.getElem_cons_succ, List.setIfInBounds_toArray, List.set_cons_zero, List.set_cons_succ]
  refine wpAnyH_take (i := 29) rfl (by kernel_rfl) (by kernel_rfl) (by kernel_rfl) (fun _ _ _ h => h) (Or.inl ⟨by rfl, by intro W hSW; (try dsimp only at hSW); go_simp; try (with_reducible rfl)⟩) hHeld ?_
  try simp only [Act.put, List.getElem_toArray, List.getElem_cons_zero, List.getElem_cons_succ, List.setIfInBounds_toArray, List.set_cons_zero, List.set_cons_succ]
  refine wpAnyH_take (i := 30) rfl (by kernel_rfl) (by kernel_rfl) (by kernel_rfl) (fun _ _ _ h => h) (Or.inl ⟨by rfl, by intro W hSW; (try dsimp only at hSW); go_simp; try (with_reducible rfl)⟩) hHeld ?_
  try simp only [Act.put, List.getElem_toArray, List.getElem_cons_zero, List.getElem_cons_succ, List.setIfInBounds_toArray, List.set_cons_zero, List.set_cons_succ]
  refine wpAnyH_take (i := 31) rfl (by kernel_rfl) (by kernel_rfl) (by kernel_rfl) (fun _ _ _ h => h) (Or.inl ⟨by rfl, by intro W hSW; (try dsimp only at hSW); go_simp; try (with_reducible rfl)⟩) hHeld ?_
  try simp only [Act.put, List.getElem_toArray, List.getElem_cons_zero, List.getElem_cons_succ, List.setIfInBounds_toArray, List.set_cons_zero, List.set_cons_succ]
  refine wpAnyH_take (i := 32) rfl (by kernel_rfl) (by kernel_rfl) (by kernel_rfl) (fun _ _ _ h => h) (Or.inl ⟨by rfl, by intro W hSW; (try dsimp only at hSW); go_simp; try (with_reducible rfl)⟩) hHeld ?_
  try simp only [Act.put, List.getElem_toArray, List.getElem_cons_zero, List.getElem_cons_succ, List.setIfInBounds_toArray, List.set_cons_zero, List.set_cons_succ]
  refine wpAnyH_ready (rs := [33]) (by kernel_rfl) (by simp) ?_
  refine AllReadyH.cons rfl (fun K hK => ?_) AllReadyH.nil
  go_simp
  refine (known_sum _).mono ?_; rintro e w8 ⟨rfl, qb⟩
  try go_wp2_with fail
  refine hK.out _ _ (MK2.out _ (hHeld.2.2.2.2.trans (qb.mono hHeld.2.2.2.2.size))) ?_
  clear hK K hHeld
  intro hHeld
  clear qb
  try simp only [Act.put, List.getElem_toArray, List.getElem_cons_zero, List.getElem_cons_succ, List.setIfInBounds_toArray, List.set_cons_zero, List.set_cons_succ]
  refine wpAnyH_take (i := 34) rfl (by kernel_rfl) (by kernel_rfl) (by kernel_rfl) (fun _ _ _ h => h) (Or.inl ⟨by rfl, by intro W hSW; (try dsimp only at hSW); go_simp; try (with_reducible rfl)⟩) hHeld ?_
  try simp only [Act.put, List.getElem_toArray, List.getElem_cons_zero, List.getElem_cons_succ, List.setIfInBounds_toArray, List.set_cons_zero, List.set_cons_succ]
  refine wpAnyH_take (i := 35) rfl (by kernel_rfl) (by kernel_rfl) (by kernel_rfl) (fun _ _ _ h => h) (Or.inl ⟨by rfl, by intro W hSW; (try dsimp only at hSW); go_simp; try (with_reducible rfl)⟩) hHeld ?_
  try simp only [Act.put, List.getElem_toArray, List.getElem_cons_zero, List.getElem_cons_succ, List.setIfInBounds_toArray, List.set_cons_zero, List.set_cons_succ]
  refine wpAnyH_done (by kernel_rfl) ?_ _
  refine NoPanic.normal ?_
  go_wp2_with fail
  go_ret
  exact ⟨rfl, HB2.out.trans ((HB6.out.trans (hHeld.2.2.2.2.mono HB6.out.size)).mono HB2.out.size)⟩
end Go.Proofs.Ytlpmndljjdljmaa.By
