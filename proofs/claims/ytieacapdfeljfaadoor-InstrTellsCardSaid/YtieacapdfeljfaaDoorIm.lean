/-
  WALK: the law InstrTells.
-/
import Derived.Test.YtieacapdfeljfaaDoorIl
namespace Go.Proofs.YtieacapdfeljfaaDoor.By
open Go.ChangeShapes Go.WideShapes Go.ChangeAt Go.RowKit
open Mem

theorem with_form (o a b c n i m : Int) : ∃ o' a' b' c' n', withV o a b c n i m = #[.int .i64 o', .int .i64 a', .int .i64 b', .int .i64 c', .int .i64 n'] := by
  unfold withV
  repeat' split
  all_goals exact ⟨_, _, _, _, _, rfl⟩

set_option linter.unusedSimpArgs false in
set_option maxHeartbeats 8000000 in
theorem instells_any (w : World) (o a b c n i m : Int) (l : List UInt8) (A : Option Addr) (cp : Nat) (hlo : -9223372036854775808 ≤ o) (hhi : o ≤ 9223372036854775807) (h : SlV w w.heap.size (.slice A l.length cp) (u8s l)) (ht : Txs w) :
    Calls Tryd.prog 5 #[.agg #[.int .i64 o, .int .i64 a, .int .i64 b, .int .i64 c, .int .i64 n], .slice A l.length cp, .int .i64 i, .int .i64 m] w fun e w' => e = .returned (.bool true) ∧ Below w.heap.size w w' := by
  have HT := Lib.hid ht
  obtain ⟨W0, hW0⟩ : ∃ W, w.alloc (.cells #[.int .i64 o, .int .i64 a, .int .i64 b, .int .i64 c, .int .i64 n] 29) = W := ⟨_, rfl⟩
  have B0 := Lib.hid (show Below w.heap.size w W0 by rw [← hW0]; exact (Below.refl _ _).alloc (Nat.le_refl _) _)
  have X0 := Lib.hid (show Blk W0 w.heap.size 29 (insC o a b c n) by rw [← hW0]; exact Blk.new w _ _)
  have s0 : w.heap.size + 1 ≤ W0.heap.size := by rw [← hW0]; simp
  have T0 := Lib.hid (ht.below B0.out)
  by_cases hbig : 100 < l.length
  · have hd : decide (100 < (l.length : Int)) = true := by simp; omega
    have HK := Lib.hid (known08_any W0 T0.out)
    clear h hbig hlo hhi
    generalize l.length = nl at hd ⊢
    go_enter Tryd.func5, Tryd.ntmps5
    go_wp2_with fail
    refine HK.out.mono ?_
    rintro e w1 ⟨rfl, hb⟩
    go_wp2_with fail
    go_ret
    exact ⟨rfl, B0.out.trans (hb.mono (by omega))⟩
  have hd : decide (100 < (l.length : Int)) = false := by simp; omega
  have HS := Lib.hid ((h.below B0.out).more (show w.heap.size ≤ W0.heap.size by omega))
  have HL := Lib.hid (show l.length ≤ 100 by omega)
  have HT1 := Lib.hid (show ∀ W B v, SlV W B v (u8s (l ++ insB o a b c n)) → (convert 30 9 v).run Tryd.prog W = .ok (.string ⟨(l ++ insB o a b c n).toArray⟩) W from fun _ _ _ h => text_of h)
  clear h hbig
  have CPU := Lib.hid (show ∀ w', Below W0.heap.size W0 w' → Calls Tryd.prog 24 #[.slice A l.length cp, .agg #[.int .i64 o, .int .i64 a, .int .i64 b, .int .i64 c, .int .i64 n]] w' (fun e w'' => ∃ v, e = .returned v ∧ SlV w'' w''.heap.size v (u8s (l ++ insB o a b c n)) ∧ Below W0.heap.size W0 w'') from fun w' hb => by
    refine (iput_any _ l o a b c n w' ((HS.out.below hb).more hb.size) (by have := HL.out; omega)).mono ?_
    rintro e w'' ⟨v, he, hown, hb2⟩
    exact ⟨v, he, SlV.of_own hown, hb.trans (hb2.mono hb.size)⟩)
  have CRP := Lib.hid (show ∀ w', Below W0.heap.size W0 w' → Calls Tryd.prog 25 #[.slice A l.length cp, .agg #[.int .i64 o, .int .i64 a, .int .i64 b, .int .i64 c, .int .i64 n]] w' (fun e w'' => ∃ v, e = .returned v ∧ SlV w'' w''.heap.size v (u8s (l ++ insB o a b c n)) ∧ Below w'.heap.size w' w'') from fun w' hb => by
    refine (riput_any _ l o a b c n w' ((HS.out.below hb).more hb.size) (by have := HL.out; omega)).mono ?_
    rintro e w'' ⟨v, he, hown, hb2⟩
    exact ⟨v, he, SlV.of_own hown, hb2⟩)
  generalize hT1 : (⟨(l ++ insB o a b c n).toArray⟩ : ByteArray) = T1 at HT1
  clear hT1
  generalize l ++ insB o a b c n = l2 at HT1 CPU CRP
  generalize l.length = nl at hd CPU CRP HS HL ⊢
  obtain ⟨ch, hch⟩ : ∃ ch, chV o a b c n = ch := ⟨_, rfl⟩
  have CCH := Lib.hid (show ∀ w', Below W0.heap.size W0 w' → Calls Tryd.prog 22 #[.agg #[.int .i64 o, .int .i64 a, .int .i64 b, .int .i64 c, .int .i64 n]] w' (fun e w'' => e = .returned (.int .i64 ch) ∧ Below W0.heap.size W0 w'') from fun w' hb => by
    rw [← hch]
    exact (check_any o a b c n w' (T0.out.below hb)).mono fun e w'' h => ⟨h.1, hb.trans (h.2.mono hb.size)⟩)
  have CRC := Lib.hid (show ∀ w', Below W0.heap.size W0 w' → Calls Tryd.prog 23 #[.agg #[.int .i64 o, .int .i64 a, .int .i64 b, .int .i64 c, .int .i64 n]] w' (fun e w'' => e = .returned (.int .i64 ch) ∧ Below W0.heap.size W0 w'') from fun w' hb => by
    rw [← hch]
    exact (rcheck_any o a b c n w' hlo hhi).mono fun e w'' h => ⟨h.1, hb.trans (h.2.mono hb.size)⟩)
  have CKN := Lib.hid (show ∀ w', Below W0.heap.size W0 w' → Calls Tryd.prog 21 #[] w' (fun e w'' => e = .returned (.bool true) ∧ Below w'.heap.size w' w'') from fun w' hb => known08_any w' (T0.out.below hb))
  have COP := Lib.hid (fun w => operand_any o a b c n i w)
  have CRO := Lib.hid (fun w => roperand_any o a b c n i w)
  have CWI := Lib.hid (fun w => with_any o a b c n i m w)
  have CRW := Lib.hid (fun w => rwith_any o a b c n i m w)
  obtain ⟨o2, a2, b2, c2, n2, hw2⟩ := with_form o a b c n i m
  rw [hw2] at CWI CRW
  generalize opdV a b c n i = q at COP CRO
  obtain ⟨G, hG⟩ : ∃ G, G = w.heap.size := ⟨_, rfl⟩
  have MK := Lib.hid (show ∀ w', Below W0.heap.size W0 w' → (w'.cell? ⟨G, 0, none⟩ = some (.int .i64 o) ∧ w'.cell? ⟨G, 1, none⟩ = some (.int .i64 a) ∧ w'.cell? ⟨G, 2, none⟩ = some (.int .i64 b) ∧ w'.cell? ⟨G, 3, none⟩ = some (.int .i64 c) ∧ w'.cell? ⟨G, 4, none⟩ = some (.int .i64 n) ∧ Below W0.heap.size W0 w') from fun w' hb => by
    have hx := X0.out.below hb (by omega)
    rw [hG]
    exact ⟨by rw [hx.cell]; rfl, by rw [hx.cell]; rfl, by rw [hx.cell]; rfl, by rw [hx.cell]; rfl, by rw [hx.cell]; rfl, hb⟩)
  have HG := Lib.hid hG
  clear hch hw2 hlo hhi X0 hG
  go_enter Tryd.func5, Tryd.ntmps5
  go_wp2_with fail
  rw [← HG.out]
  clear hW0
  refine wp_region_noPanic ?_
  refine wp_region_held_drew (S := fun w' => w'.cell? ⟨G, 0, none⟩ = some (.int .i64 o) ∧ w'.cell? ⟨G, 1, none⟩ = some (.int .i64 a) ∧ w'.cell? ⟨G, 2, none⟩ = some (.int .i64 b) ∧ w'.cell? ⟨G, 3, none⟩ = some (.int .i64 c) ∧ w'.cell? ⟨G, 4, none⟩ = some (.int .i64 n) ∧ Below W0.heap.size W0 w') (by kernel_rfl) (MK.out _ (Below.refl _ _).drew) (fun hHeld => ?_)
  refine wpAnyH_take (i := 0) rfl (by kernel_rfl) (by kernel_rfl) (by kernel_rfl) (fun _ _ _ h => h) (Or.inl ⟨by rfl, by intro W hSW; (try dsimp only at hSW); go_simp; try (with_reducible rfl)⟩) hHeld ?_
  try simp only [Act.put, List.getElem_toArray, List.getElem_cons_zero, List.getElem_cons_succ, List.setIfInBounds_toArray, List.set_cons_zero, List.set_cons_succ]
  refine wpAnyH_take (i := 2) rfl (by kernel_rfl) (by kernel_rfl) (by kernel_rfl) (fun _ _ _ h => h) (Or.inl ⟨by rfl, by intro W hSW; (try dsimp only at hSW); go_simp; try (with_reducible rfl)⟩) hHeld ?_
  try simp only [Act.put, List.getElem_toArray, List.getElem_cons_zero, List.getElem_cons_succ, List.setIfInBounds_toArray, List.set_cons_zero, List.set_cons_succ]
  refine wpAnyH_ready (rs := [1]) (by kernel_rfl) (by simp) ?_
  refine AllReadyH.cons rfl (fun K hK => ?_) AllReadyH.nil
  go_simp
  refine (CCH.out _ hHeld.2.2.2.2.2).mono ?_; rintro e w4 ⟨rfl, qb⟩
  try go_wp2_with fail
  refine hK.out _ _ (MK.out _ qb) ?_
  clear hK K hHeld
  intro hHeld
  clear qb
  try simp only [Act.put, List.getElem_toArray, List.getElem_cons_zero, List.getElem_cons_succ, List.setIfInBounds_toArray, List.set_cons_zero, List.set_cons_succ]
  refine wpAnyH_ready (rs := [3]) (by kernel_rfl) (by simp) ?_
  refine AllReadyH.cons rfl (fun K hK => ?_) AllReadyH.nil
  go_simp
  refine (CRC.out _ hHeld.2.2.2.2.2).mono ?_; rintro e w5 ⟨rfl, qb⟩
  try go_wp2_with fail
  refine hK.out _ _ (MK.out _ qb) ?_
  clear hK K hHeld
  intro hHeld
  clear qb
  try simp only [Act.put, List.getElem_toArray, List.getElem_cons_zero, List.getElem_cons_succ, List.setIfInBounds_toArray, List.set_cons_zero, List.set_cons_succ]
  refine wpAnyH_take (i := 4) rfl (by kernel_rfl) (by kernel_rfl) (by kernel_rfl) (fun _ _ _ h => h) (Or.inl ⟨by rfl, by intro W hSW; (try dsimp only at hSW); go_simp; try (with_reducible rfl)⟩) hHeld ?_
  try simp only [Act.put, List.getElem_toArray, List.getElem_cons_zero, List.getElem_cons_succ, List.setIfInBounds_toArray, List.set_cons_zero, List.set_cons_succ]
  refine wpAnyH_take (i := 5) rfl (by kernel_rfl) (by kernel_rfl) (by kernel_rfl) (fun _ _ _ h => h) (Or.inl ⟨by rfl, by intro W hSW; (try dsimp only at hSW); go_simp; try (with_reducible rfl)⟩) hHeld ?_
  try simp only [Act.put, List.getElem_toArray, List.getElem_cons_zero, List.getElem_cons_succ, List.setIfInBounds_toArray, List.set_cons_zero, List.set_cons_succ]
  refine wpAnyH_take (i := 6) rfl (by kernel_rfl) (by kernel_rfl) (by kernel_rfl) (fun _ _ _ h => h) (Or.inl ⟨by rfl, by intro W hSW; (try dsimp only at hSW); go_simp; try (with_reducible rfl)⟩) hHeld ?_
  try simp only [Act.put, List.getElem_toArray, List.getElem_cons_zero, List.getElem_cons_succ, List.setIfInBounds_toArray, List.set_cons_zero, List.set_cons_succ]
  refine wpAnyH_take (i := 7) rfl (by kernel_rfl) (by kernel_rfl) (by kernel_rfl) (fun _ _ _ h => h) (Or.inl ⟨by rfl, by intro W hSW; (try dsimp only at hSW); go_simp; try (with_reducible rfl)⟩) hHeld ?_
  try simp only [Act.put, List.getElem_toArray, List.getElem_cons_zero, List.getElem_cons_succ, List.setIfInBounds_toArray, List.set_cons_zero, List.set_cons_succ]
  refine wpAnyH_take (i := 10) rfl (by kernel_rfl) (by kernel_rfl) (by kernel_rfl) (fun _ _ _ h => h) (Or.inl ⟨by rfl, by intro W hSW; (try dsimp only at hSW); go_simp; try (with_reducible rfl)⟩) hHeld ?_
  try simp only [Act.put, List.getElem_toArray, List.getElem_cons_zero, List.getElem_cons_succ, List.setIfInBounds_toArray, List.set_cons_zero, List.set_cons_succ]
  refine wpAnyH_take (i := 11) rfl (by kernel_rfl) (by kernel_rfl) (by kernel_rfl) (fun _ _ _ h => h) (Or.inl ⟨by rfl, by intro W hSW; (try dsimp only at hSW); go_simp; try (with_reducible rfl)⟩) hHeld ?_
  try simp only [Act.put, List.getElem_toArray, List.getElem_cons_zero, List.getElem_cons_succ, List.setIfInBounds_toArray, List.set_cons_zero, List.set_cons_succ]
  refine wpAnyH_ready (rs := [8]) (by kernel_rfl) (by simp) ?_
  refine AllReadyH.cons rfl (fun K hK => ?_) AllReadyH.nil
  go_simp
  refine (CPU.out _ hHeld.2.2.2.2.2).mono ?_; rintro e w6 ⟨v1, rfl, hs6, qb⟩
  try go_wp2_with fail
  refine hK.out _ _ (MK.out _ qb) ?_
  clear hK K hHeld
  intro hHeld
  try simp only [Act.put, List.getElem_toArray, List.getElem_cons_zero, List.getElem_cons_succ, List.setIfInBounds_toArray, List.set_cons_zero, List.set_cons_succ]
  have HS6 := Lib.hid hs6
  have HB6 := Lib.hid qb
  clear hs6 qb
  have MK2 := Lib.hid (show ∀ w', Below w6.heap.size w6 w' → (w'.cell? ⟨G, 0, none⟩ = some (.int .i64 o) ∧ w'.cell? ⟨G, 1, none⟩ = some (.int .i64 a) ∧ w'.cell? ⟨G, 2, none⟩ = some (.int .i64 b) ∧ w'.cell? ⟨G, 3, none⟩ = some (.int .i64 c) ∧ w'.cell? ⟨G, 4, none⟩ = some (.int .i64 n) ∧ (convert 30 9 v1).run Tryd.prog w' = .ok (.string T1) w' ∧ Below w6.heap.size w6 w') from fun w' hb => by
    have h := MK.out w' (HB6.out.trans (hb.mono HB6.out.size))
    exact ⟨h.1, h.2.1, h.2.2.1, h.2.2.2.1, h.2.2.2.2.1, HT1.out _ _ _ (HS6.out.below hb), hb⟩)
  refine Mem.wpAnyH_mono (fun w' => w'.cell? ⟨G, 0, none⟩ = some (.int .i64 o) ∧ w'.cell? ⟨G, 1, none⟩ = some (.int .i64 a) ∧ w'.cell? ⟨G, 2, none⟩ = some (.int .i64 b) ∧ w'.cell? ⟨G, 3, none⟩ = some (.int .i64 c) ∧ w'.cell? ⟨G, 4, none⟩ = some (.int .i64 n) ∧ (convert 30 9 v1).run Tryd.prog w' = .ok (.string T1) w' ∧ Below w6.heap.size w6 w') (fun w' h => MK.out w' (HB6.out.trans (h.2.2.2.2.2.2.mono HB6.out.size))) _ _ _ _ ?_
  clear hHeld
  have hHeld := MK2.out _ (Below.refl _ _)
  refine wpAnyH_take (i := 9) rfl (by kernel_rfl) (by kernel_rfl) (by kernel_rfl) (fun _ _ _ h => h) (Or.inl ⟨by rfl, by intro W hSW; (try dsimp only at hSW); go_simp; try (with_reducible rfl)⟩) hHeld ?_
  try simp only [Act.put, List.getElem_toArray, List.getElem_cons_zero, List.getElem_cons_succ, List.setIfInBounds_toArray, List.set_cons_zero, List.set_cons_succ]
  refine wpAnyH_ready (rs := [12]) (by kernel_rfl) (by simp) ?_
  refine AllReadyH.cons rfl (fun K hK => ?_) AllReadyH.nil
  go_simp
  refine (CRP.out _ (HB6.out.trans (hHeld.2.2.2.2.2.2.mono HB6.out.size))).mono ?_; rintro e w7 ⟨v2, rfl, hs7, qb⟩
  try go_wp2_with fail
  refine hK.out _ _ (MK2.out _ (hHeld.2.2.2.2.2.2.trans (qb.mono hHeld.2.2.2.2.2.2.size))) ?_
  clear hK K hHeld
  intro hHeld
  try simp only [Act.put, List.getElem_toArray, List.getElem_cons_zero, List.getElem_cons_succ, List.setIfInBounds_toArray, List.set_cons_zero, List.set_cons_succ]
  have hc7 := HT1.out _ _ _ hs7
  clear hs7 qb
  refine wpAnyH_ready (rs := [13]) (by kernel_rfl) (by simp) ?_
  refine AllReadyH.cons rfl (fun K hK => ?_) AllReadyH.nil
  go_simp
  refine hK.out _ _ (hHeld) ?_
  clear hK K hHeld
  intro hHeld
  clear hc7
  try simp only [Act.put, List.getElem_toArray, List.getElem_cons_zero, List.getElem_cons_succ, List.setIfInBounds_toArray, List.set_cons_zero, List.set_cons_succ]
  refine wpAnyH_take (i := 14) rfl (by kernel_rfl) (by kernel_rfl) (by kernel_rfl) (fun _ _ _ h => h) (Or.inl ⟨by rfl, by intro W hSW; (try dsimp only at hSW); go_simp; try (with_reducible rfl)⟩) hHeld ?_
  try simp only [Act.put, List.getElem_toArray, List.getElem_cons_zero, List.getElem_cons_succ, List.setIfInBounds_toArray, List.set_cons_zero, List.set_cons_succ]
  refine wpAnyH_take (i := 15) rfl (by kernel_rfl) (by kernel_rfl) (by kernel_rfl) (fun _ _ _ h => h) (Or.inl ⟨by rfl, by intro W hSW; (try dsimp only at hSW); go_simp; try (with_reducible rfl)⟩) hHeld ?_
  try simp only [Act.put, List.getElem_toArray, List.getElem_cons_zero, List.getElem_cons_succ, List.setIfInBounds_toArray, List.set_cons_zero, List.set_cons_succ]
  refine wpAnyH_take (i := 16) rfl (by kernel_rfl) (by kernel_rfl) (by kernel_rfl) (fun _ _ _ h => h) (Or.inl ⟨by rfl, by intro W hSW; (try dsimp only at hSW); go_simp; try (with_reducible rfl)⟩) hHeld ?_
  try simp only [Act.put, List.getElem_toArray, List.getElem_cons_zero, List.getElem_cons_succ, List.setIfInBounds_toArray, List.set_cons_zero, List.set_cons_succ]
  refine wpAnyH_take (i := 17) rfl (by kernel_rfl) (by kernel_rfl) (by kernel_rfl) (fun _ _ _ h => h) (Or.inl ⟨by rfl, by intro W hSW; (try dsimp only at hSW); go_simp; try (with_reducible rfl)⟩) hHeld ?_
  try simp only [Act.put, List.getElem_toArray, List.getElem_cons_zero, List.getElem_cons_succ, List.setIfInBounds_toArray, List.set_cons_zero, List.set_cons_succ]
  refine wpAnyH_take (i := 18) rfl (by kernel_rfl) (by kernel_rfl) (by kernel_rfl) (fun _ _ _ h => h) (Or.inl ⟨by rfl, by intro W hSW; (try dsimp only at hSW); go_simp; try (with_reducible rfl)⟩) hHeld ?_
  try simp only [Act.put, List.getElem_toArray, List.getElem_cons_zero, List.getElem_cons_succ, List.setIfInBounds_toArray, List.set_cons_zero, List.set_cons_succ]
  refine wpAnyH_take (i := 20) rfl (by kernel_rfl) (by kernel_rfl) (by kernel_rfl) (fun _ _ _ h => h) (Or.inl ⟨by rfl, by intro W hSW; (try dsimp only at hSW); go_simp; try (with_reducible rfl)⟩) hHeld ?_
  try simp only [Act.put, List.getElem_toArray, List.getElem_cons_zero, List.getElem_cons_succ, List.setIfInBounds_toArray, List.set_cons_zero, List.set_cons_succ]
  refine wpAnyH_take (i := 21) rfl (by kernel_rfl) (by kernel_rfl) (by kernel_rfl) (fun _ _ _ h => h) (Or.inl ⟨by rfl, by intro W hSW; (try dsimp only at hSW); go_simp; try (with_reducible rfl)⟩) hHeld ?_
  try simp only [Act.put, List.getElem_toArray, List.getElem_cons_zero, List.getElem_cons_succ, List.setIfInBounds_toArray, List.set_cons_zero, List.set_cons_succ]
  refine wpAnyH_ready (rs := [19]) (by kernel_rfl) (by simp) ?_
  refine AllReadyH.cons rfl (fun K hK => ?_) AllReadyH.nil
  go_simp
  refine (COP.out _).mono ?_; rintro e w8 ⟨rfl, qb⟩
  try go_wp2_with fail
  refine hK.out _ _ (MK2.out _ (hHeld.2.2.2.2.2.2.trans (qb.mono hHeld.2.2.2.2.2.2.size))) ?_
  clear hK K hHeld
  intro hHeld
  clear qb
  try simp only [Act.put, List.getElem_toArray, List.getElem_cons_zero, List.getElem_cons_succ, List.setIfInBounds_toArray, List.set_cons_zero, List.set_cons_succ]
  refine wpAnyH_ready (rs := [22]) (by kernel_rfl) (by simp) ?_
  refine AllReadyH.cons rfl (fun K hK => ?_) AllReadyH.nil
  go_simp
  refine (CRO.out _).mono ?_; rintro e w9 ⟨rfl, qb⟩
  try go_wp2_with fail
  refine hK.out _ _ (MK2.out _ (hHeld.2.2.2.2.2.2.trans (qb.mono hHeld.2.2.2.2.2.2.size))) ?_
  clear hK K hHeld
  intro hHeld
  clear qb
  try simp only [Act.put, List.getElem_toArray, List.getElem_cons_zero, List.getElem_cons_succ, List.setIfInBounds_toArray, List.set_cons_zero, List.set_cons_succ]
  refine wpAnyH_take (i := 23) rfl (by kernel_rfl) (by kernel_rfl) (by kernel_rfl) (fun _ _ _ h => h) (Or.inl ⟨by rfl, by intro W hSW; (try dsimp only at hSW); go_simp; try (with_reducible rfl)⟩) hHeld ?_
  try simp only [Act.put, List.getElem_toArray, List.getElem_cons_zero, List.getElem_cons_succ, List.setIfInBounds_toArray, List.set_cons_zero, List.set_cons_succ]
  refine wpAnyH_take (i := 24) rfl (by kernel_rfl) (by kernel_rfl) (by kernel_rfl) (fun _ _ _ h => h) (Or.inl ⟨by rfl, by intro W hSW; (try dsimp only at hSW); go_simp; try (with_reducible rfl)⟩) hHeld ?_
  try simp only [Act.put, List.getElem_toArray, List.getElem_cons_zero, List.getElem_cons_succ, List.setIfInBounds_toArray, List.set_cons_zero, List.set_cons_succ]
  refine wpAnyH_take (i := 25) rfl (by kernel_rfl) (by kernel_rfl) (by kernel_rfl) (fun _ _ _ h => h) (Or.inl ⟨by rfl, by intro W hSW; (try dsimp only at hSW); go_simp; try (with_reducible rfl)⟩) hHeld ?_
  try simp only [Act.put, List.getElem_toArray, List.getElem_cons_zero, List.getElem_cons_succ, List.setIfInBounds_toArray, List.set_cons_zero, List.set_cons_succ]
  refine wpAnyH_take (i := 26) rfl (by kernel_rfl) (by kernel_rfl) (by kernel_rfl) (fun _ _ _ h => h) (Or.inl ⟨by rfl, by intro W hSW; (try dsimp only at hSW); go_simp; try (with_reducible rfl)⟩) hHeld ?_
  try simp only [Act.put, List.getElem_toArray, List.getElem_cons_zero, List.getElem_cons_succ, List.setIfInBounds_toArray, List.set_cons_zero, List.set_cons_succ]
  refine wpAnyH_take (i := 27) rfl (by kernel_rfl) (by kernel_rfl) (by kernel_rfl) (fun _ _ _ h => h) (Or.inl ⟨by rfl, by intro W hSW; (try dsimp only at hSW); go_simp; try (with_reducible rfl)⟩) hHeld ?_
  try simp only [Act.put, List.getElem_toArray, List.getElem_cons_zero, List.getElem_cons_succ, List.setIfInBounds_toArray, List.set_cons_zero, List.set_cons_succ]
  refine wpAnyH_take (i := 28) rfl (by kernel_rfl) (by kernel_rfl) (by kernel_rfl) (fun _ _ _ h => h) (Or.inl ⟨by rfl, by intro W hSW; (try dsimp only at hSW); go_simp; try (with_reducible rfl)⟩) hHeld ?_
  try simp only [Act.put, List.getElem_toArray, List.getElem_cons_zero, List.getElem_cons_succ, List.setIfInBounds_toArray, List.set_cons_zero, List.set_cons_succ]
  refine wpAnyH_take (i := 30) rfl (by kernel_rfl) (by kernel_rfl) (by kernel_rfl) (fun _ _ _ h => h) (Or.inl ⟨by rfl, by intro W hSW; (try dsimp only at hSW); go_simp; try (with_reducible rfl)⟩) hHeld ?_
  try simp only [Act.put, List.getElem_toArray, List.getElem_cons_zero, List.getElem_cons_succ, List.setIfInBounds_toArray, List.set_cons_zero, List.set_cons_succ]
  refine wpAnyH_take (i := 31) rfl (by kernel_rfl) (by kernel_rfl) (by kernel_rfl) (fun _ _ _ h => h) (Or.inl ⟨by rfl, by intro W hSW; (try dsimp only at hSW); go_simp; try (with_reducible rfl)⟩) hHeld ?_
  try simp only [Act.put, List.getElem_toArray, List.getElem_cons_zero, List.getElem_cons_succ, List.setIfInBounds_toArray, List.set_cons_zero, List.set_cons_succ]
  refine wpAnyH_take (i := 32) rfl (by kernel_rfl) (by kernel_rfl) (by kernel_rfl) (fun _ _ _ h => h) (Or.inl ⟨by rfl, by intro W hSW; (try dsimp only at hSW); go_simp; try (with_reducible rfl)⟩) hHeld ?_
  try simp only [Act.put, List.getElem_toArray, List.getElem_cons_zero, List.getElem_cons_succ, List.setIfInBounds_toArray, List.set_cons_zero, List.set_cons_succ]
  refine wpAnyH_ready (rs := [29]) (by kernel_rfl) (by simp) ?_
  refine AllReadyH.cons rfl (fun K hK => ?_) AllReadyH.nil
  go_simp
  refine (CWI.out _).mono ?_; rintro e w10 ⟨rfl, qb⟩
  try go_wp2_with fail
  refine hK.out _ _ (MK2.out _ (hHeld.2.2.2.2.2.2.trans (qb.mono hHeld.2.2.2.2.2.2.size))) ?_
  clear hK K hHeld
  intro hHeld
  clear qb
  try simp only [Act.put, List.getElem_toArray, List.getElem_cons_zero, List.getElem_cons_succ, List.setIfInBounds_toArray, List.set_cons_zero, List.set_cons_succ]
  refine wpAnyH_ready (rs := [33]) (by kernel_rfl) (by simp) ?_
  refine AllReadyH.cons rfl (fun K hK => ?_) AllReadyH.nil
  go_simp
  refine (CRW.out _).mono ?_; rintro e w11 ⟨rfl, qb⟩
  try go_wp2_with fail
  refine hK.out _ _ (MK2.out _ (hHeld.2.2.2.2.2.2.trans (qb.mono hHeld.2.2.2.2.2.2.size))) ?_
  clear hK K hHeld
  intro hHeld
  clear qb
  try simp only [Act.put, List.getElem_toArray, List.getElem_cons_zero, List.getElem_cons_succ, List.setIfInBounds_toArray, List.set_cons_zero, List.set_cons_succ]
  refine wpAnyH_take (i := 34) rfl (by kernel_rfl) (by kernel_rfl) (by kernel_rfl) (fun _ _ _ h => h) (Or.inl ⟨by rfl, by intro W hSW; (try dsimp only at hSW); go_simp; try (with_reducible rfl)⟩) hHeld ?_
  try simp only [Act.put, List.getElem_toArray, List.getElem_cons_zero, List.getElem_cons_succ, List.setIfInBounds_toArray, List.set_cons_zero, List.set_cons_succ]
  refine wpAnyH_take (i := 35) rfl (by kernel_rfl) (by kernel_rfl) (by kernel_rfl) (fun _ _ _ h => h) (Or.inl ⟨by rfl, by intro W hSW; (try dsimp only at hSW); go_simp; try (with_reducible rfl)⟩) hHeld ?_
  try simp only [Act.put, List.getElem_toArray, List.getElem_cons_zero, List.getElem_cons_succ, List.setIfInBounds_toArray, List.set_cons_zero, List.set_cons_succ]
  refine wpAnyH_take (i := 36) rfl (by kernel_rfl) (by kernel_rfl) (by kernel_rfl) (fun _ _ _ h => h) (Or.inl ⟨by rfl, by intro W hSW; (try dsimp only at hSW); go_simp; try (with_reducible rfl)⟩) hHeld ?_
  try simp only [Act.put, List.getElem_toArray, List.getElem_cons_zero, List.getElem_cons_succ, List.setIfInBounds_toArray, List.set_cons_zero, List.set_cons_succ]
  refine wpAnyH_ready (rs := [37]) (by kernel_rfl) (by simp) ?_
  refine AllReadyH.cons rfl (fun K hK => ?_) AllReadyH.nil
  go_simp
  refine (CKN.out _ (HB6.out.trans (hHeld.2.2.2.2.2.2.mono HB6.out.size))).mono ?_; rintro e w12 ⟨rfl, qb⟩
  try go_wp2_with fail
  refine hK.out _ _ (MK2.out _ (hHeld.2.2.2.2.2.2.trans (qb.mono hHeld.2.2.2.2.2.2.size))) ?_
  clear hK K hHeld
  intro hHeld
  clear qb
  try simp only [Act.put, List.getElem_toArray, List.getElem_cons_zero, List.getElem_cons_succ, List.setIfInBounds_toArray, List.set_cons_zero, List.set_cons_succ]
  refine wpAnyH_take (i := 38) rfl (by kernel_rfl) (by kernel_rfl) (by kernel_rfl) (fun _ _ _ h => h) (Or.inl ⟨by rfl, by intro W hSW; (try dsimp only at hSW); go_simp; try (with_reducible rfl)⟩) hHeld ?_
  try simp only [Act.put, List.getElem_toArray, List.getElem_cons_zero, List.getElem_cons_succ, List.setIfInBounds_toArray, List.set_cons_zero, List.set_cons_succ]
  refine wpAnyH_take (i := 39) rfl (by kernel_rfl) (by kernel_rfl) (by kernel_rfl) (fun _ _ _ h => h) (Or.inl ⟨by rfl, by intro W hSW; (try dsimp only at hSW); go_simp; try (with_reducible rfl)⟩) hHeld ?_
  try simp only [Act.put, List.getElem_toArray, List.getElem_cons_zero, List.getElem_cons_succ, List.setIfInBounds_toArray, List.set_cons_zero, List.set_cons_succ]
  refine wpAnyH_done (by kernel_rfl) ?_ _
  refine NoPanic.normal ?_
  go_wp2_with fail
  go_ret
  exact ⟨rfl, B0.out.trans ((HB6.out.trans (hHeld.2.2.2.2.2.2.mono HB6.out.size)).mono (by omega))⟩
end Go.Proofs.YtieacapdfeljfaaDoor.By
