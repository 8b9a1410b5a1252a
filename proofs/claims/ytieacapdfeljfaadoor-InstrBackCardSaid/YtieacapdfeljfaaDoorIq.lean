/-
  WALK: the law InstrBack.
-/
import Derived.Test.YtieacapdfeljfaaDoorIo
namespace Go.Proofs.YtieacapdfeljfaaDoor.By
open Go.ChangeShapes Go.WideShapes Go.ChangeAt Go.RowKit
open Mem

theorem got_form (l : List UInt8) (p : Nat) (good : Bool) : ∃ o a b c n, gotI l p good = #[.int .i64 o, .int .i64 a, .int .i64 b, .int .i64 c, .int .i64 n] := by
  unfold gotI
  split
  all_goals exact ⟨_, _, _, _, _, rfl⟩

set_option linter.unusedSimpArgs false in
set_option maxHeartbeats 16000000 in
theorem insback_any (w : World) (o a b c n i m : Int) (ht : Txs w) :
    Calls Tryd.prog 7 #[.agg #[.int .i64 o, .int .i64 a, .int .i64 b, .int .i64 c, .int .i64 n], .int .i64 i, .int .i64 m] w fun e w' => e = .returned (.bool true) ∧ Below w.heap.size w w' := by
  have HT := Lib.hid ht
  have h2 := ht.two
  obtain ⟨a', b', c', n', hwv, hot, hbk⟩ := with_other o a b c n i m
  have HOT := Lib.hid hot
  have HBK := Lib.hid hbk
  have CWI := Lib.hid (fun w => with_any o a b c n i m w)
  rw [hwv] at CWI
  obtain ⟨GX, hGX⟩ : ∃ G, G = w.heap.size := ⟨_, rfl⟩
  obtain ⟨W0, hW0⟩ : ∃ W, w.alloc (.cells #[.int .i64 o, .int .i64 a, .int .i64 b, .int .i64 c, .int .i64 n] 29) = W := ⟨_, rfl⟩
  have HX := Lib.hid (show Blk W0 GX 29 (insC o a b c n) by rw [← hW0]; exact Blk.at_ _ _ hGX.symm)
  have HB := Lib.hid (show Below w.heap.size w W0 by rw [← hW0]; exact (Below.refl _ _).alloc (Nat.le_refl _) _)
  have s0 : w.heap.size + 1 ≤ W0.heap.size := by rw [← hW0]; simp
  have HGX := Lib.hid hGX
  have hgx : GX < w.heap.size + 1 := by omega
  have hgx2 : w.heap.size ≤ GX := by omega
  have HP := Lib.hid (iput_any (.slice none 0 0) [] o a b c n W0 .nil (by simp))
  rw [List.nil_append] at HP
  have HLEN := Lib.hid (ins_length o a b c n)
  have HFI := Lib.hid (ins_fits o a b c n)
  have HBACK := Lib.hid (got_back o a b c n)
  obtain ⟨l, hl⟩ : ∃ l, insB o a b c n = l := ⟨_, rfl⟩
  rw [hl] at HP HLEN HFI HBACK
  have HX0 := Lib.hid (show Blk W0 w.heap.size 29 (insC o a b c n) by rw [← hW0]; exact Blk.at_ _ _ rfl)
  have x0 : W0.cell? ⟨w.heap.size, 0, none⟩ = some (.int .i64 o) := by rw [HX0.out.cell]; rfl
  have x1 : W0.cell? ⟨w.heap.size, 1, none⟩ = some (.int .i64 a) := by rw [HX0.out.cell]; rfl
  have x2 : W0.cell? ⟨w.heap.size, 2, none⟩ = some (.int .i64 b) := by rw [HX0.out.cell]; rfl
  have x3 : W0.cell? ⟨w.heap.size, 3, none⟩ = some (.int .i64 c) := by rw [HX0.out.cell]; rfl
  have x4 : W0.cell? ⟨w.heap.size, 4, none⟩ = some (.int .i64 n) := by rw [HX0.out.cell]; rfl
  have lx : w.heap.size < W0.heap.size := HX0.out.lt
  clear hot hbk hwv ht hl hGX
  go_enter Tryd.func7, Tryd.ntmps7
  go_wp2_with fail
  rw [← HGX.out]
  clear hW0
  refine HP.out.mono ?_
  rintro e w1 ⟨v1, rfl, hown, hb⟩
  have s1 := hb.size
  have HV1 := Lib.hid (SlV.of_own hown)
  have HX1 := Lib.hid (HX.out.below hb HX.out.lt)
  have HB1 := Lib.hid (HB.out.trans (hb.mono HB.out.size))
  have HN := Lib.hid (new_any v1 l w1 _ HV1.out (by have := HLEN.out; omega))
  clear hown hb HX HX0 HB HP HV1 x0 x1 x2 x3 x4 lx
  go_wp2_with fail
  refine HN.out.mono ?_
  rintro e w2 ⟨g, A, cp, rfl, hg, hr, hb⟩
  have s2 := hb.size
  have HX2 := Lib.hid (HX1.out.below hb HX1.out.lt)
  have HB2 := Lib.hid (HB1.out.trans (hb.mono HB1.out.size))
  have hgl := hr.blk.lt
  have HGE := Lib.hid (get_any w2 g A cp l 0 true hr (HT.out.below HB2.out) (by omega))
  unfold Got at HGE
  rw [HFI.out.1, HFI.out.2] at HGE
  obtain ⟨o2, a2, b2, c2, n2, hgi⟩ := got_form l 0 true
  rw [hgi] at HGE
  have HGI := Lib.hid hgi
  have hgX : GX < g := by omega
  clear hb hr HX1 HB1 HN hgi
  obtain ⟨ge, hge⟩ : ∃ q, gotE l 0 true = q := ⟨_, rfl⟩
  rw [hge] at HGE
  have HEE := Lib.hid hge
  clear hge
  go_wp2_with fail
  refine HGE.out.mono ?_
  rintro e w3 ⟨rfl, hr3, ho3⟩
  have s3 := ho3.size
  have HX3 := HX2.out.only ho3 (by omega)
  have HB3 := below_of_only HB2.out ho3 HB2.out.size (by omega)
  obtain ⟨GY, hGY⟩ : ∃ G, G = w3.heap.size := ⟨_, rfl⟩
  obtain ⟨W4, hW4⟩ : ∃ W, w3.alloc (.cells #[.int .i64 o2, .int .i64 a2, .int .i64 b2, .int .i64 c2, .int .i64 n2] 29) = W := ⟨_, rfl⟩
  have b4 : Below w3.heap.size w3 W4 := by rw [← hW4]; exact (Below.refl _ _).alloc (Nat.le_refl _) _
  have HY := Lib.hid (show Blk W4 GY 29 #[.int .i64 o2, .int .i64 a2, .int .i64 b2, .int .i64 c2, .int .i64 n2] by rw [← hW4]; exact Blk.at_ _ _ hGY.symm)
  have HX := Lib.hid (HX3.below b4 HX3.lt)
  have HB4 := Lib.hid (HB3.trans (b4.mono HB3.size))
  have HR4 := Lib.hid (hr3.below b4 hr3.blk.lt)
  have HCK := Lib.hid (check_any o a b c n W4 (HT.out.below HB4.out))
  have HGY := Lib.hid hGY
  obtain ⟨ch, hch⟩ : ∃ q, chV o a b c n = q := ⟨_, rfl⟩
  rw [hch] at HCK HBACK
  have x0 : W4.cell? ⟨GX, 0, none⟩ = some (.int .i64 o) := by rw [HX.out.cell]; rfl
  have x1 : W4.cell? ⟨GX, 1, none⟩ = some (.int .i64 a) := by rw [HX.out.cell]; rfl
  have x2 : W4.cell? ⟨GX, 2, none⟩ = some (.int .i64 b) := by rw [HX.out.cell]; rfl
  have x3 : W4.cell? ⟨GX, 3, none⟩ = some (.int .i64 c) := by rw [HX.out.cell]; rfl
  have x4 : W4.cell? ⟨GX, 4, none⟩ = some (.int .i64 n) := by rw [HX.out.cell]; rfl
  have lx : GX < W4.heap.size := HX.out.lt
  clear hr3 ho3 HX2 HB2 HX3 HB3 b4 HGE hGY hch
  go_wp2_with fail
  rw [← HGY.out]
  clear hW4
  refine HCK.out.mono ?_
  rintro e w5 ⟨rfl, hb⟩
  have s5 := hb.size
  have HX5 := Lib.hid (HX.out.below hb HX.out.lt)
  have HY5 := Lib.hid (HY.out.below hb HY.out.lt)
  have HB5 := Lib.hid (HB4.out.trans (hb.mono HB4.out.size))
  have HR5 := Lib.hid (HR4.out.below hb HR4.out.blk.lt)
  clear hb HX HY HB4 HR4 HCK x0 x1 x2 x3 x4 lx
  have HX := HX5
  have x0 : w5.cell? ⟨GX, 0, none⟩ = some (.int .i64 o) := by rw [HX.out.cell]; rfl
  have x1 : w5.cell? ⟨GX, 1, none⟩ = some (.int .i64 a) := by rw [HX.out.cell]; rfl
  have x2 : w5.cell? ⟨GX, 2, none⟩ = some (.int .i64 b) := by rw [HX.out.cell]; rfl
  have x3 : w5.cell? ⟨GX, 3, none⟩ = some (.int .i64 c) := by rw [HX.out.cell]; rfl
  have x4 : w5.cell? ⟨GX, 4, none⟩ = some (.int .i64 n) := by rw [HX.out.cell]; rfl
  have lx : GX < w5.heap.size := HX.out.lt
  by_cases hz : ch = 0
  · obtain ⟨hb1, hb2⟩ := HBACK.out hz
    have hq := HGI.out
    rw [hb1] at hq
    unfold insC at hq
    simp only [Array.mk.injEq, List.cons.injEq, Value.int.injEq, true_and, and_true] at hq
    obtain ⟨rfl, rfl, rfl, rfl, rfl⟩ := hq
    have he0 := HEE.out
    rw [hb2] at he0
    subst he0
    subst hz
    have HLF := Lib.hid (left_any w5 g A cp l 8 true HR5.out)
    rw [HLEN.out] at HLF
    have y0 : w5.cell? ⟨GY, 0, none⟩ = some (.int .i64 o) := by rw [HY5.out.cell]; rfl
    have y1 : w5.cell? ⟨GY, 1, none⟩ = some (.int .i64 a) := by rw [HY5.out.cell]; rfl
    have y2 : w5.cell? ⟨GY, 2, none⟩ = some (.int .i64 b) := by rw [HY5.out.cell]; rfl
    have y3 : w5.cell? ⟨GY, 3, none⟩ = some (.int .i64 c) := by rw [HY5.out.cell]; rfl
    have y4 : w5.cell? ⟨GY, 4, none⟩ = some (.int .i64 n) := by rw [HY5.out.cell]; rfl
    have ly : GY < w5.heap.size := HY5.out.lt
    clear hb1 hb2
    go_wp2_with fail
    refine HLF.out.mono ?_
    rintro e w6 ⟨rfl, nq, rfl⟩
    have HX := Lib.hid (HX5.out.drewN nq)
    have HB := Lib.hid (below_drewN HB5.out nq)
    have x0 : (w5.drewN nq).cell? ⟨GX, 0, none⟩ = some (.int .i64 o) := by rw [HX.out.cell]; rfl
    have x1 : (w5.drewN nq).cell? ⟨GX, 1, none⟩ = some (.int .i64 a) := by rw [HX.out.cell]; rfl
    have x2 : (w5.drewN nq).cell? ⟨GX, 2, none⟩ = some (.int .i64 b) := by rw [HX.out.cell]; rfl
    have x3 : (w5.drewN nq).cell? ⟨GX, 3, none⟩ = some (.int .i64 c) := by rw [HX.out.cell]; rfl
    have x4 : (w5.drewN nq).cell? ⟨GX, 4, none⟩ = some (.int .i64 n) := by rw [HX.out.cell]; rfl
    have lx : GX < (w5.drewN nq).heap.size := HX.out.lt
    clear HX5 HB5 HY5 HR5 HLF y0 y1 y2 y3 y4 ly
    go_wp2_with fail
    refine (CWI.out _).mono ?_
    rintro e w7 ⟨rfl, hb⟩
    have hs7 := hb.size
    have HX7 := HX.out.below hb HX.out.lt
    have HB7 := HB.out.trans (hb.mono HB.out.size)
    obtain ⟨GZ, hGZ⟩ : ∃ G, G = w7.heap.size := ⟨_, rfl⟩
    obtain ⟨W8, hW8⟩ : ∃ W, w7.alloc (.cells #[.int .i64 o, .int .i64 a', .int .i64 b', .int .i64 c', .int .i64 n'] 29) = W := ⟨_, rfl⟩
    have b8 : Below w7.heap.size w7 W8 := by rw [← hW8]; exact (Below.refl _ _).alloc (Nat.le_refl _) _
    have HZ := Lib.hid (show Blk W8 GZ 29 #[.int .i64 o, .int .i64 a', .int .i64 b', .int .i64 c', .int .i64 n'] by rw [← hW8]; exact Blk.at_ _ _ hGZ.symm)
    have HZ0 := Lib.hid (show Blk W8 w7.heap.size 29 #[.int .i64 o, .int .i64 a', .int .i64 b', .int .i64 c', .int .i64 n'] by rw [← hW8]; exact Blk.at_ _ _ rfl)
    have HX := Lib.hid (HX7.below b8 HX7.lt)
    have HB8 := Lib.hid (HB7.trans (b8.mono HB7.size))
    have HGZ := Lib.hid hGZ
    clear hb HX7 HB7 b8 hGZ HB x0 x1 x2 x3 x4 lx
    have x0 : W8.cell? ⟨GX, 0, none⟩ = some (.int .i64 o) := by rw [HX.out.cell]; rfl
    have x1 : W8.cell? ⟨GX, 1, none⟩ = some (.int .i64 a) := by rw [HX.out.cell]; rfl
    have x2 : W8.cell? ⟨GX, 2, none⟩ = some (.int .i64 b) := by rw [HX.out.cell]; rfl
    have x3 : W8.cell? ⟨GX, 3, none⟩ = some (.int .i64 c) := by rw [HX.out.cell]; rfl
    have x4 : W8.cell? ⟨GX, 4, none⟩ = some (.int .i64 n) := by rw [HX.out.cell]; rfl
    have z0 : W8.cell? ⟨w7.heap.size, 0, none⟩ = some (.int .i64 o) := by rw [HZ0.out.cell]; rfl
    have z1 : W8.cell? ⟨w7.heap.size, 1, none⟩ = some (.int .i64 a') := by rw [HZ0.out.cell]; rfl
    have z2 : W8.cell? ⟨w7.heap.size, 2, none⟩ = some (.int .i64 b') := by rw [HZ0.out.cell]; rfl
    have z3 : W8.cell? ⟨w7.heap.size, 3, none⟩ = some (.int .i64 c') := by rw [HZ0.out.cell]; rfl
    have z4 : W8.cell? ⟨w7.heap.size, 4, none⟩ = some (.int .i64 n') := by rw [HZ0.out.cell]; rfl
    have lx : GX < W8.heap.size := HX.out.lt
    have lz : w7.heap.size < W8.heap.size := HZ0.out.lt
    have HTT := Lib.hid (HT.out.below HB8.out)
    go_wp2_with fail
    rw [← HGZ.out]
    clear hW8
    have MK := Lib.hid (show ∀ w', Below W8.heap.size W8 w' → (w'.cell? ⟨GX, 0, none⟩ = some (.int .i64 o) ∧ w'.cell? ⟨GX, 1, none⟩ = some (.int .i64 a) ∧ w'.cell? ⟨GX, 2, none⟩ = some (.int .i64 b) ∧ w'.cell? ⟨GX, 3, none⟩ = some (.int .i64 c) ∧ w'.cell? ⟨GX, 4, none⟩ = some (.int .i64 n) ∧ w'.cell? ⟨GZ, 0, none⟩ = some (.int .i64 o) ∧ w'.cell? ⟨GZ, 1, none⟩ = some (.int .i64 a') ∧ w'.cell? ⟨GZ, 2, none⟩ = some (.int .i64 b') ∧ w'.cell? ⟨GZ, 3, none⟩ = some (.int .i64 c') ∧ w'.cell? ⟨GZ, 4, none⟩ = some (.int .i64 n') ∧ Below W8.heap.size W8 w') from fun w' hb => by
      have ha := HX.out.below hb HX.out.lt
      have hc := HZ.out.below hb HZ.out.lt
      exact ⟨by rw [ha.cell]; rfl, by rw [ha.cell]; rfl, by rw [ha.cell]; rfl, by rw [ha.cell]; rfl, by rw [ha.cell]; rfl, by rw [hc.cell]; rfl, by rw [hc.cell]; rfl, by rw [hc.cell]; rfl, by rw [hc.cell]; rfl, by rw [hc.cell]; rfl, hb⟩)
    clear x0 x1 x2 x3 x4 z0 z1 z2 z3 z4 lx lz
    go_loopw [11] (fun v wr => ∃ k : Int, -1 ≤ k ∧ k ≤ 5 ∧ v = .int .i64 k ∧ Hid (Below W8.heap.size W8 wr)) (fun v _ => (5 - intOf v).toNat)
    case atStart => exact ⟨-1, by omega, by omega, rfl, Lib.hid (Below.refl _ _)⟩
    case round =>
      obtain ⟨k, hk0, hk5, rfl, HBR⟩ := hrel
      by_cases hlt : k ≤ 4
      · have hd3 : decide (k ≤ 4) = true := by simpa using hlt
        have hm : IntKind.i64.wrap (k + 1) = k + 1 := IntWalk.i64_in _ (by omega)
        by_cases hki : k = i
        · subst hki
          go_wp2_with fail
          go_quiet (fail)
          go_wp2_with fail
          go_roundw
          case rel => exact ⟨k + 1, by omega, by omega, by go_num, Lib.hid (below_drewN HBR.out nq)⟩
          case measure => simp [intOf]; omega
        · have hk1 : (k == i) = false := by simpa using hki
          have hk2 : (k != i) = true := by simpa using hki
          obtain ⟨q, hq⟩ : ∃ q, opdV a b c n k = q := ⟨_, rfl⟩
          have CX := Lib.hid (show ∀ w', Below W8.heap.size W8 w' → Calls Tryd.prog 26 #[.agg #[.int .i64 o, .int .i64 a, .int .i64 b, .int .i64 c, .int .i64 n], .int .i64 k] w' (fun e w'' => e = .returned (.int .i64 q) ∧ Below W8.heap.size W8 w'') from fun w' hb => by
            rw [← hq]
            exact (operand_any o a b c n k w').mono fun e w'' h => ⟨h.1, hb.trans (h.2.mono hb.size)⟩)
          have CZ := Lib.hid (show ∀ w', Below W8.heap.size W8 w' → Calls Tryd.prog 26 #[.agg #[.int .i64 o, .int .i64 a', .int .i64 b', .int .i64 c', .int .i64 n'], .int .i64 k] w' (fun e w'' => e = .returned (.int .i64 q) ∧ Below W8.heap.size W8 w'') from fun w' hb => by
            rw [← hq, ← HOT.out k hki]
            exact (operand_any o a' b' c' n' k w').mono fun e w'' h => ⟨h.1, hb.trans (h.2.mono hb.size)⟩)
          clear hki hq
          go_wp2_with fail
          refine wp_region_noPanic ?_
          refine wp_region_held_drew (S := fun w' => w'.cell? ⟨GX, 0, none⟩ = some (.int .i64 o) ∧ w'.cell? ⟨GX, 1, none⟩ = some (.int .i64 a) ∧ w'.cell? ⟨GX, 2, none⟩ = some (.int .i64 b) ∧ w'.cell? ⟨GX, 3, none⟩ = some (.int .i64 c) ∧ w'.cell? ⟨GX, 4, none⟩ = some (.int .i64 n) ∧ w'.cell? ⟨GZ, 0, none⟩ = some (.int .i64 o) ∧ w'.cell? ⟨GZ, 1, none⟩ = some (.int .i64 a') ∧ w'.cell? ⟨GZ, 2, none⟩ = some (.int .i64 b') ∧ w'.cell? ⟨GZ, 3, none⟩ = some (.int .i64 c') ∧ w'.cell? ⟨GZ, 4, none⟩ = some (.int .i64 n') ∧ Below W8.heap.size W8 w') (by kernel_rfl) (MK.out _ (HBR.out.drew)) (fun hHeld => ?_)
          refine wpAnyH_take (i := 0) rfl (by kernel_rfl) (by kernel_rfl) (by kernel_rfl) (fun _ _ _ h => h) (Or.inl ⟨by rfl, by intro W hSW; (try dsimp only at hSW); go_simp; try (with_reducible rfl)⟩) hHeld ?_
          try simp only [Act.put, List.getElem_toArray, List.getElem_cons_zero, List.getElem_cons_succ, List.setIfInBounds_toArray, List.set_cons_zero, List.set_cons_succ]
          refine wpAnyH_take (i := 1) rfl (by kernel_rfl) (by kernel_rfl) (by kernel_rfl) (fun _ _ _ h => h) (Or.inl ⟨by rfl, by intro W hSW; (try dsimp only at hSW); go_simp; try (with_reducible rfl)⟩) hHeld ?_
          try simp only [Act.put, List.getElem_toArray, List.getElem_cons_zero, List.getElem_cons_succ, List.setIfInBounds_toArray, List.set_cons_zero, List.set_cons_succ]
          refine wpAnyH_take (i := 2) rfl (by kernel_rfl) (by kernel_rfl) (by kernel_rfl) (fun _ _ _ h => h) (Or.inl ⟨by rfl, by intro W hSW; (try dsimp only at hSW); go_simp; try (with_reducible rfl)⟩) hHeld ?_
          try simp only [Act.put, List.getElem_toArray, List.getElem_cons_zero, List.getElem_cons_succ, List.setIfInBounds_toArray, List.set_cons_zero, List.set_cons_succ]
          refine wpAnyH_take (i := 3) rfl (by kernel_rfl) (by kernel_rfl) (by kernel_rfl) (fun _ _ _ h => h) (Or.inl ⟨by rfl, by intro W hSW; (try dsimp only at hSW); go_simp; try (with_reducible rfl)⟩) hHeld ?_
          try simp only [Act.put, List.getElem_toArray, List.getElem_cons_zero, List.getElem_cons_succ, List.setIfInBounds_toArray, List.set_cons_zero, List.set_cons_succ]
          refine wpAnyH_take (i := 4) rfl (by kernel_rfl) (by kernel_rfl) (by kernel_rfl) (fun _ _ _ h => h) (Or.inl ⟨by rfl, by intro W hSW; (try dsimp only at hSW); go_simp; try (with_reducible rfl)⟩) hHeld ?_
          try simp only [Act.put, List.getElem_toArray, List.getElem_cons_zero, List.getElem_cons_succ, List.setIfInBounds_toArray, List.set_cons_zero, List.set_cons_succ]
          refine wpAnyH_take (i := 5) rfl (by kernel_rfl) (by kernel_rfl) (by kernel_rfl) (fun _ _ _ h => h) (Or.inl ⟨by rfl, by intro W hSW; (try dsimp only at hSW); go_simp; try (with_reducible rfl)⟩) hHeld ?_
          try simp only [Act.put, List.getElem_toArray, List.getElem_cons_zero, List.getElem_cons_succ, List.setIfInBounds_toArray, List.set_cons_zero, List.set_cons_succ]
          refine wpAnyH_take (i := 7) rfl (by kernel_rfl) (by kernel_rfl) (by kernel_rfl) (fun _ _ _ h => h) (Or.inl ⟨by rfl, by intro W hSW; (try dsimp only at hSW); go_simp; try (with_reducible rfl)⟩) hHeld ?_
          try simp only [Act.put, List.getElem_toArray, List.getElem_cons_zero, List.getElem_cons_succ, List.setIfInBounds_toArray, List.set_cons_zero, List.set_cons_succ]
          refine wpAnyH_take (i := 8) rfl (by kernel_rfl) (by kernel_rfl) (by kernel_rfl) (fun _ _ _ h => h) (Or.inl ⟨by rfl, by intro W hSW; (try dsimp only at hSW); go_simp; try (with_reducible rfl)⟩) hHeld ?_
          try simp only [Act.put, List.getElem_toArray, List.getElem_cons_zero, List.getElem_cons_succ, List.setIfInBounds_toArray, List.set_cons_zero, List.set_cons_succ]
          refine wpAnyH_ready (rs := [6]) (by kernel_rfl) (by simp) ?_
          refine AllReadyH.cons rfl (fun K hK => ?_) AllReadyH.nil
          go_simp
          refine (CZ.out _ hHeld.2.2.2.2.2.2.2.2.2.2).mono ?_; rintro e w9 ⟨rfl, qb⟩
          try go_wp2_with fail
          refine hK.out _ _ (MK.out _ qb) ?_
          clear hK K hHeld
          intro hHeld
          clear qb
          try simp only [Act.put, List.getElem_toArray, List.getElem_cons_zero, List.getElem_cons_succ, List.setIfInBounds_toArray, List.set_cons_zero, List.set_cons_succ]
          refine wpAnyH_ready (rs := [9]) (by kernel_rfl) (by simp) ?_
          refine AllReadyH.cons rfl (fun K hK => ?_) AllReadyH.nil
          go_simp
          refine (CX.out _ hHeld.2.2.2.2.2.2.2.2.2.2).mono ?_; rintro e w10 ⟨rfl, qb⟩
          try go_wp2_with fail
          refine hK.out _ _ (MK.out _ qb) ?_
          clear hK K hHeld
          intro hHeld
          clear qb
          try simp only [Act.put, List.getElem_toArray, List.getElem_cons_zero, List.getElem_cons_succ, List.setIfInBounds_toArray, List.set_cons_zero, List.set_cons_succ]
          refine wpAnyH_take (i := 10) rfl (by kernel_rfl) (by kernel_rfl) (by kernel_rfl) (fun _ _ _ h => h) (Or.inl ⟨by rfl, by intro W hSW; (try dsimp only at hSW); go_simp; try (with_reducible rfl)⟩) hHeld ?_
          try simp only [Act.put, List.getElem_toArray, List.getElem_cons_zero, List.getElem_cons_succ, List.setIfInBounds_toArray, List.set_cons_zero, List.set_cons_succ]
          refine wpAnyH_take (i := 11) rfl (by kernel_rfl) (by kernel_rfl) (by kernel_rfl) (fun _ _ _ h => h) (Or.inl ⟨by rfl, by intro W hSW; (try dsimp only at hSW); go_simp; try (with_reducible rfl)⟩) hHeld ?_
          try simp only [Act.put, List.getElem_toArray, List.getElem_cons_zero, List.getElem_cons_succ, List.setIfInBounds_toArray, List.set_cons_zero, List.set_cons_succ]
          refine wpAnyH_done (by kernel_rfl) ?_ _
          refine NoPanic.normal ?_
          go_wp2_with fail
          go_roundw
          case rel => exact ⟨k + 1, by omega, by omega, by go_num, Lib.hid hHeld.2.2.2.2.2.2.2.2.2.2⟩
          case measure => simp [intOf]; omega
      · have hd3 : decide (k ≤ 4) = false := by simpa using hlt
        obtain ⟨q, hq⟩ : ∃ q, opdV a b c n i = q := ⟨_, rfl⟩
        have CXI := Lib.hid (show ∀ w', Below W8.heap.size W8 w' → Calls Tryd.prog 26 #[.agg #[.int .i64 o, .int .i64 a, .int .i64 b, .int .i64 c, .int .i64 n], .int .i64 i] w' (fun e w'' => e = .returned (.int .i64 q) ∧ Below W8.heap.size W8 w'') from fun w' hb => by
          rw [← hq]
          exact (operand_any o a b c n i w').mono fun e w'' h => ⟨h.1, hb.trans (h.2.mono hb.size)⟩)
        have CW := Lib.hid (show ∀ w', Below W8.heap.size W8 w' → Calls Tryd.prog 28 #[.agg #[.int .i64 o, .int .i64 a', .int .i64 b', .int .i64 c', .int .i64 n'], .int .i64 i, .int .i64 q] w' (fun e w'' => e = .returned (.agg #[.int .i64 o, .int .i64 a, .int .i64 b, .int .i64 c, .int .i64 n]) ∧ Below W8.heap.size W8 w'') from fun w' hb => by
          have h := with_any o a' b' c' n' i q w'
          rw [← hq, HBK.out] at h
          rw [← hq]
          exact h.mono fun e w'' h => ⟨h.1, hb.trans (h.2.mono hb.size)⟩)
        have CK := Lib.hid (show ∀ w', Below W8.heap.size W8 w' → Calls Tryd.prog 21 #[] w' (fun e w'' => e = .returned (.bool true) ∧ Below W8.heap.size W8 w'') from fun w' hb =>
          (known08_any w' (HTT.out.below hb)).mono fun e w'' h => ⟨h.1, hb.trans (h.2.mono hb.size)⟩)
        clear hlt hk0 hk5 hq
        go_wp2_with fail
        refine wp_region_noPanic ?_
        refine wp_region_held_drew (S := fun w' => w'.cell? ⟨GX, 0, none⟩ = some (.int .i64 o) ∧ w'.cell? ⟨GX, 1, none⟩ = some (.int .i64 a) ∧ w'.cell? ⟨GX, 2, none⟩ = some (.int .i64 b) ∧ w'.cell? ⟨GX, 3, none⟩ = some (.int .i64 c) ∧ w'.cell? ⟨GX, 4, none⟩ = some (.int .i64 n) ∧ w'.cell? ⟨GZ, 0, none⟩ = some (.int .i64 o) ∧ w'.cell? ⟨GZ, 1, none⟩ = some (.int .i64 a') ∧ w'.cell? ⟨GZ, 2, none⟩ = some (.int .i64 b') ∧ w'.cell? ⟨GZ, 3, none⟩ = some (.int .i64 c') ∧ w'.cell? ⟨GZ, 4, none⟩ = some (.int .i64 n') ∧ Below W8.heap.size W8 w') (by kernel_rfl) (MK.out _ (HBR.out.drew)) (fun hHeld => ?_)
        refine wpAnyH_take (i := 0) rfl (by kernel_rfl) (by kernel_rfl) (by kernel_rfl) (fun _ _ _ h => h) (Or.inl ⟨by rfl, by intro W hSW; (try dsimp only at hSW); go_simp; try (with_reducible rfl)⟩) hHeld ?_
        try simp only [Act.put, List.getElem_toArray, List.getElem_cons_zero, List.getElem_cons_succ, List.setIfInBounds_toArray, List.set_cons_zero, List.set_cons_succ]
        refine wpAnyH_take (i := 1) rfl (by kernel_rfl) (by kernel_rfl) (by kernel_rfl) (fun _ _ _ h => h) (Or.inl ⟨by rfl, by intro W hSW; (try dsimp only at hSW); go_simp; try (with_reducible rfl)⟩) hHeld ?_
        try simp only [Act.put, List.getElem_toArray, List.getElem_cons_zero, List.getElem_cons_succ, List.setIfInBounds_toArray, List.set_cons_zero, List.set_cons_succ]
        refine wpAnyH_take (i := 2) rfl (by kernel_rfl) (by kernel_rfl) (by kernel_rfl) (fun _ _ _ h => h) (Or.inl ⟨by rfl, by intro W hSW; (try dsimp only at hSW); go_simp; try (with_reducible rfl)⟩) hHeld ?_
        try simp only [Act.put, List.getElem_toArray, List.getElem_cons_zero, List.getElem_cons_succ, List.setIfInBounds_toArray, List.set_cons_zero, List.set_cons_succ]
        refine wpAnyH_take (i := 3) rfl (by kernel_rfl) (by kernel_rfl) (by kernel_rfl) (fun _ _ _ h => h) (Or.inl ⟨by rfl, by intro W hSW; (try dsimp only at hSW); go_simp; try (with_reducible rfl)⟩) hHeld ?_
        try simp only [Act.put, List.getElem_toArray, List.getElem_cons_zero, List.getElem_cons_succ, List.setIfInBounds_toArray, List.set_cons_zero, List.set_cons_succ]
        refine wpAnyH_take (i := 6) rfl (by kernel_rfl) (by kernel_rfl) (by kernel_rfl) (fun _ _ _ h => h) (Or.inl ⟨by rfl, by intro W hSW; (try dsimp only at hSW); go_simp; try (with_reducible rfl)⟩) hHeld ?_
        try simp only [Act.put, List.getElem_toArray, List.getElem_cons_zero, List.getElem_cons_succ, List.setIfInBounds_toArray, List.set_cons_zero, List.set_cons_succ]
        refine wpAnyH_ready (rs := [4]) (by kernel_rfl) (by simp) ?_
        refine AllReadyH.cons rfl (fun K hK => ?_) AllReadyH.nil
        go_simp
        refine (CXI.out _ hHeld.2.2.2.2.2.2.2.2.2.2).mono ?_; rintro e w9 ⟨rfl, qb⟩
        try go_wp2_with fail
        refine hK.out _ _ (MK.out _ qb) ?_
        clear hK K hHeld
        intro hHeld
        clear qb
        try simp only [Act.put, List.getElem_toArray, List.getElem_cons_zero, List.getElem_cons_succ, List.setIfInBounds_toArray, List.set_cons_zero, List.set_cons_succ]
        refine wpAnyH_ready (rs := [5]) (by kernel_rfl) (by simp) ?_
        refine AllReadyH.cons rfl (fun K hK => ?_) AllReadyH.nil
        go_simp
        refine (CW.out _ hHeld.2.2.2.2.2.2.2.2.2.2).mono ?_; rintro e w10 ⟨rfl, qb⟩
        try go_wp2_with fail
        refine hK.out _ _ (MK.out _ qb) ?_
        clear hK K hHeld
        intro hHeld
        clear qb
        try simp only [Act.put, List.getElem_toArray, List.getElem_cons_zero, List.getElem_cons_succ, List.setIfInBounds_toArray, List.set_cons_zero, List.set_cons_succ]
        refine wpAnyH_take (i := 7) rfl (by kernel_rfl) (by kernel_rfl) (by kernel_rfl) (fun _ _ _ h => h) (Or.inl ⟨by rfl, by intro W hSW; (try dsimp only at hSW); go_simp; try (with_reducible rfl)⟩) hHeld ?_
        try simp only [Act.put, List.getElem_toArray, List.getElem_cons_zero, List.getElem_cons_succ, List.setIfInBounds_toArray, List.set_cons_zero, List.set_cons_succ]
        refine wpAnyH_take (i := 8) rfl (by kernel_rfl) (by kernel_rfl) (by kernel_rfl) (fun _ _ _ h => h) (Or.inl ⟨by rfl, by intro W hSW; (try dsimp only at hSW); go_simp; try (with_reducible rfl)⟩) hHeld ?_
        try simp only [Act.put, List.getElem_toArray, List.getElem_cons_zero, List.getElem_cons_succ, List.setIfInBounds_toArray, List.set_cons_zero, List.set_cons_succ]
        refine wpAnyH_ready (rs := [9]) (by kernel_rfl) (by simp) ?_
        refine AllReadyH.cons rfl (fun K hK => ?_) AllReadyH.nil
        go_simp
        refine (CK.out _ hHeld.2.2.2.2.2.2.2.2.2.2).mono ?_; rintro e w11 ⟨rfl, qb⟩
        try go_wp2_with fail
        refine hK.out _ _ (MK.out _ qb) ?_
        clear hK K hHeld
        intro hHeld
        clear qb
        try simp only [Act.put, List.getElem_toArray, List.getElem_cons_zero, List.getElem_cons_succ, List.setIfInBounds_toArray, List.set_cons_zero, List.set_cons_succ]
        refine wpAnyH_take (i := 10) rfl (by kernel_rfl) (by kernel_rfl) (by kernel_rfl) (fun _ _ _ h => h) (Or.inl ⟨by rfl, by intro W hSW; (try dsimp only at hSW); go_simp; try (with_reducible rfl)⟩) hHeld ?_
        try simp only [Act.put, List.getElem_toArray, List.getElem_cons_zero, List.getElem_cons_succ, List.setIfInBounds_toArray, List.set_cons_zero, List.set_cons_succ]
        refine wpAnyH_take (i := 11) rfl (by kernel_rfl) (by kernel_rfl) (by kernel_rfl) (fun _ _ _ h => h) (Or.inl ⟨by rfl, by intro W hSW; (try dsimp only at hSW); go_simp; try (with_reducible rfl)⟩) hHeld ?_
        try simp only [Act.put, List.getElem_toArray, List.getElem_cons_zero, List.getElem_cons_succ, List.setIfInBounds_toArray, List.set_cons_zero, List.set_cons_succ]
        refine wpAnyH_done (by kernel_rfl) ?_ _
        refine NoPanic.normal ?_
        go_wp2_with fail
        go_ret
        exact ⟨rfl, HB8.out.trans (hHeld.2.2.2.2.2.2.2.2.2.2.mono HB8.out.size)⟩

  · have hz2 : (ch == 0) = false := by simpa using hz
    have HB := HB5
    clear hz HX5 HB5 HY5 HR5
    go_wp2_with fail
    refine (CWI.out _).mono ?_
    rintro e w7 ⟨rfl, hb⟩
    have hs7 := hb.size
    have HX7 := HX.out.below hb HX.out.lt
    have HB7 := HB.out.trans (hb.mono HB.out.size)
    obtain ⟨GZ, hGZ⟩ : ∃ G, G = w7.heap.size := ⟨_, rfl⟩
    obtain ⟨W8, hW8⟩ : ∃ W, w7.alloc (.cells #[.int .i64 o, .int .i64 a', .int .i64 b', .int .i64 c', .int .i64 n'] 29) = W := ⟨_, rfl⟩
    have b8 : Below w7.heap.size w7 W8 := by rw [← hW8]; exact (Below.refl _ _).alloc (Nat.le_refl _) _
    have HZ := Lib.hid (show Blk W8 GZ 29 #[.int .i64 o, .int .i64 a', .int .i64 b', .int .i64 c', .int .i64 n'] by rw [← hW8]; exact Blk.at_ _ _ hGZ.symm)
    have HZ0 := Lib.hid (show Blk W8 w7.heap.size 29 #[.int .i64 o, .int .i64 a', .int .i64 b', .int .i64 c', .int .i64 n'] by rw [← hW8]; exact Blk.at_ _ _ rfl)
    have HX := Lib.hid (HX7.below b8 HX7.lt)
    have HB8 := Lib.hid (HB7.trans (b8.mono HB7.size))
    have HGZ := Lib.hid hGZ
    clear hb HX7 HB7 b8 hGZ HB x0 x1 x2 x3 x4 lx
    have x0 : W8.cell? ⟨GX, 0, none⟩ = some (.int .i64 o) := by rw [HX.out.cell]; rfl
    have x1 : W8.cell? ⟨GX, 1, none⟩ = some (.int .i64 a) := by rw [HX.out.cell]; rfl
    have x2 : W8.cell? ⟨GX, 2, none⟩ = some (.int .i64 b) := by rw [HX.out.cell]; rfl
    have x3 : W8.cell? ⟨GX, 3, none⟩ = some (.int .i64 c) := by rw [HX.out.cell]; rfl
    have x4 : W8.cell? ⟨GX, 4, none⟩ = some (.int .i64 n) := by rw [HX.out.cell]; rfl
    have z0 : W8.cell? ⟨w7.heap.size, 0, none⟩ = some (.int .i64 o) := by rw [HZ0.out.cell]; rfl
    have z1 : W8.cell? ⟨w7.heap.size, 1, none⟩ = some (.int .i64 a') := by rw [HZ0.out.cell]; rfl
    have z2 : W8.cell? ⟨w7.heap.size, 2, none⟩ = some (.int .i64 b') := by rw [HZ0.out.cell]; rfl
    have z3 : W8.cell? ⟨w7.heap.size, 3, none⟩ = some (.int .i64 c') := by rw [HZ0.out.cell]; rfl
    have z4 : W8.cell? ⟨w7.heap.size, 4, none⟩ = some (.int .i64 n') := by rw [HZ0.out.cell]; rfl
    have lx : GX < W8.heap.size := HX.out.lt
    have lz : w7.heap.size < W8.heap.size := HZ0.out.lt
    have HTT := Lib.hid (HT.out.below HB8.out)
    go_wp2_with fail
    rw [← HGZ.out]
    clear hW8
    have MK := Lib.hid (show ∀ w', Below W8.heap.size W8 w' → (w'.cell? ⟨GX, 0, none⟩ = some (.int .i64 o) ∧ w'.cell? ⟨GX, 1, none⟩ = some (.int .i64 a) ∧ w'.cell? ⟨GX, 2, none⟩ = some (.int .i64 b) ∧ w'.cell? ⟨GX, 3, none⟩ = some (.int .i64 c) ∧ w'.cell? ⟨GX, 4, none⟩ = some (.int .i64 n) ∧ w'.cell? ⟨GZ, 0, none⟩ = some (.int .i64 o) ∧ w'.cell? ⟨GZ, 1, none⟩ = some (.int .i64 a') ∧ w'.cell? ⟨GZ, 2, none⟩ = some (.int .i64 b') ∧ w'.cell? ⟨GZ, 3, none⟩ = some (.int .i64 c') ∧ w'.cell? ⟨GZ, 4, none⟩ = some (.int .i64 n') ∧ Below W8.heap.size W8 w') from fun w' hb => by
      have ha := HX.out.below hb HX.out.lt
      have hc := HZ.out.below hb HZ.out.lt
      exact ⟨by rw [ha.cell]; rfl, by rw [ha.cell]; rfl, by rw [ha.cell]; rfl, by rw [ha.cell]; rfl, by rw [ha.cell]; rfl, by rw [hc.cell]; rfl, by rw [hc.cell]; rfl, by rw [hc.cell]; rfl, by rw [hc.cell]; rfl, by rw [hc.cell]; rfl, hb⟩)
    clear x0 x1 x2 x3 x4 z0 z1 z2 z3 z4 lx lz
    go_loopw [11] (fun v wr => ∃ k : Int, -1 ≤ k ∧ k ≤ 5 ∧ v = .int .i64 k ∧ Hid (Below W8.heap.size W8 wr)) (fun v _ => (5 - intOf v).toNat)
    case atStart => exact ⟨-1, by omega, by omega, rfl, Lib.hid (Below.refl _ _)⟩
    case round =>
      obtain ⟨k, hk0, hk5, rfl, HBR⟩ := hrel
      by_cases hlt : k ≤ 4
      · have hd3 : decide (k ≤ 4) = true := by simpa using hlt
        have hm : IntKind.i64.wrap (k + 1) = k + 1 := IntWalk.i64_in _ (by omega)
        by_cases hki : k = i
        · subst hki
          go_wp2_with fail
          go_quiet (fail)
          go_wp2_with fail
          go_roundw
          case rel => exact ⟨k + 1, by omega, by omega, by go_num, Lib.hid (below_drewN HBR.out nq)⟩
          case measure => simp [intOf]; omega
        · have hk1 : (k == i) = false := by simpa using hki
          have hk2 : (k != i) = true := by simpa using hki
          obtain ⟨q, hq⟩ : ∃ q, opdV a b c n k = q := ⟨_, rfl⟩
          have CX := Lib.hid (show ∀ w', Below W8.heap.size W8 w' → Calls Tryd.prog 26 #[.agg #[.int .i64 o, .int .i64 a, .int .i64 b, .int .i64 c, .int .i64 n], .int .i64 k] w' (fun e w'' => e = .returned (.int .i64 q) ∧ Below W8.heap.size W8 w'') from fun w' hb => by
            rw [← hq]
            exact (operand_any o a b c n k w').mono fun e w'' h => ⟨h.1, hb.trans (h.2.mono hb.size)⟩)
          have CZ := Lib.hid (show ∀ w', Below W8.heap.size W8 w' → Calls Tryd.prog 26 #[.agg #[.int .i64 o, .int .i64 a', .int .i64 b', .int .i64 c', .int .i64 n'], .int .i64 k] w' (fun e w'' => e = .returned (.int .i64 q) ∧ Below W8.heap.size W8 w'') from fun w' hb => by
            rw [← hq, ← HOT.out k hki]
            exact (operand_any o a' b' c' n' k w').mono fun e w'' h => ⟨h.1, hb.trans (h.2.mono hb.size)⟩)
          clear hki hq
          go_wp2_with fail
          refine wp_region_noPanic ?_
          refine wp_region_held_drew (S := fun w' => w'.cell? ⟨GX, 0, none⟩ = some (.int .i64 o) ∧ w'.cell? ⟨GX, 1, none⟩ = some (.int .i64 a) ∧ w'.cell? ⟨GX, 2, none⟩ = some (.int .i64 b) ∧ w'.cell? ⟨GX, 3, none⟩ = some (.int .i64 c) ∧ w'.cell? ⟨GX, 4, none⟩ = some (.int .i64 n) ∧ w'.cell? ⟨GZ, 0, none⟩ = some (.int .i64 o) ∧ w'.cell? ⟨GZ, 1, none⟩ = some (.int .i64 a') ∧ w'.cell? ⟨GZ, 2, none⟩ = some (.int .i64 b') ∧ w'.cell? ⟨GZ, 3, none⟩ = some (.int .i64 c') ∧ w'.cell? ⟨GZ, 4, none⟩ = some (.int .i64 n') ∧ Below W8.heap.size W8 w') (by kernel_rfl) (MK.out _ (HBR.out.drew)) (fun hHeld => ?_)
          refine wpAnyH_take (i := 0) rfl (by kernel_rfl) (by kernel_rfl) (by kernel_rfl) (fun _ _ _ h => h) (Or.inl ⟨by rfl, by intro W hSW; (try dsimp only at hSW); go_simp; try (with_reducible rfl)⟩) hHeld ?_
          try simp only [Act.put, List.getElem_toArray, List.getElem_cons_zero, List.getElem_cons_succ, List.setIfInBounds_toArray, List.set_cons_zero, List.set_cons_succ]
          refine wpAnyH_take (i := 1) rfl (by kernel_rfl) (by kernel_rfl) (by kernel_rfl) (fun _ _ _ h => h) (Or.inl ⟨by rfl, by intro W hSW; (try dsimp only at hSW); go_simp; try (with_reducible rfl)⟩) hHeld ?_
          try simp only [Act.put, List.getElem_toArray, List.getElem_cons_zero, List.getElem_cons_succ, List.setIfInBounds_toArray, List.set_cons_zero, List.set_cons_succ]
          refine wpAnyH_take (i := 2) rfl (by kernel_rfl) (by kernel_rfl) (by kernel_rfl) (fun _ _ _ h => h) (Or.inl ⟨by rfl, by intro W hSW; (try dsimp only at hSW); go_simp; try (with_reducible rfl)⟩) hHeld ?_
          try simp only [Act.put, List.getElem_toArray, List.getElem_cons_zero, List.getElem_cons_succ, List.setIfInBounds_toArray, List.set_cons_zero, List.set_cons_succ]
          refine wpAnyH_take (i := 3) rfl (by kernel_rfl) (by kernel_rfl) (by kernel_rfl) (fun _ _ _ h => h) (Or.inl ⟨by rfl, by intro W hSW; (try dsimp only at hSW); go_simp; try (with_reducible rfl)⟩) hHeld ?_
          try simp only [Act.put, List.getElem_toArray, List.getElem_cons_zero, List.getElem_cons_succ, List.setIfInBounds_toArray, List.set_cons_zero, List.set_cons_succ]
          refine wpAnyH_take (i := 4) rfl (by kernel_rfl) (by kernel_rfl) (by kernel_rfl) (fun _ _ _ h => h) (Or.inl ⟨by rfl, by intro W hSW; (try dsimp only at hSW); go_simp; try (with_reducible rfl)⟩) hHeld ?_
          try simp only [Act.put, List.getElem_toArray, List.getElem_cons_zero, List.getElem_cons_succ, List.setIfInBounds_toArray, List.set_cons_zero, List.set_cons_succ]
          refine wpAnyH_take (i := 5) rfl (by kernel_rfl) (by kernel_rfl) (by kernel_rfl) (fun _ _ _ h => h) (Or.inl ⟨by rfl, by intro W hSW; (try dsimp only at hSW); go_simp; try (with_reducible rfl)⟩) hHeld ?_
          try simp only [Act.put, List.getElem_toArray, List.getElem_cons_zero, List.getElem_cons_succ, List.setIfInBounds_toArray, List.set_cons_zero, List.set_cons_succ]
          refine wpAnyH_take (i := 7) rfl (by kernel_rfl) (by kernel_rfl) (by kernel_rfl) (fun _ _ _ h => h) (Or.inl ⟨by rfl, by intro W hSW; (try dsimp only at hSW); go_simp; try (with_reducible rfl)⟩) hHeld ?_
          try simp only [Act.put, List.getElem_toArray, List.getElem_cons_zero, List.getElem_cons_succ, List.setIfInBounds_toArray, List.set_cons_zero, List.set_cons_succ]
          refine wpAnyH_take (i := 8) rfl (by kernel_rfl) (by kernel_rfl) (by kernel_rfl) (fun _ _ _ h => h) (Or.inl ⟨by rfl, by intro W hSW; (try dsimp only at hSW); go_simp; try (with_reducible rfl)⟩) hHeld ?_
          try simp only [Act.put, List.getElem_toArray, List.getElem_cons_zero, List.getElem_cons_succ, List.setIfInBounds_toArray, List.set_cons_zero, List.set_cons_succ]
          refine wpAnyH_ready (rs := [6]) (by kernel_rfl) (by simp) ?_
          refine AllReadyH.cons rfl (fun K hK => ?_) AllReadyH.nil
          go_simp
          refine (CZ.out _ hHeld.2.2.2.2.2.2.2.2.2.2).mono ?_; rintro e w9 ⟨rfl, qb⟩
          try go_wp2_with fail
          refine hK.out _ _ (MK.out _ qb) ?_
          clear hK K hHeld
          intro hHeld
          clear qb
          try simp only [Act.put, List.getElem_toArray, List.getElem_cons_zero, List.getElem_cons_succ, List.setIfInBounds_toArray, List.set_cons_zero, List.set_cons_succ]
          refine wpAnyH_ready (rs := [9]) (by kernel_rfl) (by simp) ?_
          refine AllReadyH.cons rfl (fun K hK => ?_) AllReadyH.nil
          go_simp
          refine (CX.out _ hHeld.2.2.2.2.2.2.2.2.2.2).mono ?_; rintro e w10 ⟨rfl, qb⟩
          try go_wp2_with fail
          refine hK.out _ _ (MK.out _ qb) ?_
          clear hK K hHeld
          intro hHeld
          clear qb
          try simp only [Act.put, List.getElem_toArray, List.getElem_cons_zero, List.getElem_cons_succ, List.setIfInBounds_toArray, List.set_cons_zero, List.set_cons_succ]
          refine wpAnyH_take (i := 10) rfl (by kernel_rfl) (by kernel_rfl) (by kernel_rfl) (fun _ _ _ h => h) (Or.inl ⟨by rfl, by intro W hSW; (try dsimp only at hSW); go_simp; try (with_reducible rfl)⟩) hHeld ?_
          try simp only [Act.put, List.getElem_toArray, List.getElem_cons_zero, List.getElem_cons_succ, List.setIfInBounds_toArray, List.set_cons_zero, List.set_cons_succ]
          refine wpAnyH_take (i := 11) rfl (by kernel_rfl) (by kernel_rfl) (by kernel_rfl) (fun _ _ _ h => h) (Or.inl ⟨by rfl, by intro W hSW; (try dsimp only at hSW); go_simp; try (with_reducible rfl)⟩) hHeld ?_
          try simp only [Act.put, List.getElem_toArray, List.getElem_cons_zero, List.getElem_cons_succ, List.setIfInBounds_toArray, List.set_cons_zero, List.set_cons_succ]
          refine wpAnyH_done (by kernel_rfl) ?_ _
          refine NoPanic.normal ?_
          go_wp2_with fail
          go_roundw
          case rel => exact ⟨k + 1, by omega, by omega, by go_num, Lib.hid hHeld.2.2.2.2.2.2.2.2.2.2⟩
          case measure => simp [intOf]; omega
      · have hd3 : decide (k ≤ 4) = false := by simpa using hlt
        obtain ⟨q, hq⟩ : ∃ q, opdV a b c n i = q := ⟨_, rfl⟩
        have CXI := Lib.hid (show ∀ w', Below W8.heap.size W8 w' → Calls Tryd.prog 26 #[.agg #[.int .i64 o, .int .i64 a, .int .i64 b, .int .i64 c, .int .i64 n], .int .i64 i] w' (fun e w'' => e = .returned (.int .i64 q) ∧ Below W8.heap.size W8 w'') from fun w' hb => by
          rw [← hq]
          exact (operand_any o a b c n i w').mono fun e w'' h => ⟨h.1, hb.trans (h.2.mono hb.size)⟩)
        have CW := Lib.hid (show ∀ w', Below W8.heap.size W8 w' → Calls Tryd.prog 28 #[.agg #[.int .i64 o, .int .i64 a', .int .i64 b', .int .i64 c', .int .i64 n'], .int .i64 i, .int .i64 q] w' (fun e w'' => e = .returned (.agg #[.int .i64 o, .int .i64 a, .int .i64 b, .int .i64 c, .int .i64 n]) ∧ Below W8.heap.size W8 w'') from fun w' hb => by
          have h := with_any o a' b' c' n' i q w'
          rw [← hq, HBK.out] at h
          rw [← hq]
          exact h.mono fun e w'' h => ⟨h.1, hb.trans (h.2.mono hb.size)⟩)
        have CK := Lib.hid (show ∀ w', Below W8.heap.size W8 w' → Calls Tryd.prog 21 #[] w' (fun e w'' => e = .returned (.bool true) ∧ Below W8.heap.size W8 w'') from fun w' hb =>
          (known08_any w' (HTT.out.below hb)).mono fun e w'' h => ⟨h.1, hb.trans (h.2.mono hb.size)⟩)
        clear hlt hk0 hk5 hq
        go_wp2_with fail
        refine wp_region_noPanic ?_
        refine wp_region_held_drew (S := fun w' => w'.cell? ⟨GX, 0, none⟩ = some (.int .i64 o) ∧ w'.cell? ⟨GX, 1, none⟩ = some (.int .i64 a) ∧ w'.cell? ⟨GX, 2, none⟩ = some (.int .i64 b) ∧ w'.cell? ⟨GX, 3, none⟩ = some (.int .i64 c) ∧ w'.cell? ⟨GX, 4, none⟩ = some (.int .i64 n) ∧ w'.cell? ⟨GZ, 0, none⟩ = some (.int .i64 o) ∧ w'.cell? ⟨GZ, 1, none⟩ = some (.int .i64 a') ∧ w'.cell? ⟨GZ, 2, none⟩ = some (.int .i64 b') ∧ w'.cell? ⟨GZ, 3, none⟩ = some (.int .i64 c') ∧ w'.cell? ⟨GZ, 4, none⟩ = some (.int .i64 n') ∧ Below W8.heap.size W8 w') (by kernel_rfl) (MK.out _ (HBR.out.drew)) (fun hHeld => ?_)
        refine wpAnyH_take (i := 0) rfl (by kernel_rfl) (by kernel_rfl) (by kernel_rfl) (fun _ _ _ h => h) (Or.inl ⟨by rfl, by intro W hSW; (try dsimp only at hSW); go_simp; try (with_reducible rfl)⟩) hHeld ?_
        try simp only [Act.put, List.getElem_toArray, List.getElem_cons_zero, List.getElem_cons_succ, List.setIfInBounds_toArray, List.set_cons_zero, List.set_cons_succ]
        refine wpAnyH_take (i := 1) rfl (by kernel_rfl) (by kernel_rfl) (by kernel_rfl) (fun _ _ _ h => h) (Or.inl ⟨by rfl, by intro W hSW; (try dsimp only at hSW); go_simp; try (with_reducible rfl)⟩) hHeld ?_
        try simp only [Act.put, List.getElem_toArray, List.getElem_cons_zero, List.getElem_cons_succ, List.setIfInBounds_toArray, List.set_cons_zero, List.set_cons_succ]
        refine wpAnyH_take (i := 2) rfl (by kernel_rfl) (by kernel_rfl) (by kernel_rfl) (fun _ _ _ h => h) (Or.inl ⟨by rfl, by intro W hSW; (try dsimp only at hSW); go_simp; try (with_reducible rfl)⟩) hHeld ?_
        try simp only [Act.put, List.getElem_toArray, List.getElem_cons_zero, List.getElem_cons_succ, List.setIfInBounds_toArray, List.set_cons_zero, List.set_cons_succ]
        refine wpAnyH_take (i := 3) rfl (by kernel_rfl) (by kernel_rfl) (by kernel_rfl) (fun _ _ _ h => h) (Or.inl ⟨by rfl, by intro W hSW; (try dsimp only at hSW); go_simp; try (with_reducible rfl)⟩) hHeld ?_
        try simp only [Act.put, List.getElem_toArray, List.getElem_cons_zero, List.getElem_cons_succ, List.setIfInBounds_toArray, List.set_cons_zero, List.set_cons_succ]
        refine wpAnyH_take (i := 6) rfl (by kernel_rfl) (by kernel_rfl) (by kernel_rfl) (fun _ _ _ h => h) (Or.inl ⟨by rfl, by intro W hSW; (try dsimp only at hSW); go_simp; try (with_reducible rfl)⟩) hHeld ?_
        try simp only [Act.put, List.getElem_toArray, List.getElem_cons_zero, List.getElem_cons_succ, List.setIfInBounds_toArray, List.set_cons_zero, List.set_cons_succ]
        refine wpAnyH_ready (rs := [4]) (by kernel_rfl) (by simp) ?_
        refine AllReadyH.cons rfl (fun K hK => ?_) AllReadyH.nil
        go_simp
        refine (CXI.out _ hHeld.2.2.2.2.2.2.2.2.2.2).mono ?_; rintro e w9 ⟨rfl, qb⟩
        try go_wp2_with fail
        refine hK.out _ _ (MK.out _ qb) ?_
        clear hK K hHeld
        intro hHeld
        clear qb
        try simp only [Act.put, List.getElem_toArray, List.getElem_cons_zero, List.getElem_cons_succ, List.setIfInBounds_toArray, List.set_cons_zero, List.set_cons_succ]
        refine wpAnyH_ready (rs := [5]) (by kernel_rfl) (by simp) ?_
        refine AllReadyH.cons rfl (fun K hK => ?_) AllReadyH.nil
        go_simp
        refine (CW.out _ hHeld.2.2.2.2.2.2.2.2.2.2).mono ?_; rintro e w10 ⟨rfl, qb⟩
        try go_wp2_with fail
        refine hK.out _ _ (MK.out _ qb) ?_
        clear hK K hHeld
        intro hHeld
        clear qb
        try simp only [Act.put, List.getElem_toArray, List.getElem_cons_zero, List.getElem_cons_succ, List.setIfInBounds_toArray, List.set_cons_zero, List.set_cons_succ]
        refine wpAnyH_take (i := 7) rfl (by kernel_rfl) (by kernel_rfl) (by kernel_rfl) (fun _ _ _ h => h) (Or.inl ⟨by rfl, by intro W hSW; (try dsimp only at hSW); go_simp; try (with_reducible rfl)⟩) hHeld ?_
        try simp only [Act.put, List.getElem_toArray, List.getElem_cons_zero, List.getElem_cons_succ, List.setIfInBounds_toArray, List.set_cons_zero, List.set_cons_succ]
        refine wpAnyH_take (i := 8) rfl (by kernel_rfl) (by kernel_rfl) (by kernel_rfl) (fun _ _ _ h => h) (Or.inl ⟨by rfl, by intro W hSW; (try dsimp only at hSW); go_simp; try (with_reducible rfl)⟩) hHeld ?_
        try simp only [Act.put, List.getElem_toArray, List.getElem_cons_zero, List.getElem_cons_succ, List.setIfInBounds_toArray, List.set_cons_zero, List.set_cons_succ]
        refine wpAnyH_ready (rs := [9]) (by kernel_rfl) (by simp) ?_
        refine AllReadyH.cons rfl (fun K hK => ?_) AllReadyH.nil
        go_simp
        refine (CK.out _ hHeld.2.2.2.2.2.2.2.2.2.2).mono ?_; rintro e w11 ⟨rfl, qb⟩
        try go_wp2_with fail
        refine hK.out _ _ (MK.out _ qb) ?_
        clear hK K hHeld
        intro hHeld
        clear qb
        try simp only [Act.put, List.getElem_toArray, List.getElem_cons_zero, List.getElem_cons_succ, List.setIfInBounds_toArray, List.set_cons_zero, List.set_cons_succ]
        refine wpAnyH_take (i := 10) rfl (by kernel_rfl) (by kernel_rfl) (by kernel_rfl) (fun _ _ _ h => h) (Or.inl ⟨by rfl, by intro W hSW; (try dsimp only at hSW); go_simp; try (with_reducible rfl)⟩) hHeld ?_
        try simp only [Act.put, List.getElem_toArray, List.getElem_cons_zero, List.getElem_cons_succ, List.setIfInBounds_toArray, List.set_cons_zero, List.set_cons_succ]
        refine wpAnyH_take (i := 11) rfl (by kernel_rfl) (by kernel_rfl) (by kernel_rfl) (fun _ _ _ h => h) (Or.inl ⟨by rfl, by intro W hSW; (try dsimp only at hSW); go_simp; try (with_reducible rfl)⟩) hHeld ?_
        try simp only [Act.put, List.getElem_toArray, List.getElem_cons_zero, List.getElem_cons_succ, List.setIfInBounds_toArray, List.set_cons_zero, List.set_cons_succ]
        refine wpAnyH_done (by kernel_rfl) ?_ _
        refine NoPanic.normal ?_
        go_wp2_with fail
        go_ret
        exact ⟨rfl, HB8.out.trans (hHeld.2.2.2.2.2.2.2.2.2.2.mono HB8.out.size)⟩

end Go.Proofs.YtieacapdfeljfaaDoor.By
