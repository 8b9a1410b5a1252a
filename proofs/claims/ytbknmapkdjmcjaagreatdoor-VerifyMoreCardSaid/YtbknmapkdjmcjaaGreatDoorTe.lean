/-
  WALKS of layer 17: symbols, classes, all operands.
-/
import Derived.Test.YtbknmapkdjmcjaaGreatDoorTd
import Derived.Test.YtbknmapkdjmcjaaGreatDoorIa
import Derived.Lib.Strings
namespace Go.Proofs.YtbknmapkdjmcjaaGreatDoor.By
open Go.RowKit
open Mem Gm Rf
set_option linter.unusedSimpArgs false
set_option linter.unusedVariables false

theorem blk5 {w : World} {g : Nat} {t : TypeId} {x0 x1 x2 x3 x4 : Value} (h : Blk w g t #[x0, x1, x2, x3, x4]) : w.cell? ⟨g, 0, none⟩ = some x0 ∧ w.cell? ⟨g, 1, none⟩ = some x1 ∧ w.cell? ⟨g, 2, none⟩ = some x2 ∧ w.cell? ⟨g, 3, none⟩ = some x3 ∧ w.cell? ⟨g, 4, none⟩ = some x4 :=
  ⟨h.cell 0, h.cell 1, h.cell 2, h.cell 3, h.cell 4⟩
set_option maxHeartbeats 4000000 in
theorem iso_any (nm : ByteArray) (loc : Bool) (so kd df need : Int) (w : World) (h1 : -9223372036854775808 ≤ kd) (h2 : kd ≤ 9223372036854775807) : Calls Tryz.prog 164 #[.agg #[.string nm, .bool loc, .int .i64 so, .int .i64 kd, .int .i64 df], .int .i64 need] w fun e w' => e = .returned (.bool (isOfV so kd need)) ∧ Below w.heap.size w w' := by
  obtain ⟨W1, hW1⟩ : ∃ W1, w.alloc (.cells #[.string nm, .bool loc, .int .i64 so, .int .i64 kd, .int .i64 df] 68) = W1 := ⟨_, rfl⟩
  have HB1 := Lib.hid (show Below w.heap.size w W1 from by rw [← hW1]; exact alloc_ _ _)
  obtain ⟨x0, x1, x2, x3, x4⟩ := blk5 (show Blk W1 w.heap.size 68 #[.string nm, .bool loc, .int .i64 so, .int .i64 kd, .int .i64 df] from by rw [← hW1]; exact Blk.new w _ _)
  have HC := Lib.hid (fun W => Si.cl_any kd h1 h2 W)
  clear h1 h2
  unfold isOfV
  by_cases n0 : need = 0
  · subst n0
    rw [if_pos rfl]
    go_enter Tryz.func164, Tryz.ntmps164
    go_wp2_with fail
    go_ret
    exact ⟨rfl, HB1.out⟩
  rw [if_neg n0]
  have d0 : (need == 0) = false := by simpa using n0
  by_cases n3 : need = 3
  · subst n3
    rw [if_pos rfl]
    by_cases e2 : so = 2
    · subst e2
      by_cases k0 : kd = 0
      · subst k0
        go_enter Tryz.func164, Tryz.ntmps164
        go_wp2_with fail
        go_ret
        exact ⟨by simp, HB1.out⟩
      · have dk : (kd == 0) = false := by simpa using k0
        have hf : decide ((2 : Int) = 2 ∧ kd = 0) = false := by simp [k0]
        rw [hf]
        clear k0 hf n0
        go_enter Tryz.func164, Tryz.ntmps164
        go_wp2_with fail
        go_ret
        exact ⟨rfl, HB1.out⟩
    · have ds : (so == 2) = false := by simpa using e2
      have hf : decide (so = 2 ∧ kd = 0) = false := by simp [e2]
      rw [hf]
      clear e2 hf n0
      go_enter Tryz.func164, Tryz.ntmps164
      go_wp2_with fail
      go_ret
      exact ⟨rfl, HB1.out⟩
  rw [if_neg n3]
  have d3 : (need == 3) = false := by simpa using n3
  by_cases n4 : need = 4
  · subst n4
    rw [if_pos rfl]
    by_cases e2 : so = 2
    · subst e2
      rw [show decide ((2 : Int) = 2) = true from rfl, Bool.true_and]
      clear n0 n3
      go_enter Tryz.func164, Tryz.ntmps164
      go_wp2_with fail
      refine (HC.out _).mono ?_
      rintro e w2 ⟨rfl, rfl⟩
      go_wp2_with fail
      go_ret
      exact ⟨rfl, HB1.out⟩
    · have ds : (so == 2) = false := by simpa using e2
      rw [show decide (so = 2) = false from by simpa using e2, Bool.false_and]
      clear n0 n3 e2
      go_enter Tryz.func164, Tryz.ntmps164
      go_wp2_with fail
      refine (HC.out _).mono ?_
      rintro e w2 ⟨rfl, rfl⟩
      go_wp2_with fail
      go_ret
      exact ⟨rfl, HB1.out⟩
  rw [if_neg n4]
  have d4 : (need == 4) = false := by simpa using n4
  clear n0 n3 n4
  obtain ⟨bb, hbb⟩ : ∃ b, (so == 1) = b := ⟨_, rfl⟩
  rw [show decide (so = 1) = bb from by rw [← hbb]; by_cases h : so = 1 <;> simp [h]]
  go_enter Tryz.func164, Tryz.ntmps164
  go_wp2_with fail
  go_ret
  exact ⟨rfl, HB1.out⟩

set_option maxHeartbeats 4000000 in
theorem cs_any (own o a b c n : Int) (nm : ByteArray) (loc : Bool) (so kd df : Int) (AK : Option Addr) (nK cK : Nat) (w : World) (h1 : -9223372036854775808 ≤ kd) (h2 : kd ≤ 9223372036854775807) : Calls Tryz.prog 96 #[.agg #[.slice AK nK cK, .int .i64 own, .int .i64 o, .int .i64 a, .int .i64 b, .int .i64 c, .int .i64 n, .string nm, .bool loc, .int .i64 so, .int .i64 kd, .int .i64 df]] w fun e w' => e = .returned (.int .i64 (if isOfV so kd (ndV o) = false then 8 else 0)) ∧ Below w.heap.size w w' := by
  obtain ⟨W1, hW1⟩ : ∃ W1, w.alloc (.cells #[.slice AK nK cK, .int .i64 own, .int .i64 o, .int .i64 a, .int .i64 b, .int .i64 c, .int .i64 n, .string nm, .bool loc, .int .i64 so, .int .i64 kd, .int .i64 df] 123) = W1 := ⟨_, rfl⟩
  have HB1 := Lib.hid (show Below w.heap.size w W1 from by rw [← hW1]; exact alloc_ _ _)
  have HX := Lib.hid (show Blk W1 w.heap.size 123 #[.slice AK nK cK, .int .i64 own, .int .i64 o, .int .i64 a, .int .i64 b, .int .i64 c, .int .i64 n, .string nm, .bool loc, .int .i64 so, .int .i64 kd, .int .i64 df] from by rw [← hW1]; exact Blk.new w _ _)
  obtain ⟨x0, x1, x2, x3, x4, x5, x6, x7, x8, x9, x10, x11⟩ := blk12 HX.out
  have HI := Lib.hid (fun W => iso_any nm loc so kd df (ndV o) W h1 h2)
  have HN := Lib.hid (fun W => need_any o W)
  have MK := Lib.hid (show ∀ W, Below W1.heap.size W1 W → (W.cell? ⟨w.heap.size, 0, none⟩ = some (.slice AK nK cK) ∧ W.cell? ⟨w.heap.size, 1, none⟩ = some (.int .i64 own) ∧ W.cell? ⟨w.heap.size, 2, none⟩ = some (.int .i64 o) ∧ W.cell? ⟨w.heap.size, 3, none⟩ = some (.int .i64 a) ∧ W.cell? ⟨w.heap.size, 4, none⟩ = some (.int .i64 b) ∧ W.cell? ⟨w.heap.size, 5, none⟩ = some (.int .i64 c) ∧ W.cell? ⟨w.heap.size, 6, none⟩ = some (.int .i64 n) ∧ W.cell? ⟨w.heap.size, 7, none⟩ = some (.string nm) ∧ W.cell? ⟨w.heap.size, 8, none⟩ = some (.bool loc) ∧ W.cell? ⟨w.heap.size, 9, none⟩ = some (.int .i64 so) ∧ W.cell? ⟨w.heap.size, 10, none⟩ = some (.int .i64 kd) ∧ W.cell? ⟨w.heap.size, 11, none⟩ = some (.int .i64 df)) ∧ Below W1.heap.size W1 W from fun W hb => ⟨blk12 (HX.out.below hb HX.out.lt), hb⟩)
  generalize ndV o = nd at HI HN ⊢
  generalize isOfV so kd nd = bb at HI ⊢
  clear h1 h2
  cases bb with
  | false =>
    rw [if_pos rfl]
    go_enter Tryz.func96, Tryz.ntmps96
    go_wp2_with fail
    clear hW1 x0 x1 x2 x3 x4 x5 x6 x7 x8 x9 x10 x11
    refine wp_region_noPanic ?_
    refine wp_region_held_drew (S := fun W => (W.cell? ⟨w.heap.size, 0, none⟩ = some (.slice AK nK cK) ∧ W.cell? ⟨w.heap.size, 1, none⟩ = some (.int .i64 own) ∧ W.cell? ⟨w.heap.size, 2, none⟩ = some (.int .i64 o) ∧ W.cell? ⟨w.heap.size, 3, none⟩ = some (.int .i64 a) ∧ W.cell? ⟨w.heap.size, 4, none⟩ = some (.int .i64 b) ∧ W.cell? ⟨w.heap.size, 5, none⟩ = some (.int .i64 c) ∧ W.cell? ⟨w.heap.size, 6, none⟩ = some (.int .i64 n) ∧ W.cell? ⟨w.heap.size, 7, none⟩ = some (.string nm) ∧ W.cell? ⟨w.heap.size, 8, none⟩ = some (.bool loc) ∧ W.cell? ⟨w.heap.size, 9, none⟩ = some (.int .i64 so) ∧ W.cell? ⟨w.heap.size, 10, none⟩ = some (.int .i64 kd) ∧ W.cell? ⟨w.heap.size, 11, none⟩ = some (.int .i64 df)) ∧ Below W1.heap.size W1 W) (by kernel_rfl) (MK.out _ (Below.refl _ _).drew) (fun hHeld => ?_)
    refine wpAnyH_take (i := 0) rfl (by kernel_rfl) (by kernel_rfl) (by kernel_rfl) (fun _ _ _ h => h) (Or.inl ⟨by rfl, by intro W hSW; (try dsimp only at hSW); go_simp; try (with_reducible rfl)⟩) hHeld ?_
    try simp only [Act.put, List.getElem_toArray, List.getElem_cons_zero, List.getElem_cons_succ, List.setIfInBounds_toArray, List.set_cons_zero, List.set_cons_succ]
    refine wpAnyH_take (i := 1) rfl (by kernel_rfl) (by kernel_rfl) (by kernel_rfl) (fun _ _ _ h => h) (Or.inl ⟨by rfl, by intro W hSW; (try dsimp only at hSW); go_simp; try (with_reducible rfl)⟩) hHeld ?_
    try simp only [Act.put, List.getElem_toArray, List.getElem_cons_zero, List.getElem_cons_succ, List.setIfInBounds_toArray, List.set_cons_zero, List.set_cons_succ]
    refine wpAnyH_take (i := 2) rfl (by kernel_rfl) (by kernel_rfl) (by kernel_rfl) (fun _ _ _ h => h) (Or.inl ⟨by rfl, by intro W hSW; (try dsimp only at hSW); go_simp; try (with_reducible rfl)⟩) hHeld ?_
    try simp only [Act.put, List.getElem_toArray, List.getElem_cons_zero, List.getElem_cons_succ, List.setIfInBounds_toArray, List.set_cons_zero, List.set_cons_succ]
    refine wpAnyH_take (i := 3) rfl (by kernel_rfl) (by kernel_rfl) (by kernel_rfl) (fun _ _ _ h => h) (Or.inl ⟨by rfl, by intro W hSW; (try dsimp only at hSW); go_simp; try (with_reducible rfl)⟩) hHeld ?_
    try simp only [Act.put, List.getElem_toArray, List.getElem_cons_zero, List.getElem_cons_succ, List.setIfInBounds_toArray, List.set_cons_zero, List.set_cons_succ]
    refine wpAnyH_take (i := 4) rfl (by kernel_rfl) (by kernel_rfl) (by kernel_rfl) (fun _ _ _ h => h) (Or.inl ⟨by rfl, by intro W hSW; (try dsimp only at hSW); go_simp; try (with_reducible rfl)⟩) hHeld ?_
    try simp only [Act.put, List.getElem_toArray, List.getElem_cons_zero, List.getElem_cons_succ, List.setIfInBounds_toArray, List.set_cons_zero, List.set_cons_succ]
    refine wpAnyH_ready (rs := [5]) (by kernel_rfl) (by simp) ?_
    refine AllReadyH.cons rfl (fun K hK => ?_) AllReadyH.nil
    go_simp
    refine (HN.out _).mono ?_
    rintro e w1 ⟨rfl, rfl⟩
    try go_wp2_with fail
    refine hK.out _ _ (hHeld) ?_
    clear hK K hHeld
    intro hHeld
    try simp only [Act.put, List.getElem_toArray, List.getElem_cons_zero, List.getElem_cons_succ, List.setIfInBounds_toArray, List.set_cons_zero, List.set_cons_succ]
    refine wpAnyH_ready (rs := [6]) (by kernel_rfl) (by simp) ?_
    refine AllReadyH.cons rfl (fun K hK => ?_) AllReadyH.nil
    go_simp
    refine (HI.out _).mono ?_
    rintro e w2 ⟨rfl, b2⟩
    have q2 := to_ hHeld.2 b2
    try go_wp2_with fail
    refine hK.out _ _ (MK.out _ q2) ?_
    clear hK K hHeld
    intro hHeld
    have HB2 := Lib.hid (to_ HB1.out q2)
    clear b2 q2
    try simp only [Act.put, List.getElem_toArray, List.getElem_cons_zero, List.getElem_cons_succ, List.setIfInBounds_toArray, List.set_cons_zero, List.set_cons_succ]
    refine wpAnyH_take (i := 7) rfl (by kernel_rfl) (by kernel_rfl) (by kernel_rfl) (fun _ _ _ h => h) (Or.inl ⟨by rfl, by intro W hSW; (try dsimp only at hSW); go_simp; try (with_reducible rfl)⟩) hHeld ?_
    try simp only [Act.put, List.getElem_toArray, List.getElem_cons_zero, List.getElem_cons_succ, List.setIfInBounds_toArray, List.set_cons_zero, List.set_cons_succ]
    refine wpAnyH_done (by kernel_rfl) ?_ _
    refine NoPanic.normal ?_
    go_wp2_with fail
    go_ret
    exact ⟨rfl, HB2.out⟩
  | true =>
    rw [if_neg (by decide)]
    go_enter Tryz.func96, Tryz.ntmps96
    go_wp2_with fail
    clear hW1 x0 x1 x2 x3 x4 x5 x6 x7 x8 x9 x10 x11
    refine wp_region_noPanic ?_
    refine wp_region_held_drew (S := fun W => (W.cell? ⟨w.heap.size, 0, none⟩ = some (.slice AK nK cK) ∧ W.cell? ⟨w.heap.size, 1, none⟩ = some (.int .i64 own) ∧ W.cell? ⟨w.heap.size, 2, none⟩ = some (.int .i64 o) ∧ W.cell? ⟨w.heap.size, 3, none⟩ = some (.int .i64 a) ∧ W.cell? ⟨w.heap.size, 4, none⟩ = some (.int .i64 b) ∧ W.cell? ⟨w.heap.size, 5, none⟩ = some (.int .i64 c) ∧ W.cell? ⟨w.heap.size, 6, none⟩ = some (.int .i64 n) ∧ W.cell? ⟨w.heap.size, 7, none⟩ = some (.string nm) ∧ W.cell? ⟨w.heap.size, 8, none⟩ = some (.bool loc) ∧ W.cell? ⟨w.heap.size, 9, none⟩ = some (.int .i64 so) ∧ W.cell? ⟨w.heap.size, 10, none⟩ = some (.int .i64 kd) ∧ W.cell? ⟨w.heap.size, 11, none⟩ = some (.int .i64 df)) ∧ Below W1.heap.size W1 W) (by kernel_rfl) (MK.out _ (Below.refl _ _).drew) (fun hHeld => ?_)
    refine wpAnyH_take (i := 0) rfl (by kernel_rfl) (by kernel_rfl) (by kernel_rfl) (fun _ _ _ h => h) (Or.inl ⟨by rfl, by intro W hSW; (try dsimp only at hSW); go_simp; try (with_reducible rfl)⟩) hHeld ?_
    try simp only [Act.put, List.getElem_toArray, List.getElem_cons_zero, List.getElem_cons_succ, List.setIfInBounds_toArray, List.set_cons_zero, List.set_cons_succ]
    refine wpAnyH_take (i := 1) rfl (by kernel_rfl) (by kernel_rfl) (by kernel_rfl) (fun _ _ _ h => h) (Or.inl ⟨by rfl, by intro W hSW; (try dsimp only at hSW); go_simp; try (with_reducible rfl)⟩) hHeld ?_
    try simp only [Act.put, List.getElem_toArray, List.getElem_cons_zero, List.getElem_cons_succ, List.setIfInBounds_toArray, List.set_cons_zero, List.set_cons_succ]
    refine wpAnyH_take (i := 2) rfl (by kernel_rfl) (by kernel_rfl) (by kernel_rfl) (fun _ _ _ h => h) (Or.inl ⟨by rfl, by intro W hSW; (try dsimp only at hSW); go_simp; try (with_reducible rfl)⟩) hHeld ?_
    try simp only [Act.put, List.getElem_toArray, List.getElem_cons_zero, List.getElem_cons_succ, List.setIfInBounds_toArray, List.set_cons_zero, List.set_cons_succ]
    refine wpAnyH_take (i := 3) rfl (by kernel_rfl) (by kernel_rfl) (by kernel_rfl) (fun _ _ _ h => h) (Or.inl ⟨by rfl, by intro W hSW; (try dsimp only at hSW); go_simp; try (with_reducible rfl)⟩) hHeld ?_
    try simp only [Act.put, List.getElem_toArray, List.getElem_cons_zero, List.getElem_cons_succ, List.setIfInBounds_toArray, List.set_cons_zero, List.set_cons_succ]
    refine wpAnyH_take (i := 4) rfl (by kernel_rfl) (by kernel_rfl) (by kernel_rfl) (fun _ _ _ h => h) (Or.inl ⟨by rfl, by intro W hSW; (try dsimp only at hSW); go_simp; try (with_reducible rfl)⟩) hHeld ?_
    try simp only [Act.put, List.getElem_toArray, List.getElem_cons_zero, List.getElem_cons_succ, List.setIfInBounds_toArray, List.set_cons_zero, List.set_cons_succ]
    refine wpAnyH_ready (rs := [5]) (by kernel_rfl) (by simp) ?_
    refine AllReadyH.cons rfl (fun K hK => ?_) AllReadyH.nil
    go_simp
    refine (HN.out _).mono ?_
    rintro e w1 ⟨rfl, rfl⟩
    try go_wp2_with fail
    refine hK.out _ _ (hHeld) ?_
    clear hK K hHeld
    intro hHeld
    try simp only [Act.put, List.getElem_toArray, List.getElem_cons_zero, List.getElem_cons_succ, List.setIfInBounds_toArray, List.set_cons_zero, List.set_cons_succ]
    refine wpAnyH_ready (rs := [6]) (by kernel_rfl) (by simp) ?_
    refine AllReadyH.cons rfl (fun K hK => ?_) AllReadyH.nil
    go_simp
    refine (HI.out _).mono ?_
    rintro e w2 ⟨rfl, b2⟩
    have q2 := to_ hHeld.2 b2
    try go_wp2_with fail
    refine hK.out _ _ (MK.out _ q2) ?_
    clear hK K hHeld
    intro hHeld
    have HB2 := Lib.hid (to_ HB1.out q2)
    clear b2 q2
    try simp only [Act.put, List.getElem_toArray, List.getElem_cons_zero, List.getElem_cons_succ, List.setIfInBounds_toArray, List.set_cons_zero, List.set_cons_succ]
    refine wpAnyH_take (i := 7) rfl (by kernel_rfl) (by kernel_rfl) (by kernel_rfl) (fun _ _ _ h => h) (Or.inl ⟨by rfl, by intro W hSW; (try dsimp only at hSW); go_simp; try (with_reducible rfl)⟩) hHeld ?_
    try simp only [Act.put, List.getElem_toArray, List.getElem_cons_zero, List.getElem_cons_succ, List.setIfInBounds_toArray, List.set_cons_zero, List.set_cons_succ]
    refine wpAnyH_done (by kernel_rfl) ?_ _
    refine NoPanic.normal ?_
    go_wp2_with fail
    go_ret
    exact ⟨rfl, HB2.out⟩
set_option maxHeartbeats 4000000 in
theorem cc_any (own o a b c n : Int) (nm : ByteArray) (loc : Bool) (so kd df : Int) (AK : Option Addr) (nK cK : Nat) (w : World) (h1 : -9223372036854775808 ≤ kd) (h2 : kd ≤ 9223372036854775807) : Calls Tryz.prog 97 #[.agg #[.slice AK nK cK, .int .i64 own, .int .i64 o, .int .i64 a, .int .i64 b, .int .i64 c, .int .i64 n, .string nm, .bool loc, .int .i64 so, .int .i64 kd, .int .i64 df]] w fun e w' => e = .returned (.int .i64 (veC o (clsV o c kd))) ∧ Below w.heap.size w w' := by
  obtain ⟨W1, hW1⟩ : ∃ W1, w.alloc (.cells #[.slice AK nK cK, .int .i64 own, .int .i64 o, .int .i64 a, .int .i64 b, .int .i64 c, .int .i64 n, .string nm, .bool loc, .int .i64 so, .int .i64 kd, .int .i64 df] 123) = W1 := ⟨_, rfl⟩
  have HB1 := Lib.hid (show Below w.heap.size w W1 from by rw [← hW1]; exact alloc_ _ _)
  have HX := Lib.hid (show Blk W1 w.heap.size 123 #[.slice AK nK cK, .int .i64 own, .int .i64 o, .int .i64 a, .int .i64 b, .int .i64 c, .int .i64 n, .string nm, .bool loc, .int .i64 so, .int .i64 kd, .int .i64 df] from by rw [← hW1]; exact Blk.new w _ _)
  obtain ⟨x0, x1, x2, x3, x4, x5, x6, x7, x8, x9, x10, x11⟩ := blk12 HX.out
  have HC := Lib.hid (fun W => cls_any own o a b c n nm loc so kd df AK nK cK W h1 h2)
  unfold veC
  generalize clsV o c kd = z at HC ⊢
  clear h1 h2
  by_cases e20 : o = 20
  · subst e20
    have HL := Lib.hid (fun W => Si.is_any z W)
    cases hz : Si.isC z with
    | false =>
      rw [hz] at HL
      rw [if_pos (Or.inl ⟨rfl, rfl⟩)]
      go_enter Tryz.func97, Tryz.ntmps97
      go_wp2_with fail
      clear hW1 x0 x1 x2 x3 x4 x5 x6 x7 x8 x9 x10 x11
      refine (HC.out _).mono ?_
      rintro e w1 ⟨rfl, b1⟩
      have HB2 := Lib.hid (to_ HB1.out b1)
      have HX9 := Lib.hid (HX.out.below b1 HX.out.lt)
      clear b1
      go_wp2_with fail
      refine (HL.out _).mono ?_
      rintro e w2 ⟨rfl, rfl⟩
      obtain ⟨x0, x1, x2, x3, x4, x5, x6, x7, x8, x9, x10, x11⟩ := blk12 HX9.out
      go_wp2_with fail
      go_ret
      exact ⟨rfl, HB2.out⟩
    | true =>
      rw [hz] at HL
      rw [if_neg (by simp)]
      go_enter Tryz.func97, Tryz.ntmps97
      go_wp2_with fail
      clear hW1 x0 x1 x2 x3 x4 x5 x6 x7 x8 x9 x10 x11
      refine (HC.out _).mono ?_
      rintro e w1 ⟨rfl, b1⟩
      have HB2 := Lib.hid (to_ HB1.out b1)
      have HX9 := Lib.hid (HX.out.below b1 HX.out.lt)
      clear b1
      go_wp2_with fail
      refine (HL.out _).mono ?_
      rintro e w2 ⟨rfl, rfl⟩
      obtain ⟨x0, x1, x2, x3, x4, x5, x6, x7, x8, x9, x10, x11⟩ := blk12 HX9.out
      go_wp2_with fail
      go_ret
      exact ⟨rfl, HB2.out⟩
  have d20 : (o == 20) = false := by simpa using e20
  by_cases e21 : o = 21
  · subst e21
    have HL := Lib.hid (fun W => Si.lat_any z W)
    cases hz : Si.latV z with
    | false =>
      rw [hz] at HL
      rw [if_pos (Or.inr ⟨rfl, rfl⟩)]
      clear e20
      go_enter Tryz.func97, Tryz.ntmps97
      go_wp2_with fail
      clear hW1 x0 x1 x2 x3 x4 x5 x6 x7 x8 x9 x10 x11
      refine (HC.out _).mono ?_
      rintro e w1 ⟨rfl, b1⟩
      have HB2 := Lib.hid (to_ HB1.out b1)
      have HX9 := Lib.hid (HX.out.below b1 HX.out.lt)
      clear b1
      go_wp2_with fail
      refine (HL.out _).mono ?_
      rintro e w2 ⟨rfl, rfl⟩
      obtain ⟨x0, x1, x2, x3, x4, x5, x6, x7, x8, x9, x10, x11⟩ := blk12 HX9.out
      go_wp2_with fail
      go_ret
      exact ⟨rfl, HB2.out⟩
    | true =>
      rw [hz] at HL
      rw [if_neg (by simp)]
      clear e20
      go_enter Tryz.func97, Tryz.ntmps97
      go_wp2_with fail
      clear hW1 x0 x1 x2 x3 x4 x5 x6 x7 x8 x9 x10 x11
      refine (HC.out _).mono ?_
      rintro e w1 ⟨rfl, b1⟩
      have HB2 := Lib.hid (to_ HB1.out b1)
      have HX9 := Lib.hid (HX.out.below b1 HX.out.lt)
      clear b1
      go_wp2_with fail
      refine (HL.out _).mono ?_
      rintro e w2 ⟨rfl, rfl⟩
      obtain ⟨x0, x1, x2, x3, x4, x5, x6, x7, x8, x9, x10, x11⟩ := blk12 HX9.out
      go_wp2_with fail
      go_ret
      exact ⟨rfl, HB2.out⟩
  have d21 : (o == 21) = false := by simpa using e21
  rw [if_neg (by simp [e20, e21])]
  clear e20 e21
  go_enter Tryz.func97, Tryz.ntmps97
  go_wp2_with fail
  go_ret
  exact ⟨rfl, HB1.out⟩
end Go.Proofs.YtbknmapkdjmcjaaGreatDoor.By
