/-
  WALKS of layer 17: what is checked of slots, and classes.
-/
import Derived.Test.YtbknmapkdjmcjaaGreatDoorTa
import Derived.Test.YtbknmapkdjmcjaaGreatDoorSx
import Derived.Test.YtbknmapkdjmcjaaGreatDoorVa
namespace Go.Proofs.YtbknmapkdjmcjaaGreatDoor.By
open Go.RowKit
open Mem Gm Rf
set_option linter.unusedSimpArgs false
set_option linter.unusedVariables false

theorem blk12 {w : World} {g : Nat} {t : TypeId} {x0 x1 x2 x3 x4 x5 x6 x7 x8 x9 x10 x11 : Value} (h : Blk w g t #[x0, x1, x2, x3, x4, x5, x6, x7, x8, x9, x10, x11]) : w.cell? ⟨g, 0, none⟩ = some x0 ∧ w.cell? ⟨g, 1, none⟩ = some x1 ∧ w.cell? ⟨g, 2, none⟩ = some x2 ∧ w.cell? ⟨g, 3, none⟩ = some x3 ∧ w.cell? ⟨g, 4, none⟩ = some x4 ∧ w.cell? ⟨g, 5, none⟩ = some x5 ∧ w.cell? ⟨g, 6, none⟩ = some x6 ∧ w.cell? ⟨g, 7, none⟩ = some x7 ∧ w.cell? ⟨g, 8, none⟩ = some x8 ∧ w.cell? ⟨g, 9, none⟩ = some x9 ∧ w.cell? ⟨g, 10, none⟩ = some x10 ∧ w.cell? ⟨g, 11, none⟩ = some x11 :=
  ⟨h.cell 0, h.cell 1, h.cell 2, h.cell 3, h.cell 4, h.cell 5, h.cell 6, h.cell 7, h.cell 8, h.cell 9, h.cell 10, h.cell 11⟩
theorem inl_any (i : Int) (m : Nat) (w : World) : Calls Tryz.prog 92 #[.int .i64 i, .int .i64 (m : Int)] w fun e w' => e = .returned (.bool (inL i m)) ∧ w = w' := by
  have hb : (decide (0 ≤ i) = false ∧ inL i m = false) ∨ (decide (0 ≤ i) = true ∧ decide (i < (m : Int)) = false ∧ inL i m = false) ∨ (decide (0 ≤ i) = true ∧ decide (i < (m : Int)) = true ∧ inL i m = true) := by
    unfold inL
    by_cases h1 : 0 ≤ i
    · by_cases h2 : i < (m : Int)
      · right; right; exact ⟨by simpa using h1, by simpa using h2, by simp; omega⟩
      · right; left; exact ⟨by simpa using h1, by simpa using h2, by simp; omega⟩
    · left; exact ⟨by simpa using h1, by simp; omega⟩
  rcases hb with ⟨h1, h2⟩ | ⟨h1, h3, h2⟩ | ⟨h1, h3, h2⟩
  all_goals rw [h2]
  all_goals clear h2
  all_goals
    go_enter Tryz.func92, Tryz.ntmps92
    go_wp2
    all_goals go_ret
    all_goals exact ⟨rfl, rfl⟩
theorem un_any (i : Int) (w : World) : Calls Tryz.prog 316 #[.int .i64 i] w fun e w' => e = .returned (.int .i64 (unE i)) ∧ w = w' := by
  unfold unE
  by_cases h : i = 0
  · subst h
    rw [if_pos rfl]
    go_enter Tryz.func316, Tryz.ntmps316
    go_wp2
    go_ret
    exact ⟨rfl, rfl⟩
  · rw [if_neg h]
    have h2 : (i != 0) = true := by simpa using h
    have h3 : (i == 0) = false := by simpa using h
    clear h
    go_enter Tryz.func316, Tryz.ntmps316
    go_wp2
    go_ret
    exact ⟨rfl, rfl⟩

set_option maxHeartbeats 2000000 in
theorem cls_any (own o a b c n : Int) (nm : ByteArray) (loc : Bool) (so kd df : Int) (AK : Option Addr) (nK cK : Nat) (w : World) (h1 : -9223372036854775808 ≤ kd) (h2 : kd ≤ 9223372036854775807) : Calls Tryz.prog 165 #[.agg #[.slice AK nK cK, .int .i64 own, .int .i64 o, .int .i64 a, .int .i64 b, .int .i64 c, .int .i64 n, .string nm, .bool loc, .int .i64 so, .int .i64 kd, .int .i64 df]] w fun e w' => e = .returned (.int .i64 (clsV o c kd)) ∧ Below w.heap.size w w' := by
  have HC := Lib.hid (fun W => Si.cl_any kd h1 h2 W)
  have HB := Lib.hid (show Below w.heap.size w (w.alloc (.cells #[.slice AK nK cK, .int .i64 own, .int .i64 o, .int .i64 a, .int .i64 b, .int .i64 c, .int .i64 n, .string nm, .bool loc, .int .i64 so, .int .i64 kd, .int .i64 df] 123)) from alloc_ _ _)
  unfold clsV clsV.clV'
  by_cases e20 : o = 20
  · subst e20
    rw [if_pos rfl]
    clear h1 h2
    go_enter Tryz.func165, Tryz.ntmps165
    go_wp2_with fail
    go_ret
    exact ⟨rfl, HB.out⟩
  · rw [if_neg e20]
    have d20 : (o == 20) = false := by simpa using e20
    by_cases e18 : o = 18
    · subst e18
      rw [if_pos rfl]
      clear h1 h2 e20
      go_enter Tryz.func165, Tryz.ntmps165
      go_wp2_with fail
      refine (HC.out _).mono ?_
      rintro e w1 ⟨rfl, rfl⟩
      go_wp2_with fail
      go_ret
      exact ⟨rfl, HB.out⟩
    · rw [if_neg e18]
      have d18 : (o == 18) = false := by simpa using e18
      clear h1 h2 e20 e18
      go_enter Tryz.func165, Tryz.ntmps165
      go_wp2_with fail
      go_ret
      exact ⟨rfl, HB.out⟩

set_option maxHeartbeats 2000000 in
theorem sl_any (own o a b c n : Int) (nm : ByteArray) (loc : Bool) (so kd df : Int) (AK : Option Addr) (nK cK : Nat) (w : World) (ks : List Int) (hk : IW w (.slice AK nK cK) ks) (hl : ks.length = nK) (hm : nK ≤ 1000000) (i k : Int) : Calls Tryz.prog 315 #[.agg #[.slice AK nK cK, .int .i64 own, .int .i64 o, .int .i64 a, .int .i64 b, .int .i64 c, .int .i64 n, .string nm, .bool loc, .int .i64 so, .int .i64 kd, .int .i64 df], .int .i64 i, .int .i64 k] w fun e w' => e = .returned (.int .i64 (slE ks i k)) ∧ Below w.heap.size w w' := by
  obtain ⟨W1, hW1⟩ : ∃ W1, w.alloc (.cells #[.slice AK nK cK, .int .i64 own, .int .i64 o, .int .i64 a, .int .i64 b, .int .i64 c, .int .i64 n, .string nm, .bool loc, .int .i64 so, .int .i64 kd, .int .i64 df] 123) = W1 := ⟨_, rfl⟩
  have HB1 := Lib.hid (show Below w.heap.size w W1 from by rw [← hW1]; exact alloc_ _ _)
  obtain ⟨x0, x1, x2, x3, x4, x5, x6, x7, x8, x9, x10, x11⟩ := blk12 (show Blk W1 w.heap.size 123 #[.slice AK nK cK, .int .i64 own, .int .i64 o, .int .i64 a, .int .i64 b, .int .i64 c, .int .i64 n, .string nm, .bool loc, .int .i64 so, .int .i64 kd, .int .i64 df] from by rw [← hW1]; exact Blk.new w _ _)
  have HP := Lib.hid (fun W => inl_any i nK W)
  have hkk := hk.on HB1.out
  unfold slE
  rw [hl]
  cases hin : inL i nK with
  | false =>
    rw [hin] at HP
    rw [if_neg (by decide)]
    clear hin hk hkk hl
    go_enter Tryz.func315, Tryz.ntmps315
    go_wp2_with fail
    refine (HP.out _).mono ?_
    rintro e w1 ⟨rfl, rfl⟩
    go_wp2_with fail
    go_ret
    exact ⟨rfl, HB1.out⟩
  | true =>
    rw [hin] at HP
    rw [if_pos rfl]
    have hi : 0 ≤ i ∧ i < (nK : Int) := by unfold inL at hin; exact of_decide_eq_true hin
    obtain ⟨q, rfl⟩ := Int.eq_ofNat_of_zero_le hi.1
    have hq : q < nK := by omega
    have hqI : (q : Int) < (nK : Int) := by omega
    obtain ⟨ad, rfl, hc⟩ : ∃ ad, AK = some ad ∧ W1.cell? (ad.add q) = some (.int .i64 (el ks q)) := by
      rcases ints_row (A := AK) (c := cK) (l := ks) (by rw [hl]; exact hkk) with ⟨h0, _⟩ | ⟨ad, e, _, hc⟩
      · rw [h0] at hl; simp at hl; omega
      · exact ⟨ad, e, hc q (by omega)⟩
    rw [show ((q : Int).toNat) = q from by simp]
    generalize el ks q = z at hc
    by_cases hz : z = k
    · rw [if_pos hz]
      subst hz
      clear hin hk hkk hl
      go_enter Tryz.func315, Tryz.ntmps315
      go_wp2_with fail
      refine (HP.out _).mono ?_
      rintro e w1 ⟨rfl, rfl⟩
      go_wp2_with fail
      go_ret
      exact ⟨rfl, HB1.out⟩
    · rw [if_neg hz]
      have hz1 : (z != k) = true := by simpa using hz
      have hz2 : (z == k) = false := by simpa using hz
      clear hin hk hkk hl hz
      go_enter Tryz.func315, Tryz.ntmps315
      go_wp2_with fail
      refine (HP.out _).mono ?_
      rintro e w1 ⟨rfl, rfl⟩
      go_wp2_with fail
      go_ret
      exact ⟨rfl, HB1.out⟩

set_option maxHeartbeats 2000000 in
theorem nb_any (own o a b c n : Int) (nm : ByteArray) (loc : Bool) (so kd df : Int) (AK : Option Addr) (nK cK : Nat) (w : World) (ks : List Int) (hk : IW w (.slice AK nK cK) ks) (hl : ks.length = nK) (hm : nK ≤ 1000000) (i : Int) : Calls Tryz.prog 282 #[.agg #[.slice AK nK cK, .int .i64 own, .int .i64 o, .int .i64 a, .int .i64 b, .int .i64 c, .int .i64 n, .string nm, .bool loc, .int .i64 so, .int .i64 kd, .int .i64 df], .int .i64 i] w fun e w' => e = .returned (.int .i64 (slE ks i 0)) ∧ Below w.heap.size w w' := by
  obtain ⟨W1, hW1⟩ : ∃ W1, w.alloc (.cells #[.slice AK nK cK, .int .i64 own, .int .i64 o, .int .i64 a, .int .i64 b, .int .i64 c, .int .i64 n, .string nm, .bool loc, .int .i64 so, .int .i64 kd, .int .i64 df] 123) = W1 := ⟨_, rfl⟩
  have HB1 := Lib.hid (show Below w.heap.size w W1 from by rw [← hW1]; exact alloc_ _ _)
  obtain ⟨x0, x1, x2, x3, x4, x5, x6, x7, x8, x9, x10, x11⟩ := blk12 (show Blk W1 w.heap.size 123 #[.slice AK nK cK, .int .i64 own, .int .i64 o, .int .i64 a, .int .i64 b, .int .i64 c, .int .i64 n, .string nm, .bool loc, .int .i64 so, .int .i64 kd, .int .i64 df] from by rw [← hW1]; exact Blk.new w _ _)
  have HS := Lib.hid (sl_any own o a b c n nm loc so kd df AK nK cK W1 ks (hk.on HB1.out) hl hm i 0)
  clear hk hl
  go_enter Tryz.func282, Tryz.ntmps282
  go_wp2_with fail
  refine HS.out.mono ?_
  rintro e w1 ⟨rfl, b1⟩
  have HB2 := Lib.hid (to_ HB1.out b1)
  clear b1
  go_wp2_with fail
  go_ret
  exact ⟨rfl, HB2.out⟩

set_option maxHeartbeats 2000000 in
theorem fc_any (own o a b c n : Int) (nm : ByteArray) (loc : Bool) (so kd df : Int) (AK : Option Addr) (nK cK : Nat) (w : World) (h1 : -9223372036854775808 ≤ kd) (h2 : kd ≤ 9223372036854775807) (ks : List Int) (hk : IW w (.slice AK nK cK) ks) (hl : ks.length = nK) (hm : nK ≤ 1000000) (i : Int) : Calls Tryz.prog 283 #[.agg #[.slice AK nK cK, .int .i64 own, .int .i64 o, .int .i64 a, .int .i64 b, .int .i64 c, .int .i64 n, .string nm, .bool loc, .int .i64 so, .int .i64 kd, .int .i64 df], .int .i64 i] w fun e w' => e = .returned (.int .i64 (slE ks i (wrap64 (1 + clsV o c kd)))) ∧ Below w.heap.size w w' := by
  obtain ⟨W1, hW1⟩ : ∃ W1, w.alloc (.cells #[.slice AK nK cK, .int .i64 own, .int .i64 o, .int .i64 a, .int .i64 b, .int .i64 c, .int .i64 n, .string nm, .bool loc, .int .i64 so, .int .i64 kd, .int .i64 df] 123) = W1 := ⟨_, rfl⟩
  have HB1 := Lib.hid (show Below w.heap.size w W1 from by rw [← hW1]; exact alloc_ _ _)
  have HX := Lib.hid (show Blk W1 w.heap.size 123 #[.slice AK nK cK, .int .i64 own, .int .i64 o, .int .i64 a, .int .i64 b, .int .i64 c, .int .i64 n, .string nm, .bool loc, .int .i64 so, .int .i64 kd, .int .i64 df] from by rw [← hW1]; exact Blk.new w _ _)
  have HC := Lib.hid (fun W => cls_any own o a b c n nm loc so kd df AK nK cK W h1 h2)
  have HS := Lib.hid (fun W k (hb : Below W1.heap.size W1 W) => sl_any own o a b c n nm loc so kd df AK nK cK W ks (hk.on (to_ HB1.out hb)) hl hm i k)
  have MK := Lib.hid (show ∀ W, Below W1.heap.size W1 W → (W.cell? ⟨w.heap.size, 0, none⟩ = some (.slice AK nK cK) ∧ W.cell? ⟨w.heap.size, 1, none⟩ = some (.int .i64 own) ∧ W.cell? ⟨w.heap.size, 2, none⟩ = some (.int .i64 o) ∧ W.cell? ⟨w.heap.size, 3, none⟩ = some (.int .i64 a) ∧ W.cell? ⟨w.heap.size, 4, none⟩ = some (.int .i64 b) ∧ W.cell? ⟨w.heap.size, 5, none⟩ = some (.int .i64 c) ∧ W.cell? ⟨w.heap.size, 6, none⟩ = some (.int .i64 n) ∧ W.cell? ⟨w.heap.size, 7, none⟩ = some (.string nm) ∧ W.cell? ⟨w.heap.size, 8, none⟩ = some (.bool loc) ∧ W.cell? ⟨w.heap.size, 9, none⟩ = some (.int .i64 so) ∧ W.cell? ⟨w.heap.size, 10, none⟩ = some (.int .i64 kd) ∧ W.cell? ⟨w.heap.size, 11, none⟩ = some (.int .i64 df)) ∧ Below W1.heap.size W1 W from fun W hb => ⟨blk12 (HX.out.below hb HX.out.lt), hb⟩)
  generalize clsV o c kd = z at HC ⊢
  rw [← IntWalk.i64_left]
  clear hk hl h1 h2
  go_enter Tryz.func283, Tryz.ntmps283
  go_wp2_with fail
  clear hW1
  refine wp_region_noPanic ?_
  refine wp_region_held_drew (S := fun W => (W.cell? ⟨w.heap.size, 0, none⟩ = some (.slice AK nK cK) ∧ W.cell? ⟨w.heap.size, 1, none⟩ = some (.int .i64 own) ∧ W.cell? ⟨w.heap.size, 2, none⟩ = some (.int .i64 o) ∧ W.cell? ⟨w.heap.size, 3, none⟩ = some (.int .i64 a) ∧ W.cell? ⟨w.heap.size, 4, none⟩ = some (.int .i64 b) ∧ W.cell? ⟨w.heap.size, 5, none⟩ = some (.int .i64 c) ∧ W.cell? ⟨w.heap.size, 6, none⟩ = some (.int .i64 n) ∧ W.cell? ⟨w.heap.size, 7, none⟩ = some (.string nm) ∧ W.cell? ⟨w.heap.size, 8, none⟩ = some (.bool loc) ∧ W.cell? ⟨w.heap.size, 9, none⟩ = some (.int .i64 so) ∧ W.cell? ⟨w.heap.size, 10, none⟩ = some (.int .i64 kd) ∧ W.cell? ⟨w.heap.size, 11, none⟩ = some (.int .i64 df)) ∧ Below W1.heap.size W1 W) (by kernel_rfl) (MK.out _ (Below.refl _ _).drew) (fun hHeld => ?_)
  refine wpAnyH_take (i := 0) rfl (by kernel_rfl) (by kernel_rfl) (by kernel_rfl) (fun _ _ _ h => h) (Or.inl ⟨by rfl, by intro W hSW; (try dsimp only at hSW); go_simp; try (with_reducible rfl)⟩) hHeld ?_
  try simp only [Act.put, List.getElem_toArray, List.getElem_cons_zero, List.getElem_cons_succ, List.setIfInBounds_toArray, List.set_cons_zero, List.set_cons_succ]
  refine wpAnyH_take (i := 1) rfl (by kernel_rfl) (by kernel_rfl) (by kernel_rfl) (fun _ _ _ h => h) (Or.inl ⟨by rfl, by intro W hSW; (try dsimp only at hSW); go_simp; try (with_reducible rfl)⟩) hHeld ?_
  try simp only [Act.put, List.getElem_toArray, List.getElem_cons_zero, List.getElem_cons_succ, List.setIfInBounds_toArray, List.set_cons_zero, List.set_cons_succ]
  refine wpAnyH_take (i := 2) rfl (by kernel_rfl) (by kernel_rfl) (by kernel_rfl) (fun _ _ _ h => h) (Or.inl ⟨by rfl, by intro W hSW; (try dsimp only at hSW); go_simp; try (with_reducible rfl)⟩) hHeld ?_
  try simp only [Act.put, List.getElem_toArray, List.getElem_cons_zero, List.getElem_cons_succ, List.setIfInBounds_toArray, List.set_cons_zero, List.set_cons_succ]
  refine wpAnyH_ready (rs := [3]) (by kernel_rfl) (by simp) ?_
  refine AllReadyH.cons rfl (fun K hK => ?_) AllReadyH.nil
  go_simp
  refine (HC.out _).mono ?_
  rintro e w1 ⟨rfl, b1⟩
  have q1 := to_ hHeld.2 b1
  try go_wp2_with fail
  refine hK.out _ _ (MK.out _ q1) ?_
  clear hK K hHeld
  intro hHeld
  clear b1 q1
  try simp only [Act.put, List.getElem_toArray, List.getElem_cons_zero, List.getElem_cons_succ, List.setIfInBounds_toArray, List.set_cons_zero, List.set_cons_succ]
  refine wpAnyH_take (i := 4) rfl (by kernel_rfl) (by kernel_rfl) (by kernel_rfl) (fun _ _ _ h => h) (Or.inl ⟨by rfl, by intro W hSW; (try dsimp only at hSW); go_simp; try (with_reducible rfl)⟩) hHeld ?_
  try simp only [Act.put, List.getElem_toArray, List.getElem_cons_zero, List.getElem_cons_succ, List.setIfInBounds_toArray, List.set_cons_zero, List.set_cons_succ]
  refine wpAnyH_ready (rs := [5]) (by kernel_rfl) (by simp) ?_
  refine AllReadyH.cons rfl (fun K hK => ?_) AllReadyH.nil
  go_simp
  refine (HS.out _ _ hHeld.2).mono ?_
  rintro e w2 ⟨rfl, b2⟩
  have q2 := to_ hHeld.2 b2
  try go_wp2_with fail
  refine hK.out _ _ (MK.out _ q2) ?_
  clear hK K hHeld
  intro hHeld
  have HB2 := Lib.hid (to_ HB1.out q2)
  clear b2 q2
  try simp only [Act.put, List.getElem_toArray, List.getElem_cons_zero, List.getElem_cons_succ, List.setIfInBounds_toArray, List.set_cons_zero, List.set_cons_succ]
  refine wpAnyH_take (i := 6) rfl (by kernel_rfl) (by kernel_rfl) (by kernel_rfl) (fun _ _ _ h => h) (Or.inl ⟨by rfl, by intro W hSW; (try dsimp only at hSW); go_simp; try (with_reducible rfl)⟩) hHeld ?_
  try simp only [Act.put, List.getElem_toArray, List.getElem_cons_zero, List.getElem_cons_succ, List.setIfInBounds_toArray, List.set_cons_zero, List.set_cons_succ]
  refine wpAnyH_done (by kernel_rfl) ?_ _
  refine NoPanic.normal ?_
  go_wp2_with fail
  go_ret
  exact ⟨rfl, HB2.out⟩
end Go.Proofs.YtbknmapkdjmcjaaGreatDoor.By
