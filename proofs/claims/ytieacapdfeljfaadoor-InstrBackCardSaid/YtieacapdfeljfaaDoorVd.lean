/-
  WALKS of layer 7: the laws OpTells and OpBack.
-/
import Derived.Test.YtieacapdfeljfaaDoorVb
import Derived.Test.YtieacapdfeljfaaDoorVc
namespace Go.Proofs.YtieacapdfeljfaaDoor.By
open Go.RowKit

set_option maxHeartbeats 4000000 in
theorem known07_any (w : World) (h : Txs w) : Calls Tryd.prog 8 #[] w fun e w' => e = .returned (.bool true) ∧ w = w' := by
  have HT := Lib.hid h
  have e1 : fnV [118, 105, 97] = 20 := fn_hit _ 20 (by decide) rfl
  have e2 : nmV 20 = ⟨#[118, 105, 97]⟩ := rfl
  have e3 : shV 20 = ⟨#[99, 102, 107, 45]⟩ := rfl
  have e4 : ownV 24 = true := rfl
  have e5 : ownV 25 = false := rfl
  have e6 : nmV 28 = ⟨#[100, 114, 105, 118, 101, 114]⟩ := rfl
  have e7 : ndV 18 = 4 := rfl
  have e8 : enV 24 = true := rfl
  clear h
  go_enter Tryd.func8, Tryd.ntmps8
  go_wp2_with fail
  refine (find_any _ _ HT.out).mono ?_
  rintro e w' ⟨rfl, rfl⟩
  go_wp2_with fail
  refine (name_any 20 _ HT.out).mono ?_
  rintro e w' ⟨rfl, rfl⟩
  go_wp2_with fail
  refine (shape_any 20 _ HT.out).mono ?_
  rintro e w' ⟨rfl, rfl⟩
  go_wp2_with fail
  refine (own_any 24 _).mono ?_
  rintro e w' ⟨rfl, rfl⟩
  go_wp2_with fail
  refine (own_any 25 _).mono ?_
  rintro e w' ⟨rfl, rfl⟩
  go_wp2_with fail
  refine (name_any 28 _ HT.out).mono ?_
  rintro e w' ⟨rfl, rfl⟩
  go_wp2_with fail
  refine (need_any 18 _).mono ?_
  rintro e w' ⟨rfl, rfl⟩
  go_wp2_with fail
  refine (ends_any 24 _).mono ?_
  rintro e w' ⟨rfl, rfl⟩
  go_wp2_with fail
  go_ret
  exact ⟨rfl, rfl⟩

set_option maxHeartbeats 4000000 in
theorem optells_any (n : Int) (s : ByteArray) (w : World) (hlo : -9223372036854775808 ≤ n) (hhi : n ≤ 9223372036854775807) (h : Txs w) :
    Calls Tryd.prog 3 #[.int .i64 n, .string s] w fun e w' => e = .returned (.bool true) ∧ Below w.heap.size w w' := by
  have HT := Lib.hid h
  clear h
  by_cases hbig : 50 < s.size
  · have hd : decide (50 < (s.size : Int)) = true := by simp; omega
    clear hbig hlo hhi
    go_enter Tryd.func3, Tryd.ntmps3
    go_wp2_with fail
    refine (known07_any _ HT.out).mono ?_
    rintro e w' ⟨rfl, rfl⟩
    go_wp2_with fail
    go_ret
    exact ⟨rfl, Below.refl _ _⟩
  · have hd : decide (50 < (s.size : Int)) = false := by simp; omega
    have H1 := Lib.hid (name_any n)
    have H2 := Lib.hid (rname_any n hlo hhi)
    have H3 := Lib.hid (find_any s)
    have H4 := Lib.hid (rfind_any s)
    have H5 := Lib.hid (own_any n)
    have H6 := Lib.hid (rown_any n)
    have H7 := Lib.hid (shape_any n)
    have H8 := Lib.hid (rshape_any n hlo hhi)
    have H9 := Lib.hid (need_any n)
    have H10 := Lib.hid (rneed_any n hlo hhi)
    have H11 := Lib.hid (ends_any n)
    have H12 := Lib.hid (rends_any n hlo hhi)
    clear hbig hlo hhi
    generalize nmV n = x1 at H1 H2
    generalize fnV s.data.toList = x2 at H3 H4
    generalize ownV n = x3 at H5 H6
    generalize shV n = x4 at H7 H8
    generalize ndV n = x5 at H9 H10
    generalize enV n = x6 at H11 H12
    go_enter Tryd.func3, Tryd.ntmps3
    go_wp2_with fail
    refine (H1.out _ HT.out).mono ?_
    rintro e w' ⟨rfl, rfl⟩
    go_wp2_with fail
    refine (H2.out _).mono ?_
    rintro e w1 ⟨rfl, hb1⟩
    have HB1 := Lib.hid hb1
    have HT1 := Lib.hid (HT.out.below hb1)
    clear hb1
    go_wp2_with fail
    refine (H3.out _ HT1.out).mono ?_
    rintro e w' ⟨rfl, rfl⟩
    go_wp2_with fail
    refine (H4.out _).mono ?_
    rintro e w2 ⟨rfl, hb2⟩
    have HB2 := Lib.hid (HB1.out.trans (hb2.mono HB1.out.size))
    have HT2 := Lib.hid (HT1.out.below hb2)
    clear hb2
    go_wp2_with fail
    refine (H5.out _).mono ?_
    rintro e w' ⟨rfl, rfl⟩
    go_wp2_with fail
    refine (H6.out _).mono ?_
    rintro e w' ⟨rfl, rfl⟩
    go_wp2_with fail
    refine (H7.out _ HT2.out).mono ?_
    rintro e w' ⟨rfl, rfl⟩
    go_wp2_with fail
    refine (H8.out _).mono ?_
    rintro e w3 ⟨rfl, hb3⟩
    have HB3 := Lib.hid (HB2.out.trans (hb3.mono HB2.out.size))
    have HT3 := Lib.hid (HT2.out.below hb3)
    clear hb3
    go_wp2_with fail
    refine (H9.out _).mono ?_
    rintro e w' ⟨rfl, rfl⟩
    go_wp2_with fail
    refine (H10.out _).mono ?_
    rintro e w4 ⟨rfl, hb4⟩
    have HB4 := Lib.hid (HB3.out.trans (hb4.mono HB3.out.size))
    have HT4 := Lib.hid (HT3.out.below hb4)
    clear hb4
    go_wp2_with fail
    refine (H11.out _).mono ?_
    rintro e w' ⟨rfl, rfl⟩
    go_wp2_with fail
    refine (H12.out _).mono ?_
    rintro e w5 ⟨rfl, hb5⟩
    have HB5 := Lib.hid (HB4.out.trans (hb5.mono HB4.out.size))
    have HT5 := Lib.hid (HT4.out.below hb5)
    clear hb5
    go_wp2_with fail
    refine (known07_any _ HT5.out).mono ?_
    rintro e w' ⟨rfl, rfl⟩
    go_wp2_with fail
    go_ret
    exact ⟨rfl, HB5.out⟩

theorem inside (n : Int) (h : 1 ≤ n ∧ n ≤ 28) : (nmV n).data.toList ≠ [] ∧ fnV (nmV n).data.toList = n ∧
    ((ownV n = true ∧ ndV n = 0 ∧ ∃ a b c d, shV n = ⟨#[a, b, c, d]⟩) ∨ (ownV n = true ∧ decide (0 < ndV n) = true ∧ ∃ a b c, shV n = ⟨#[a, b, c, 45]⟩) ∨ (ownV n = false ∧ shV n = ⟨#[]⟩ ∧ ndV n = 0)) := by
  have : n = 1 ∨ n = 2 ∨ n = 3 ∨ n = 4 ∨ n = 5 ∨ n = 6 ∨ n = 7 ∨ n = 8 ∨ n = 9 ∨ n = 10 ∨ n = 11 ∨ n = 12 ∨ n = 13 ∨ n = 14 ∨ n = 15 ∨ n = 16 ∨ n = 17 ∨ n = 18 ∨ n = 19 ∨ n = 20 ∨ n = 21 ∨ n = 22 ∨ n = 23 ∨ n = 24 ∨ n = 25 ∨ n = 26 ∨ n = 27 ∨ n = 28 := by omega
  rcases this with rfl | rfl | rfl | rfl | rfl | rfl | rfl | rfl | rfl | rfl | rfl | rfl | rfl | rfl | rfl | rfl | rfl | rfl | rfl | rfl | rfl | rfl | rfl | rfl | rfl | rfl | rfl | rfl
  · exact ⟨by decide, fn_hit _ 1 (by decide) rfl, .inl ⟨rfl, rfl, _, _, _, _, rfl⟩⟩
  · exact ⟨by decide, fn_hit _ 2 (by decide) rfl, .inl ⟨rfl, rfl, _, _, _, _, rfl⟩⟩
  · exact ⟨by decide, fn_hit _ 3 (by decide) rfl, .inl ⟨rfl, rfl, _, _, _, _, rfl⟩⟩
  · exact ⟨by decide, fn_hit _ 4 (by decide) rfl, .inl ⟨rfl, rfl, _, _, _, _, rfl⟩⟩
  · exact ⟨by decide, fn_hit _ 5 (by decide) rfl, .inl ⟨rfl, rfl, _, _, _, _, rfl⟩⟩
  · exact ⟨by decide, fn_hit _ 6 (by decide) rfl, .inl ⟨rfl, rfl, _, _, _, _, rfl⟩⟩
  · exact ⟨by decide, fn_hit _ 7 (by decide) rfl, .inl ⟨rfl, rfl, _, _, _, _, rfl⟩⟩
  · exact ⟨by decide, fn_hit _ 8 (by decide) rfl, .inl ⟨rfl, rfl, _, _, _, _, rfl⟩⟩
  · exact ⟨by decide, fn_hit _ 9 (by decide) rfl, .inl ⟨rfl, rfl, _, _, _, _, rfl⟩⟩
  · exact ⟨by decide, fn_hit _ 10 (by decide) rfl, .inl ⟨rfl, rfl, _, _, _, _, rfl⟩⟩
  · exact ⟨by decide, fn_hit _ 11 (by decide) rfl, .inl ⟨rfl, rfl, _, _, _, _, rfl⟩⟩
  · exact ⟨by decide, fn_hit _ 12 (by decide) rfl, .inl ⟨rfl, rfl, _, _, _, _, rfl⟩⟩
  · exact ⟨by decide, fn_hit _ 13 (by decide) rfl, .inl ⟨rfl, rfl, _, _, _, _, rfl⟩⟩
  · exact ⟨by decide, fn_hit _ 14 (by decide) rfl, .inl ⟨rfl, rfl, _, _, _, _, rfl⟩⟩
  · exact ⟨by decide, fn_hit _ 15 (by decide) rfl, .inr (.inl ⟨rfl, rfl, _, _, _, rfl⟩)⟩
  · exact ⟨by decide, fn_hit _ 16 (by decide) rfl, .inr (.inl ⟨rfl, rfl, _, _, _, rfl⟩)⟩
  · exact ⟨by decide, fn_hit _ 17 (by decide) rfl, .inr (.inl ⟨rfl, rfl, _, _, _, rfl⟩)⟩
  · exact ⟨by decide, fn_hit _ 18 (by decide) rfl, .inr (.inl ⟨rfl, rfl, _, _, _, rfl⟩)⟩
  · exact ⟨by decide, fn_hit _ 19 (by decide) rfl, .inr (.inl ⟨rfl, rfl, _, _, _, rfl⟩)⟩
  · exact ⟨by decide, fn_hit _ 20 (by decide) rfl, .inl ⟨rfl, rfl, _, _, _, _, rfl⟩⟩
  · exact ⟨by decide, fn_hit _ 21 (by decide) rfl, .inr (.inl ⟨rfl, rfl, _, _, _, rfl⟩)⟩
  · exact ⟨by decide, fn_hit _ 22 (by decide) rfl, .inl ⟨rfl, rfl, _, _, _, _, rfl⟩⟩
  · exact ⟨by decide, fn_hit _ 23 (by decide) rfl, .inl ⟨rfl, rfl, _, _, _, _, rfl⟩⟩
  · exact ⟨by decide, fn_hit _ 24 (by decide) rfl, .inl ⟨rfl, rfl, _, _, _, _, rfl⟩⟩
  · exact ⟨by decide, fn_hit _ 25 (by decide) rfl, .inr (.inr ⟨rfl, rfl, rfl⟩)⟩
  · exact ⟨by decide, fn_hit _ 26 (by decide) rfl, .inr (.inr ⟨rfl, rfl, rfl⟩)⟩
  · exact ⟨by decide, fn_hit _ 27 (by decide) rfl, .inr (.inr ⟨rfl, rfl, rfl⟩)⟩
  · exact ⟨by decide, fn_hit _ 28 (by decide) rfl, .inr (.inr ⟨rfl, rfl, rfl⟩)⟩

theorem outside (n : Int) (h : ¬ (1 ≤ n ∧ n ≤ 28)) : nmV n = ⟨#[]⟩ ∧ shV n = ⟨#[]⟩ ∧ ownV n = false ∧ ndV n = 0 ∧ enV n = false := by
  unfold nmV shV ownV ndV enV
  refine ⟨by rw [if_neg h], by rw [if_neg (by omega)], decide_eq_false (by omega), ?_, decide_eq_false (by omega)⟩
  repeat' split
  all_goals first | rfl | omega

set_option maxHeartbeats 4000000 in
theorem opback_any (n : Int) (w : World) (h : Txs w) :
    Calls Tryd.prog 4 #[.int .i64 n] w fun e w' => e = .returned (.bool true) ∧ Below w.heap.size w w' := by
  have HT := Lib.hid h
  have H1 := Lib.hid (name_any n)
  have H3 := Lib.hid (find_any (nmV n))
  have H5 := Lib.hid (own_any n)
  have H7 := Lib.hid (shape_any n)
  have H9 := Lib.hid (need_any n)
  have H11 := Lib.hid (ends_any n)
  clear h
  by_cases hi : 1 ≤ n ∧ n ≤ 28
  · obtain ⟨hne, hfn, hs⟩ := inside n hi
    rw [hfn] at H3
    have q1 : (ByteArray.toList (nmV n)).isEmpty = false := by
      rw [ByteArray.toList_eq, List.isEmpty_eq_false_iff]; exact hne
    have q2 : ¬ ByteArray.toList (nmV n) = [] := by rw [ByteArray.toList_eq]; exact hne
    clear hne hfn H11 hi
    generalize nmV n = x1 at H1 H3 q1 q2
    rcases hs with ⟨h1, h2, a, b, c, d, h3⟩ | ⟨h1, h2, a, b, c, h3⟩ | ⟨h1, h3, h2⟩
    · rw [h1] at H5
      rw [h2] at H9
      rw [h3] at H7
      clear h1 h2 h3
      go_enter Tryd.func4, Tryd.ntmps4
      go_wp2_with fail
      refine (H7.out _ HT.out).mono ?_
      rintro e w' ⟨rfl, rfl⟩
      go_wp2_with fail
      refine (H1.out _ HT.out).mono ?_
      rintro e w' ⟨rfl, rfl⟩
      go_wp2_with fail
      refine (H1.out _ HT.out).mono ?_
      rintro e w' ⟨rfl, rfl⟩
      go_wp2_with fail
      refine (H3.out _ HT.out).mono ?_
      rintro e w' ⟨rfl, rfl⟩
      go_wp2_with fail
      refine (H5.out _).mono ?_
      rintro e w' ⟨rfl, rfl⟩
      go_wp2_with fail
      refine (H5.out _).mono ?_
      rintro e w' ⟨rfl, rfl⟩
      go_wp2_with fail
      refine (H9.out _).mono ?_
      rintro e w' ⟨rfl, rfl⟩
      go_wp2_with fail
      refine (known07_any _ HT.out).mono ?_
      rintro e w' ⟨rfl, rfl⟩
      go_wp2_with fail
      go_ret
      exact ⟨rfl, Below.refl _ _⟩
    · rw [h1] at H5
      rw [h3] at H7
      clear h1 h3
      generalize ndV n = x5 at H9 h2
      go_enter Tryd.func4, Tryd.ntmps4
      go_wp2_with fail
      refine (H7.out _ HT.out).mono ?_
      rintro e w' ⟨rfl, rfl⟩
      go_wp2_with fail
      refine (H1.out _ HT.out).mono ?_
      rintro e w' ⟨rfl, rfl⟩
      go_wp2_with fail
      refine (H1.out _ HT.out).mono ?_
      rintro e w' ⟨rfl, rfl⟩
      go_wp2_with fail
      refine (H3.out _ HT.out).mono ?_
      rintro e w' ⟨rfl, rfl⟩
      go_wp2_with fail
      refine (H5.out _).mono ?_
      rintro e w' ⟨rfl, rfl⟩
      go_wp2_with fail
      refine (H5.out _).mono ?_
      rintro e w' ⟨rfl, rfl⟩
      go_wp2_with fail
      refine (H9.out _).mono ?_
      rintro e w' ⟨rfl, rfl⟩
      go_wp2_with fail
      refine (known07_any _ HT.out).mono ?_
      rintro e w' ⟨rfl, rfl⟩
      go_wp2_with fail
      go_ret
      exact ⟨rfl, Below.refl _ _⟩
    · rw [h1] at H5
      rw [h2] at H9
      rw [h3] at H7
      clear h1 h2 h3
      go_enter Tryd.func4, Tryd.ntmps4
      go_wp2_with fail
      refine (H7.out _ HT.out).mono ?_
      rintro e w' ⟨rfl, rfl⟩
      go_wp2_with fail
      refine (H1.out _ HT.out).mono ?_
      rintro e w' ⟨rfl, rfl⟩
      go_wp2_with fail
      refine (H1.out _ HT.out).mono ?_
      rintro e w' ⟨rfl, rfl⟩
      go_wp2_with fail
      refine (H3.out _ HT.out).mono ?_
      rintro e w' ⟨rfl, rfl⟩
      go_wp2_with fail
      refine (H5.out _).mono ?_
      rintro e w' ⟨rfl, rfl⟩
      go_wp2_with fail
      refine (H5.out _).mono ?_
      rintro e w' ⟨rfl, rfl⟩
      go_wp2_with fail
      refine (H9.out _).mono ?_
      rintro e w' ⟨rfl, rfl⟩
      go_wp2_with fail
      refine (known07_any _ HT.out).mono ?_
      rintro e w' ⟨rfl, rfl⟩
      go_wp2_with fail
      go_ret
      exact ⟨rfl, Below.refl _ _⟩
  · obtain ⟨h1, h2, h3, h4, h5⟩ := outside n hi
    rw [h1] at H1
    rw [h2] at H7
    rw [h3] at H5
    rw [h4] at H9
    rw [h5] at H11
    clear h1 h2 h3 h4 h5 hi H3
    go_enter Tryd.func4, Tryd.ntmps4
    go_wp2_with fail
    refine (H7.out _ HT.out).mono ?_
    rintro e w' ⟨rfl, rfl⟩
    go_wp2_with fail
    refine (H1.out _ HT.out).mono ?_
    rintro e w' ⟨rfl, rfl⟩
    go_wp2_with fail
    refine (H5.out _).mono ?_
    rintro e w' ⟨rfl, rfl⟩
    go_wp2_with fail
    refine (H9.out _).mono ?_
    rintro e w' ⟨rfl, rfl⟩
    go_wp2_with fail
    refine (H11.out _).mono ?_
    rintro e w' ⟨rfl, rfl⟩
    go_wp2_with fail
    refine (known07_any _ HT.out).mono ?_
    rintro e w' ⟨rfl, rfl⟩
    go_wp2_with fail
    go_ret
    exact ⟨rfl, Below.refl _ _⟩
end Go.Proofs.YtieacapdfeljfaaDoor.By
