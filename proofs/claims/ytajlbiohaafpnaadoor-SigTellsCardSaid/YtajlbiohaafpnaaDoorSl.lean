/-
  WALKS of layer 5: the laws SigTells and SigBack.
-/
import Derived.Test.YtajlbiohaafpnaaDoorSp
namespace Go.Proofs.YtajlbiohaafpnaaDoor.By
open Go.RowKit

set_option maxHeartbeats 4000000 in
theorem known_any (w : World) (h : Txs w) : Calls Tryd.prog 5 #[] w fun e w' => e = .returned (.bool true) ∧ w = w' := by
  have HT := Lib.hid h
  have e1 : ofV 2 true = 5 := rfl
  have e2 : ofB 2 = true := rfl
  have e3 : ofB 4 = false := rfl
  have e4 : clV 6 = 5 := rfl
  have e5 : clB 6 = true := rfl
  have e6 : latV 2 = true := rfl
  have e7 : latV 3 = false := rfl
  have e8 : textV 6 = ⟨#[102, 50, 114]⟩ := rfl
  have e9 : textV 0 = ⟨#[110]⟩ := rfl
  have e10 : parN [102, 50, 114] = 6 := by decide
  have e11 : parB [102, 50, 114] = true := by decide
  clear h
  go_enter Tryd.func5, Tryd.ntmps5
  go_wp2_with fail
  refine (of_any 2 true _).mono ?_
  rintro e w' ⟨rfl, rfl⟩
  go_wp2_with fail
  refine (parse_any _ _ HT.out).mono ?_
  rintro e w' ⟨rfl, rfl⟩
  go_wp2_with fail
  refine (cl_any 6 (by omega) (by omega) _).mono ?_
  rintro e w' ⟨rfl, rfl⟩
  go_wp2_with fail
  refine (of_any 4 false _).mono ?_
  rintro e w' ⟨rfl, rfl⟩
  go_wp2_with fail
  refine (text_any 6 _ HT.out).mono ?_
  rintro e w' ⟨rfl, rfl⟩
  go_wp2_with fail
  refine (text_any 0 _ HT.out).mono ?_
  rintro e w' ⟨rfl, rfl⟩
  go_wp2_with fail
  refine (lat_any 2 _).mono ?_
  rintro e w' ⟨rfl, rfl⟩
  go_wp2_with fail
  refine (lat_any 3 _).mono ?_
  rintro e w' ⟨rfl, rfl⟩
  go_wp2_with fail
  go_ret
  exact ⟨rfl, rfl⟩

set_option maxHeartbeats 4000000 in
theorem tells_any (n : Int) (b : Bool) (s : ByteArray) (w : World) (hlo : -9223372036854775808 ≤ n) (hhi : n ≤ 9223372036854775807) (h : Txs w) :
    Calls Tryd.prog 3 #[.int .i64 n, .bool b, .string s] w fun e w' => e = .returned (.bool true) ∧ Below w.heap.size w w' := by
  have HT := Lib.hid h
  clear h
  by_cases hbig : 50 < s.size
  · have hd : decide (50 < (s.size : Int)) = true := by simp; omega
    clear hbig hlo hhi
    go_enter Tryd.func3, Tryd.ntmps3
    go_wp2_with fail
    refine (known_any _ HT.out).mono ?_
    rintro e w' ⟨rfl, rfl⟩
    go_wp2_with fail
    go_ret
    exact ⟨rfl, Below.refl _ _⟩
  · have hd : decide (50 < (s.size : Int)) = false := by simp; omega
    have H1 := Lib.hid (of_any n b)
    have H2 := Lib.hid (rof_any n b)
    have H3 := Lib.hid (cl_any n hlo hhi)
    have H4 := Lib.hid (rcl_any n hlo hhi)
    have H5 := Lib.hid (parse_any s)
    have H6 := Lib.hid (rparse_any s)
    have H7 := Lib.hid (is_any n)
    have H8 := Lib.hid (ris_any n)
    have H9 := Lib.hid (par_any n)
    have H10 := Lib.hid (rpar_any n)
    have H11 := Lib.hid (ans_any n)
    have H12 := Lib.hid (rans_any n)
    have H13 := Lib.hid (lat_any n)
    have H14 := Lib.hid (rlat_any n)
    have H15 := Lib.hid (text_any n)
    have H16 := Lib.hid (rtext_any n hlo hhi)
    clear hbig hlo hhi
    generalize ofV n b = x1 at H1 H2
    generalize ofB n = x2 at H1 H2
    generalize clV n = x3 at H3 H4
    generalize clB n = x4 at H3 H4
    generalize parN s.data.toList = x5 at H5 H6
    generalize parB s.data.toList = x6 at H5 H6
    generalize isC n = x7 at H7 H8
    generalize parV n = x8 at H9 H10
    generalize ansV n = x9 at H11 H12
    generalize latV n = x10 at H13 H14
    generalize textV n = x11 at H15 H16
    go_enter Tryd.func3, Tryd.ntmps3
    go_wp2_with fail
    refine (H1.out _).mono ?_
    rintro e w' ⟨rfl, rfl⟩
    go_wp2_with fail
    refine (H2.out _).mono ?_
    rintro e w' ⟨rfl, rfl⟩
    go_wp2_with fail
    refine (H3.out _).mono ?_
    rintro e w' ⟨rfl, rfl⟩
    go_wp2_with fail
    refine (H4.out _).mono ?_
    rintro e w' ⟨rfl, rfl⟩
    go_wp2_with fail
    refine (H5.out _ HT.out).mono ?_
    rintro e w' ⟨rfl, rfl⟩
    go_wp2_with fail
    refine (H6.out _).mono ?_
    rintro e w1 ⟨rfl, hb1⟩
    have HB1 := Lib.hid hb1
    have HT1 := Lib.hid (HT.out.below hb1)
    clear hb1
    go_wp2_with fail
    refine (H7.out _).mono ?_
    rintro e w' ⟨rfl, rfl⟩
    go_wp2_with fail
    refine (H8.out _).mono ?_
    rintro e w' ⟨rfl, rfl⟩
    go_wp2_with fail
    refine (H9.out _).mono ?_
    rintro e w' ⟨rfl, rfl⟩
    go_wp2_with fail
    refine (H10.out _).mono ?_
    rintro e w' ⟨rfl, rfl⟩
    go_wp2_with fail
    refine (H11.out _).mono ?_
    rintro e w' ⟨rfl, rfl⟩
    go_wp2_with fail
    refine (H12.out _).mono ?_
    rintro e w' ⟨rfl, rfl⟩
    go_wp2_with fail
    refine (H13.out _).mono ?_
    rintro e w' ⟨rfl, rfl⟩
    go_wp2_with fail
    refine (H14.out _).mono ?_
    rintro e w' ⟨rfl, rfl⟩
    go_wp2_with fail
    refine (H15.out _ HT1.out).mono ?_
    rintro e w' ⟨rfl, rfl⟩
    go_wp2_with fail
    refine (H16.out _).mono ?_
    rintro e w2 ⟨rfl, hb2⟩
    have HB2 := Lib.hid (HB1.out.trans (hb2.mono HB1.out.size))
    have HT2 := Lib.hid (HT1.out.below hb2)
    clear hb2
    go_wp2_with fail
    refine (known_any _ HT2.out).mono ?_
    rintro e w' ⟨rfl, rfl⟩
    go_wp2_with fail
    go_ret
    exact ⟨rfl, HB2.out⟩

/-- What is known of a kind. -/
theorem kind_facts (a : Int) (h0 : 0 ≤ a) (h8 : a ≤ 8) : (textV a).data.toList ≠ [] ∧ parN (textV a).data.toList = a ∧ parB (textV a).data.toList = true ∧
    (a ≤ 7 → ofV (parV a) (ansV a) = a ∧ ofB (parV a) = true) := by
  rcases eight a with h | h | rfl | rfl | rfl | rfl | rfl | rfl | rfl | rfl | rfl
  · omega
  · omega
  all_goals refine ⟨by decide, by decide, by decide, fun h => ?_⟩
  all_goals first | omega | exact ⟨by decide, by decide⟩

theorem text_out (b : Int) (h : b < 0 ∨ 8 < b) : textV b = ⟨#[]⟩ := by unfold textV; rw [if_neg (by omega)]

theorem text_inj (a b : Int) (h0 : 0 ≤ a) (h8 : a ≤ 8) : ((textV a).data.toList == (textV b).data.toList) = (a == b) := by
  by_cases e : a = b
  · subst e; simp
  · have : (a == b) = false := by simpa using e
    rw [this, beq_eq_false_iff_ne]
    intro hh
    by_cases hb : 0 ≤ b ∧ b ≤ 8
    · have h1 := (kind_facts a h0 h8).2.1
      have h2 := (kind_facts b hb.1 hb.2).2.1
      rw [hh, h2] at h1
      exact e h1.symm
    · rw [text_out b (by omega)] at hh
      exact (kind_facts a h0 h8).1 hh

set_option maxHeartbeats 4000000 in
theorem back_out (a b : Int) (w : World) (hlo : -9223372036854775808 ≤ a) (hhi : a ≤ 9223372036854775807) (hout : a < 0 ∨ 8 < a) (h : Txs w) :
    Calls Tryd.prog 4 #[.int .i64 a, .int .i64 b] w fun e w' => e = .returned (.bool true) ∧ Below w.heap.size w w' := by
  have HT := Lib.hid h
  have H1 := Lib.hid (is_any a)
  have H2 := Lib.hid (text_any a)
  have H3 := Lib.hid (cl_any a hlo hhi)
  have hx : isC a = false ∧ clB a = false := by unfold isC clB; refine ⟨?_, ?_⟩ <;> (simp; omega)
  rw [hx.1] at H1
  rw [text_out a hout] at H2
  rw [hx.2] at H3
  generalize clV a = z at H3
  clear hx hlo hhi h
  have hc : (decide (a < 0) = true) ∨ (decide (a < 0) = false ∧ decide (8 < a) = true) := by
    by_cases h1 : a < 0
    · exact .inl (by simpa using h1)
    · exact .inr ⟨by simpa using h1, by simp; omega⟩
  clear hout
  rcases hc with hc | ⟨hc, hc2⟩
  all_goals
    go_enter Tryd.func4, Tryd.ntmps4
    go_wp2_with fail
    refine (H1.out _).mono ?_
    rintro e w' ⟨rfl, rfl⟩
    go_wp2_with fail
    refine (H2.out _ HT.out).mono ?_
    rintro e w' ⟨rfl, rfl⟩
    go_wp2_with fail
    refine (H3.out _).mono ?_
    rintro e w' ⟨rfl, rfl⟩
    go_wp2_with fail
    refine (known_any _ HT.out).mono ?_
    rintro e w' ⟨rfl, rfl⟩
    go_wp2_with fail
    go_ret
    exact ⟨rfl, Below.refl _ _⟩

set_option maxHeartbeats 4000000 in
theorem back_in (a b : Int) (w : World) (h0 : 0 ≤ a) (h8 : a ≤ 8) (h : Txs w) :
    Calls Tryd.prog 4 #[.int .i64 a, .int .i64 b] w fun e w' => e = .returned (.bool true) ∧ Below w.heap.size w w' := by
  have HT := Lib.hid h
  have hk := kind_facts a h0 h8
  have H1 := Lib.hid (is_any a)
  have H2 := Lib.hid (text_any a)
  have H3 := Lib.hid (text_any b)
  have H4 := Lib.hid (parse_any (textV a))
  rw [hk.2.1, hk.2.2.1] at H4
  have HP := Lib.hid (par_any a)
  have HA := Lib.hid (ans_any a)
  have HO := Lib.hid (of_any (parV a) (ansV a))
  have hne : (ByteArray.toList (textV a)).isEmpty = false := by
    rw [ByteArray.toList_eq, List.isEmpty_eq_false_iff]; exact hk.1
  have hne2 : ¬ ByteArray.toList (textV a) = [] := by rw [ByteArray.toList_eq]; exact hk.1
  obtain ⟨c, hc1, hc2⟩ : ∃ c : Bool, (ByteArray.toList (textV a) == ByteArray.toList (textV b)) = c ∧ (a == b) = c :=
    ⟨_, by rw [ByteArray.toList_eq, ByteArray.toList_eq]; exact text_inj a b h0 h8, rfl⟩
  generalize textV a = s at H2 H4 hne hne2 hc1
  generalize textV b = t at H3 hc1
  by_cases h7 : a ≤ 7
  · have hi : isC a = true := by unfold isC; simp; omega
    rw [hi] at H1
    rw [(hk.2.2.2 h7).1, (hk.2.2.2 h7).2] at HO
    generalize parV a = x at HP HO
    generalize ansV a = y at HA HO
    clear hk hi h h0 h8 h7
    cases c
    all_goals
      go_enter Tryd.func4, Tryd.ntmps4
      go_wp2_with fail
      refine (H1.out _).mono ?_
      rintro e w' ⟨rfl, rfl⟩
      go_wp2_with fail
      refine (HP.out _).mono ?_
      rintro e w' ⟨rfl, rfl⟩
      go_wp2_with fail
      refine (HA.out _).mono ?_
      rintro e w' ⟨rfl, rfl⟩
      go_wp2_with fail
      refine (HO.out _).mono ?_
      rintro e w' ⟨rfl, rfl⟩
      go_wp2_with fail
      refine (H2.out _ HT.out).mono ?_
      rintro e w' ⟨rfl, rfl⟩
      go_wp2_with fail
      refine (H2.out _ HT.out).mono ?_
      rintro e w' ⟨rfl, rfl⟩
      go_wp2_with fail
      refine (H4.out _ HT.out).mono ?_
      rintro e w' ⟨rfl, rfl⟩
      go_wp2_with fail
      refine (H2.out _ HT.out).mono ?_
      rintro e w' ⟨rfl, rfl⟩
      go_wp2_with fail
      refine (H3.out _ HT.out).mono ?_
      rintro e w' ⟨rfl, rfl⟩
      go_wp2_with fail
      refine (known_any _ HT.out).mono ?_
      rintro e w' ⟨rfl, rfl⟩
      go_wp2_with fail
      go_ret
      exact ⟨rfl, Below.refl _ _⟩
  · have hi : isC a = false := by unfold isC; simp; omega
    rw [hi] at H1
    clear hk hi h h0 h8 h7 HP HA HO
    cases c
    all_goals
      go_enter Tryd.func4, Tryd.ntmps4
      go_wp2_with fail
      refine (H1.out _).mono ?_
      rintro e w' ⟨rfl, rfl⟩
      go_wp2_with fail
      refine (H2.out _ HT.out).mono ?_
      rintro e w' ⟨rfl, rfl⟩
      go_wp2_with fail
      refine (H2.out _ HT.out).mono ?_
      rintro e w' ⟨rfl, rfl⟩
      go_wp2_with fail
      refine (H4.out _ HT.out).mono ?_
      rintro e w' ⟨rfl, rfl⟩
      go_wp2_with fail
      refine (H2.out _ HT.out).mono ?_
      rintro e w' ⟨rfl, rfl⟩
      go_wp2_with fail
      refine (H3.out _ HT.out).mono ?_
      rintro e w' ⟨rfl, rfl⟩
      go_wp2_with fail
      refine (known_any _ HT.out).mono ?_
      rintro e w' ⟨rfl, rfl⟩
      go_wp2_with fail
      go_ret
      exact ⟨rfl, Below.refl _ _⟩

theorem back_any (a b : Int) (w : World) (hlo : -9223372036854775808 ≤ a) (hhi : a ≤ 9223372036854775807) (h : Txs w) :
    Calls Tryd.prog 4 #[.int .i64 a, .int .i64 b] w fun e w' => e = .returned (.bool true) ∧ Below w.heap.size w w' := by
  by_cases ho : a < 0 ∨ 8 < a
  · exact back_out a b w hlo hhi ho h
  · exact back_in a b w (by omega) (by omega) h
end Go.Proofs.YtajlbiohaafpnaaDoor.By
