/-
  WALKS of layer 7: the document's own Shape, Need, Ends; Find, and the document's own.
-/
import Derived.Test.YtbknmapkdjmcjaaGreatDoorVa
namespace Go.Proofs.YtbknmapkdjmcjaaGreatDoor.By
open Go.RowKit

set_option maxHeartbeats 4000000 in
theorem rshape_any (n : Int) (hlo : -9223372036854775808 ≤ n) (hhi : n ≤ 9223372036854775807) (w : World) :
    Calls Tryz.prog 102 #[.int .i64 n] w fun e w' => e = .returned (.string (shV n)) ∧ Below w.heap.size w w' := by
  rcases all28 n with h | h | rfl | rfl | rfl | rfl | rfl | rfl | rfl | rfl | rfl | rfl | rfl | rfl | rfl | rfl | rfl | rfl | rfl | rfl | rfl | rfl | rfl | rfl | rfl | rfl | rfl | rfl | rfl | rfl
  · have hx : nmV n = ⟨#[]⟩ ∧ shV n = ⟨#[]⟩ := by
      unfold nmV shV
      refine ⟨by rw [if_neg (by omega)], ?_⟩
      first | (rw [if_neg (by omega)]; done) | (repeat' split) | (exact decide_eq_false (by omega))
      all_goals first | rfl | omega
    rw [hx.2]
    have HN := Lib.hid (rname_any n hlo hhi)
    rw [hx.1] at HN
    have k1 : decide (4 ≤ n) = false := by simp; omega
    clear hx hlo hhi
    go_enter Tryz.func102, Tryz.ntmps102
    go_wp2_with (go_at_call 173; refine (HN.out _).mono ?_; rintro e w1 ⟨rfl, hb⟩)
    all_goals go_ret
    all_goals exact ⟨rfl, hb⟩
  · have hx : nmV n = ⟨#[]⟩ ∧ shV n = ⟨#[]⟩ := by
      unfold nmV shV
      refine ⟨by rw [if_neg (by omega)], ?_⟩
      first | (rw [if_neg (by omega)]; done) | (repeat' split) | (exact decide_eq_false (by omega))
      all_goals first | rfl | omega
    rw [hx.2]
    have HN := Lib.hid (rname_any n hlo hhi)
    rw [hx.1] at HN
    have k1 : decide (4 ≤ n) = true := by simp; omega
    have k2 : decide (n ≤ 10) = false := by simp; omega
    clear hx hlo hhi
    go_enter Tryz.func102, Tryz.ntmps102
    go_wp2_with (go_at_call 173; refine (HN.out _).mono ?_; rintro e w1 ⟨rfl, hb⟩)
    all_goals go_ret
    all_goals exact ⟨rfl, hb⟩
  · have hx : nmV 1 = ⟨#[110, 111, 112]⟩ := rfl
    have HN := Lib.hid (rname_any 1 (by omega) (by omega))
    rw [hx] at HN
    clear hx
    go_enter Tryz.func102, Tryz.ntmps102
    go_wp2_with (go_at_call 173; refine (HN.out _).mono ?_; rintro e w1 ⟨rfl, hb⟩)
    all_goals go_ret
    all_goals exact ⟨rfl, hb⟩
  · have hx : nmV 2 = ⟨#[115, 101, 116]⟩ := rfl
    have HN := Lib.hid (rname_any 2 (by omega) (by omega))
    rw [hx] at HN
    clear hx
    go_enter Tryz.func102, Tryz.ntmps102
    go_wp2_with (go_at_call 173; refine (HN.out _).mono ?_; rintro e w1 ⟨rfl, hb⟩)
    all_goals go_ret
    all_goals exact ⟨rfl, hb⟩
  · have hx : nmV 3 = ⟨#[109, 111, 118, 101]⟩ := rfl
    have HN := Lib.hid (rname_any 3 (by omega) (by omega))
    rw [hx] at HN
    clear hx
    go_enter Tryz.func102, Tryz.ntmps102
    go_wp2_with (go_at_call 173; refine (HN.out _).mono ?_; rintro e w1 ⟨rfl, hb⟩)
    all_goals go_ret
    all_goals exact ⟨rfl, hb⟩
  · go_enter Tryz.func102, Tryz.ntmps102
    go_wp2
    all_goals go_ret
    all_goals exact ⟨rfl, Below.refl _ _⟩
  · go_enter Tryz.func102, Tryz.ntmps102
    go_wp2
    all_goals go_ret
    all_goals exact ⟨rfl, Below.refl _ _⟩
  · go_enter Tryz.func102, Tryz.ntmps102
    go_wp2
    all_goals go_ret
    all_goals exact ⟨rfl, Below.refl _ _⟩
  · go_enter Tryz.func102, Tryz.ntmps102
    go_wp2
    all_goals go_ret
    all_goals exact ⟨rfl, Below.refl _ _⟩
  · go_enter Tryz.func102, Tryz.ntmps102
    go_wp2
    all_goals go_ret
    all_goals exact ⟨rfl, Below.refl _ _⟩
  · go_enter Tryz.func102, Tryz.ntmps102
    go_wp2
    all_goals go_ret
    all_goals exact ⟨rfl, Below.refl _ _⟩
  · go_enter Tryz.func102, Tryz.ntmps102
    go_wp2
    all_goals go_ret
    all_goals exact ⟨rfl, Below.refl _ _⟩
  · have hx : nmV 11 = ⟨#[106, 117, 109, 112]⟩ := rfl
    have HN := Lib.hid (rname_any 11 (by omega) (by omega))
    rw [hx] at HN
    clear hx
    go_enter Tryz.func102, Tryz.ntmps102
    go_wp2_with (go_at_call 173; refine (HN.out _).mono ?_; rintro e w1 ⟨rfl, hb⟩)
    all_goals go_ret
    all_goals exact ⟨rfl, hb⟩
  · have hx : nmV 12 = ⟨#[122, 101, 114, 111]⟩ := rfl
    have HN := Lib.hid (rname_any 12 (by omega) (by omega))
    rw [hx] at HN
    clear hx
    go_enter Tryz.func102, Tryz.ntmps102
    go_wp2_with (go_at_call 173; refine (HN.out _).mono ?_; rintro e w1 ⟨rfl, hb⟩)
    all_goals go_ret
    all_goals exact ⟨rfl, hb⟩
  · have hx : nmV 13 = ⟨#[105, 110]⟩ := rfl
    have HN := Lib.hid (rname_any 13 (by omega) (by omega))
    rw [hx] at HN
    clear hx
    go_enter Tryz.func102, Tryz.ntmps102
    go_wp2_with (go_at_call 173; refine (HN.out _).mono ?_; rintro e w1 ⟨rfl, hb⟩)
    all_goals go_ret
    all_goals exact ⟨rfl, hb⟩
  · have hx : nmV 14 = ⟨#[111, 117, 116]⟩ := rfl
    have HN := Lib.hid (rname_any 14 (by omega) (by omega))
    rw [hx] at HN
    clear hx
    go_enter Tryz.func102, Tryz.ntmps102
    go_wp2_with (go_at_call 173; refine (HN.out _).mono ?_; rintro e w1 ⟨rfl, hb⟩)
    all_goals go_ret
    all_goals exact ⟨rfl, hb⟩
  · have hx : nmV 15 = ⟨#[108, 111, 97, 100]⟩ := rfl
    have HN := Lib.hid (rname_any 15 (by omega) (by omega))
    rw [hx] at HN
    clear hx
    go_enter Tryz.func102, Tryz.ntmps102
    go_wp2_with (go_at_call 173; refine (HN.out _).mono ?_; rintro e w1 ⟨rfl, hb⟩)
    all_goals go_ret
    all_goals exact ⟨rfl, hb⟩
  · have hx : nmV 16 = ⟨#[115, 116, 111, 114, 101]⟩ := rfl
    have HN := Lib.hid (rname_any 16 (by omega) (by omega))
    rw [hx] at HN
    clear hx
    go_enter Tryz.func102, Tryz.ntmps102
    go_wp2_with (go_at_call 173; refine (HN.out _).mono ?_; rintro e w1 ⟨rfl, hb⟩)
    all_goals go_ret
    all_goals exact ⟨rfl, hb⟩
  · have hx : nmV 17 = ⟨#[102, 117, 110, 99]⟩ := rfl
    have HN := Lib.hid (rname_any 17 (by omega) (by omega))
    rw [hx] at HN
    clear hx
    go_enter Tryz.func102, Tryz.ntmps102
    go_wp2_with (go_at_call 173; refine (HN.out _).mono ?_; rintro e w1 ⟨rfl, hb⟩)
    all_goals go_ret
    all_goals exact ⟨rfl, hb⟩
  · have hx : nmV 18 = ⟨#[112, 105, 99, 107]⟩ := rfl
    have HN := Lib.hid (rname_any 18 (by omega) (by omega))
    rw [hx] at HN
    clear hx
    go_enter Tryz.func102, Tryz.ntmps102
    go_wp2_with (go_at_call 173; refine (HN.out _).mono ?_; rintro e w1 ⟨rfl, hb⟩)
    all_goals go_ret
    all_goals exact ⟨rfl, hb⟩
  · have hx : nmV 19 = ⟨#[99, 97, 108, 108]⟩ := rfl
    have HN := Lib.hid (rname_any 19 (by omega) (by omega))
    rw [hx] at HN
    clear hx
    go_enter Tryz.func102, Tryz.ntmps102
    go_wp2_with (go_at_call 173; refine (HN.out _).mono ?_; rintro e w1 ⟨rfl, hb⟩)
    all_goals go_ret
    all_goals exact ⟨rfl, hb⟩
  · have hx : nmV 20 = ⟨#[118, 105, 97]⟩ := rfl
    have HN := Lib.hid (rname_any 20 (by omega) (by omega))
    rw [hx] at HN
    clear hx
    go_enter Tryz.func102, Tryz.ntmps102
    go_wp2_with (go_at_call 173; refine (HN.out _).mono ?_; rintro e w1 ⟨rfl, hb⟩)
    all_goals go_ret
    all_goals exact ⟨rfl, hb⟩
  · have hx : nmV 21 = ⟨#[100, 101, 102, 101, 114]⟩ := rfl
    have HN := Lib.hid (rname_any 21 (by omega) (by omega))
    rw [hx] at HN
    clear hx
    go_enter Tryz.func102, Tryz.ntmps102
    go_wp2_with (go_at_call 173; refine (HN.out _).mono ?_; rintro e w1 ⟨rfl, hb⟩)
    all_goals go_ret
    all_goals exact ⟨rfl, hb⟩
  · have hx : nmV 22 = ⟨#[112, 97, 110, 105, 99]⟩ := rfl
    have HN := Lib.hid (rname_any 22 (by omega) (by omega))
    rw [hx] at HN
    clear hx
    go_enter Tryz.func102, Tryz.ntmps102
    go_wp2_with (go_at_call 173; refine (HN.out _).mono ?_; rintro e w1 ⟨rfl, hb⟩)
    all_goals go_ret
    all_goals exact ⟨rfl, hb⟩
  · have hx : nmV 23 = ⟨#[114, 101, 99, 111, 118, 101, 114]⟩ := rfl
    have HN := Lib.hid (rname_any 23 (by omega) (by omega))
    rw [hx] at HN
    clear hx
    go_enter Tryz.func102, Tryz.ntmps102
    go_wp2_with (go_at_call 173; refine (HN.out _).mono ?_; rintro e w1 ⟨rfl, hb⟩)
    all_goals go_ret
    all_goals exact ⟨rfl, hb⟩
  · have hx : nmV 24 = ⟨#[114, 101, 116, 117, 114, 110]⟩ := rfl
    have HN := Lib.hid (rname_any 24 (by omega) (by omega))
    rw [hx] at HN
    clear hx
    go_enter Tryz.func102, Tryz.ntmps102
    go_wp2_with (go_at_call 173; refine (HN.out _).mono ?_; rintro e w1 ⟨rfl, hb⟩)
    all_goals go_ret
    all_goals exact ⟨rfl, hb⟩
  · have hx : nmV 25 = ⟨#[99, 104, 101, 99, 107]⟩ := rfl
    have HN := Lib.hid (rname_any 25 (by omega) (by omega))
    rw [hx] at HN
    clear hx
    go_enter Tryz.func102, Tryz.ntmps102
    go_wp2_with (go_at_call 173; refine (HN.out _).mono ?_; rintro e w1 ⟨rfl, hb⟩)
    all_goals go_ret
    all_goals exact ⟨rfl, hb⟩
  · have hx : nmV 26 = ⟨#[101, 110, 116, 101, 114]⟩ := rfl
    have HN := Lib.hid (rname_any 26 (by omega) (by omega))
    rw [hx] at HN
    clear hx
    go_enter Tryz.func102, Tryz.ntmps102
    go_wp2_with (go_at_call 173; refine (HN.out _).mono ?_; rintro e w1 ⟨rfl, hb⟩)
    all_goals go_ret
    all_goals exact ⟨rfl, hb⟩
  · have hx : nmV 27 = ⟨#[98, 111, 116, 116, 111, 109]⟩ := rfl
    have HN := Lib.hid (rname_any 27 (by omega) (by omega))
    rw [hx] at HN
    clear hx
    go_enter Tryz.func102, Tryz.ntmps102
    go_wp2_with (go_at_call 173; refine (HN.out _).mono ?_; rintro e w1 ⟨rfl, hb⟩)
    all_goals go_ret
    all_goals exact ⟨rfl, hb⟩
  · have hx : nmV 28 = ⟨#[100, 114, 105, 118, 101, 114]⟩ := rfl
    have HN := Lib.hid (rname_any 28 (by omega) (by omega))
    rw [hx] at HN
    clear hx
    go_enter Tryz.func102, Tryz.ntmps102
    go_wp2_with (go_at_call 173; refine (HN.out _).mono ?_; rintro e w1 ⟨rfl, hb⟩)
    all_goals go_ret
    all_goals exact ⟨rfl, hb⟩

set_option maxHeartbeats 4000000 in
theorem rneed_any (n : Int) (hlo : -9223372036854775808 ≤ n) (hhi : n ≤ 9223372036854775807) (w : World) :
    Calls Tryz.prog 170 #[.int .i64 n] w fun e w' => e = .returned (.int .i64 (ndV n)) ∧ Below w.heap.size w w' := by
  rcases all28 n with h | h | rfl | rfl | rfl | rfl | rfl | rfl | rfl | rfl | rfl | rfl | rfl | rfl | rfl | rfl | rfl | rfl | rfl | rfl | rfl | rfl | rfl | rfl | rfl | rfl | rfl | rfl | rfl | rfl
  · have hx : nmV n = ⟨#[]⟩ ∧ ndV n = 0 := by
      unfold nmV ndV
      refine ⟨by rw [if_neg (by omega)], ?_⟩
      first | (rw [if_neg (by omega)]; done) | (repeat' split) | (exact decide_eq_false (by omega))
      all_goals first | rfl | omega
    rw [hx.2]
    have HN := Lib.hid (rname_any n hlo hhi)
    rw [hx.1] at HN
    clear hx hlo hhi
    go_enter Tryz.func170, Tryz.ntmps170
    go_wp2_with (go_at_call 173; refine (HN.out _).mono ?_; rintro e w1 ⟨rfl, hb⟩)
    all_goals go_ret
    all_goals exact ⟨rfl, hb⟩
  · have hx : nmV n = ⟨#[]⟩ ∧ ndV n = 0 := by
      unfold nmV ndV
      refine ⟨by rw [if_neg (by omega)], ?_⟩
      first | (rw [if_neg (by omega)]; done) | (repeat' split) | (exact decide_eq_false (by omega))
      all_goals first | rfl | omega
    rw [hx.2]
    have HN := Lib.hid (rname_any n hlo hhi)
    rw [hx.1] at HN
    clear hx hlo hhi
    go_enter Tryz.func170, Tryz.ntmps170
    go_wp2_with (go_at_call 173; refine (HN.out _).mono ?_; rintro e w1 ⟨rfl, hb⟩)
    all_goals go_ret
    all_goals exact ⟨rfl, hb⟩
  · have hx : nmV 1 = ⟨#[110, 111, 112]⟩ := rfl
    have HN := Lib.hid (rname_any 1 (by omega) (by omega))
    rw [hx] at HN
    clear hx
    go_enter Tryz.func170, Tryz.ntmps170
    go_wp2_with (go_at_call 173; refine (HN.out _).mono ?_; rintro e w1 ⟨rfl, hb⟩)
    all_goals go_ret
    all_goals exact ⟨rfl, hb⟩
  · have hx : nmV 2 = ⟨#[115, 101, 116]⟩ := rfl
    have HN := Lib.hid (rname_any 2 (by omega) (by omega))
    rw [hx] at HN
    clear hx
    go_enter Tryz.func170, Tryz.ntmps170
    go_wp2_with (go_at_call 173; refine (HN.out _).mono ?_; rintro e w1 ⟨rfl, hb⟩)
    all_goals go_ret
    all_goals exact ⟨rfl, hb⟩
  · have hx : nmV 3 = ⟨#[109, 111, 118, 101]⟩ := rfl
    have HN := Lib.hid (rname_any 3 (by omega) (by omega))
    rw [hx] at HN
    clear hx
    go_enter Tryz.func170, Tryz.ntmps170
    go_wp2_with (go_at_call 173; refine (HN.out _).mono ?_; rintro e w1 ⟨rfl, hb⟩)
    all_goals go_ret
    all_goals exact ⟨rfl, hb⟩
  · have hx : nmV 4 = ⟨#[97, 100, 100]⟩ := rfl
    have HN := Lib.hid (rname_any 4 (by omega) (by omega))
    rw [hx] at HN
    clear hx
    go_enter Tryz.func170, Tryz.ntmps170
    go_wp2_with (go_at_call 173; refine (HN.out _).mono ?_; rintro e w1 ⟨rfl, hb⟩)
    all_goals go_ret
    all_goals exact ⟨rfl, hb⟩
  · have hx : nmV 5 = ⟨#[115, 117, 98]⟩ := rfl
    have HN := Lib.hid (rname_any 5 (by omega) (by omega))
    rw [hx] at HN
    clear hx
    go_enter Tryz.func170, Tryz.ntmps170
    go_wp2_with (go_at_call 173; refine (HN.out _).mono ?_; rintro e w1 ⟨rfl, hb⟩)
    all_goals go_ret
    all_goals exact ⟨rfl, hb⟩
  · have hx : nmV 6 = ⟨#[109, 117, 108]⟩ := rfl
    have HN := Lib.hid (rname_any 6 (by omega) (by omega))
    rw [hx] at HN
    clear hx
    go_enter Tryz.func170, Tryz.ntmps170
    go_wp2_with (go_at_call 173; refine (HN.out _).mono ?_; rintro e w1 ⟨rfl, hb⟩)
    all_goals go_ret
    all_goals exact ⟨rfl, hb⟩
  · have hx : nmV 7 = ⟨#[100, 105, 118]⟩ := rfl
    have HN := Lib.hid (rname_any 7 (by omega) (by omega))
    rw [hx] at HN
    clear hx
    go_enter Tryz.func170, Tryz.ntmps170
    go_wp2_with (go_at_call 173; refine (HN.out _).mono ?_; rintro e w1 ⟨rfl, hb⟩)
    all_goals go_ret
    all_goals exact ⟨rfl, hb⟩
  · have hx : nmV 8 = ⟨#[109, 111, 100]⟩ := rfl
    have HN := Lib.hid (rname_any 8 (by omega) (by omega))
    rw [hx] at HN
    clear hx
    go_enter Tryz.func170, Tryz.ntmps170
    go_wp2_with (go_at_call 173; refine (HN.out _).mono ?_; rintro e w1 ⟨rfl, hb⟩)
    all_goals go_ret
    all_goals exact ⟨rfl, hb⟩
  · have hx : nmV 9 = ⟨#[108, 101, 115, 115]⟩ := rfl
    have HN := Lib.hid (rname_any 9 (by omega) (by omega))
    rw [hx] at HN
    clear hx
    go_enter Tryz.func170, Tryz.ntmps170
    go_wp2_with (go_at_call 173; refine (HN.out _).mono ?_; rintro e w1 ⟨rfl, hb⟩)
    all_goals go_ret
    all_goals exact ⟨rfl, hb⟩
  · have hx : nmV 10 = ⟨#[115, 97, 109, 101]⟩ := rfl
    have HN := Lib.hid (rname_any 10 (by omega) (by omega))
    rw [hx] at HN
    clear hx
    go_enter Tryz.func170, Tryz.ntmps170
    go_wp2_with (go_at_call 173; refine (HN.out _).mono ?_; rintro e w1 ⟨rfl, hb⟩)
    all_goals go_ret
    all_goals exact ⟨rfl, hb⟩
  · have hx : nmV 11 = ⟨#[106, 117, 109, 112]⟩ := rfl
    have HN := Lib.hid (rname_any 11 (by omega) (by omega))
    rw [hx] at HN
    clear hx
    go_enter Tryz.func170, Tryz.ntmps170
    go_wp2_with (go_at_call 173; refine (HN.out _).mono ?_; rintro e w1 ⟨rfl, hb⟩)
    all_goals go_ret
    all_goals exact ⟨rfl, hb⟩
  · have hx : nmV 12 = ⟨#[122, 101, 114, 111]⟩ := rfl
    have HN := Lib.hid (rname_any 12 (by omega) (by omega))
    rw [hx] at HN
    clear hx
    go_enter Tryz.func170, Tryz.ntmps170
    go_wp2_with (go_at_call 173; refine (HN.out _).mono ?_; rintro e w1 ⟨rfl, hb⟩)
    all_goals go_ret
    all_goals exact ⟨rfl, hb⟩
  · have hx : nmV 13 = ⟨#[105, 110]⟩ := rfl
    have HN := Lib.hid (rname_any 13 (by omega) (by omega))
    rw [hx] at HN
    clear hx
    go_enter Tryz.func170, Tryz.ntmps170
    go_wp2_with (go_at_call 173; refine (HN.out _).mono ?_; rintro e w1 ⟨rfl, hb⟩)
    all_goals go_ret
    all_goals exact ⟨rfl, hb⟩
  · have hx : nmV 14 = ⟨#[111, 117, 116]⟩ := rfl
    have HN := Lib.hid (rname_any 14 (by omega) (by omega))
    rw [hx] at HN
    clear hx
    go_enter Tryz.func170, Tryz.ntmps170
    go_wp2_with (go_at_call 173; refine (HN.out _).mono ?_; rintro e w1 ⟨rfl, hb⟩)
    all_goals go_ret
    all_goals exact ⟨rfl, hb⟩
  · have hx : nmV 15 = ⟨#[108, 111, 97, 100]⟩ := rfl
    have HN := Lib.hid (rname_any 15 (by omega) (by omega))
    rw [hx] at HN
    clear hx
    go_enter Tryz.func170, Tryz.ntmps170
    go_wp2_with (go_at_call 173; refine (HN.out _).mono ?_; rintro e w1 ⟨rfl, hb⟩)
    all_goals go_ret
    all_goals exact ⟨rfl, hb⟩
  · have hx : nmV 16 = ⟨#[115, 116, 111, 114, 101]⟩ := rfl
    have HN := Lib.hid (rname_any 16 (by omega) (by omega))
    rw [hx] at HN
    clear hx
    go_enter Tryz.func170, Tryz.ntmps170
    go_wp2_with (go_at_call 173; refine (HN.out _).mono ?_; rintro e w1 ⟨rfl, hb⟩)
    all_goals go_ret
    all_goals exact ⟨rfl, hb⟩
  · have hx : nmV 17 = ⟨#[102, 117, 110, 99]⟩ := rfl
    have HN := Lib.hid (rname_any 17 (by omega) (by omega))
    rw [hx] at HN
    clear hx
    go_enter Tryz.func170, Tryz.ntmps170
    go_wp2_with (go_at_call 173; refine (HN.out _).mono ?_; rintro e w1 ⟨rfl, hb⟩)
    all_goals go_ret
    all_goals exact ⟨rfl, hb⟩
  · have hx : nmV 18 = ⟨#[112, 105, 99, 107]⟩ := rfl
    have HN := Lib.hid (rname_any 18 (by omega) (by omega))
    rw [hx] at HN
    clear hx
    go_enter Tryz.func170, Tryz.ntmps170
    go_wp2_with (go_at_call 173; refine (HN.out _).mono ?_; rintro e w1 ⟨rfl, hb⟩)
    all_goals go_ret
    all_goals exact ⟨rfl, hb⟩
  · have hx : nmV 19 = ⟨#[99, 97, 108, 108]⟩ := rfl
    have HN := Lib.hid (rname_any 19 (by omega) (by omega))
    rw [hx] at HN
    clear hx
    go_enter Tryz.func170, Tryz.ntmps170
    go_wp2_with (go_at_call 173; refine (HN.out _).mono ?_; rintro e w1 ⟨rfl, hb⟩)
    all_goals go_ret
    all_goals exact ⟨rfl, hb⟩
  · have hx : nmV 20 = ⟨#[118, 105, 97]⟩ := rfl
    have HN := Lib.hid (rname_any 20 (by omega) (by omega))
    rw [hx] at HN
    clear hx
    go_enter Tryz.func170, Tryz.ntmps170
    go_wp2_with (go_at_call 173; refine (HN.out _).mono ?_; rintro e w1 ⟨rfl, hb⟩)
    all_goals go_ret
    all_goals exact ⟨rfl, hb⟩
  · have hx : nmV 21 = ⟨#[100, 101, 102, 101, 114]⟩ := rfl
    have HN := Lib.hid (rname_any 21 (by omega) (by omega))
    rw [hx] at HN
    clear hx
    go_enter Tryz.func170, Tryz.ntmps170
    go_wp2_with (go_at_call 173; refine (HN.out _).mono ?_; rintro e w1 ⟨rfl, hb⟩)
    all_goals go_ret
    all_goals exact ⟨rfl, hb⟩
  · have hx : nmV 22 = ⟨#[112, 97, 110, 105, 99]⟩ := rfl
    have HN := Lib.hid (rname_any 22 (by omega) (by omega))
    rw [hx] at HN
    clear hx
    go_enter Tryz.func170, Tryz.ntmps170
    go_wp2_with (go_at_call 173; refine (HN.out _).mono ?_; rintro e w1 ⟨rfl, hb⟩)
    all_goals go_ret
    all_goals exact ⟨rfl, hb⟩
  · have hx : nmV 23 = ⟨#[114, 101, 99, 111, 118, 101, 114]⟩ := rfl
    have HN := Lib.hid (rname_any 23 (by omega) (by omega))
    rw [hx] at HN
    clear hx
    go_enter Tryz.func170, Tryz.ntmps170
    go_wp2_with (go_at_call 173; refine (HN.out _).mono ?_; rintro e w1 ⟨rfl, hb⟩)
    all_goals go_ret
    all_goals exact ⟨rfl, hb⟩
  · have hx : nmV 24 = ⟨#[114, 101, 116, 117, 114, 110]⟩ := rfl
    have HN := Lib.hid (rname_any 24 (by omega) (by omega))
    rw [hx] at HN
    clear hx
    go_enter Tryz.func170, Tryz.ntmps170
    go_wp2_with (go_at_call 173; refine (HN.out _).mono ?_; rintro e w1 ⟨rfl, hb⟩)
    all_goals go_ret
    all_goals exact ⟨rfl, hb⟩
  · have hx : nmV 25 = ⟨#[99, 104, 101, 99, 107]⟩ := rfl
    have HN := Lib.hid (rname_any 25 (by omega) (by omega))
    rw [hx] at HN
    clear hx
    go_enter Tryz.func170, Tryz.ntmps170
    go_wp2_with (go_at_call 173; refine (HN.out _).mono ?_; rintro e w1 ⟨rfl, hb⟩)
    all_goals go_ret
    all_goals exact ⟨rfl, hb⟩
  · have hx : nmV 26 = ⟨#[101, 110, 116, 101, 114]⟩ := rfl
    have HN := Lib.hid (rname_any 26 (by omega) (by omega))
    rw [hx] at HN
    clear hx
    go_enter Tryz.func170, Tryz.ntmps170
    go_wp2_with (go_at_call 173; refine (HN.out _).mono ?_; rintro e w1 ⟨rfl, hb⟩)
    all_goals go_ret
    all_goals exact ⟨rfl, hb⟩
  · have hx : nmV 27 = ⟨#[98, 111, 116, 116, 111, 109]⟩ := rfl
    have HN := Lib.hid (rname_any 27 (by omega) (by omega))
    rw [hx] at HN
    clear hx
    go_enter Tryz.func170, Tryz.ntmps170
    go_wp2_with (go_at_call 173; refine (HN.out _).mono ?_; rintro e w1 ⟨rfl, hb⟩)
    all_goals go_ret
    all_goals exact ⟨rfl, hb⟩
  · have hx : nmV 28 = ⟨#[100, 114, 105, 118, 101, 114]⟩ := rfl
    have HN := Lib.hid (rname_any 28 (by omega) (by omega))
    rw [hx] at HN
    clear hx
    go_enter Tryz.func170, Tryz.ntmps170
    go_wp2_with (go_at_call 173; refine (HN.out _).mono ?_; rintro e w1 ⟨rfl, hb⟩)
    all_goals go_ret
    all_goals exact ⟨rfl, hb⟩

set_option maxHeartbeats 4000000 in
theorem rends_any (n : Int) (hlo : -9223372036854775808 ≤ n) (hhi : n ≤ 9223372036854775807) (w : World) :
    Calls Tryz.prog 280 #[.int .i64 n] w fun e w' => e = .returned (.bool (enV n)) ∧ Below w.heap.size w w' := by
  rcases all28 n with h | h | rfl | rfl | rfl | rfl | rfl | rfl | rfl | rfl | rfl | rfl | rfl | rfl | rfl | rfl | rfl | rfl | rfl | rfl | rfl | rfl | rfl | rfl | rfl | rfl | rfl | rfl | rfl | rfl
  · have hx : nmV n = ⟨#[]⟩ ∧ enV n = false := by
      unfold nmV enV
      exact ⟨by rw [if_neg (by omega)], decide_eq_false (by omega)⟩
    rw [hx.2]
    have HN := Lib.hid (rname_any n hlo hhi)
    rw [hx.1] at HN
    clear hx
    go_enter Tryz.func280, Tryz.ntmps280
    go_wp2_with fail
    refine (HN.out _).mono ?_
    rintro e w1 ⟨rfl, hb1⟩
    go_wp2_with fail
    refine (HN.out _).mono ?_
    rintro e w2 ⟨rfl, hb2⟩
    go_wp2_with fail
    refine (HN.out _).mono ?_
    rintro e w3 ⟨rfl, hb3⟩
    go_wp2_with fail
    all_goals go_ret
    all_goals exact ⟨rfl, (hb1.trans (hb2.mono hb1.size)).trans (hb3.mono (Nat.le_trans hb1.size hb2.size))⟩
  · have hx : nmV n = ⟨#[]⟩ ∧ enV n = false := by
      unfold nmV enV
      exact ⟨by rw [if_neg (by omega)], decide_eq_false (by omega)⟩
    rw [hx.2]
    have HN := Lib.hid (rname_any n hlo hhi)
    rw [hx.1] at HN
    clear hx
    go_enter Tryz.func280, Tryz.ntmps280
    go_wp2_with fail
    refine (HN.out _).mono ?_
    rintro e w1 ⟨rfl, hb1⟩
    go_wp2_with fail
    refine (HN.out _).mono ?_
    rintro e w2 ⟨rfl, hb2⟩
    go_wp2_with fail
    refine (HN.out _).mono ?_
    rintro e w3 ⟨rfl, hb3⟩
    go_wp2_with fail
    all_goals go_ret
    all_goals exact ⟨rfl, (hb1.trans (hb2.mono hb1.size)).trans (hb3.mono (Nat.le_trans hb1.size hb2.size))⟩
  · have hx : nmV 1 = ⟨#[110, 111, 112]⟩ := rfl
    have HN := Lib.hid (rname_any 1 (by omega) (by omega))
    rw [hx] at HN
    clear hx
    go_enter Tryz.func280, Tryz.ntmps280
    go_wp2_with fail
    refine (HN.out _).mono ?_
    rintro e w1 ⟨rfl, hb1⟩
    go_wp2_with fail
    refine (HN.out _).mono ?_
    rintro e w2 ⟨rfl, hb2⟩
    go_wp2_with fail
    refine (HN.out _).mono ?_
    rintro e w3 ⟨rfl, hb3⟩
    go_wp2_with fail
    all_goals go_ret
    all_goals exact ⟨rfl, (hb1.trans (hb2.mono hb1.size)).trans (hb3.mono (Nat.le_trans hb1.size hb2.size))⟩
  · have hx : nmV 2 = ⟨#[115, 101, 116]⟩ := rfl
    have HN := Lib.hid (rname_any 2 (by omega) (by omega))
    rw [hx] at HN
    clear hx
    go_enter Tryz.func280, Tryz.ntmps280
    go_wp2_with fail
    refine (HN.out _).mono ?_
    rintro e w1 ⟨rfl, hb1⟩
    go_wp2_with fail
    refine (HN.out _).mono ?_
    rintro e w2 ⟨rfl, hb2⟩
    go_wp2_with fail
    refine (HN.out _).mono ?_
    rintro e w3 ⟨rfl, hb3⟩
    go_wp2_with fail
    all_goals go_ret
    all_goals exact ⟨rfl, (hb1.trans (hb2.mono hb1.size)).trans (hb3.mono (Nat.le_trans hb1.size hb2.size))⟩
  · have hx : nmV 3 = ⟨#[109, 111, 118, 101]⟩ := rfl
    have HN := Lib.hid (rname_any 3 (by omega) (by omega))
    rw [hx] at HN
    clear hx
    go_enter Tryz.func280, Tryz.ntmps280
    go_wp2_with fail
    refine (HN.out _).mono ?_
    rintro e w1 ⟨rfl, hb1⟩
    go_wp2_with fail
    refine (HN.out _).mono ?_
    rintro e w2 ⟨rfl, hb2⟩
    go_wp2_with fail
    refine (HN.out _).mono ?_
    rintro e w3 ⟨rfl, hb3⟩
    go_wp2_with fail
    all_goals go_ret
    all_goals exact ⟨rfl, (hb1.trans (hb2.mono hb1.size)).trans (hb3.mono (Nat.le_trans hb1.size hb2.size))⟩
  · have hx : nmV 4 = ⟨#[97, 100, 100]⟩ := rfl
    have HN := Lib.hid (rname_any 4 (by omega) (by omega))
    rw [hx] at HN
    clear hx
    go_enter Tryz.func280, Tryz.ntmps280
    go_wp2_with fail
    refine (HN.out _).mono ?_
    rintro e w1 ⟨rfl, hb1⟩
    go_wp2_with fail
    refine (HN.out _).mono ?_
    rintro e w2 ⟨rfl, hb2⟩
    go_wp2_with fail
    refine (HN.out _).mono ?_
    rintro e w3 ⟨rfl, hb3⟩
    go_wp2_with fail
    all_goals go_ret
    all_goals exact ⟨rfl, (hb1.trans (hb2.mono hb1.size)).trans (hb3.mono (Nat.le_trans hb1.size hb2.size))⟩
  · have hx : nmV 5 = ⟨#[115, 117, 98]⟩ := rfl
    have HN := Lib.hid (rname_any 5 (by omega) (by omega))
    rw [hx] at HN
    clear hx
    go_enter Tryz.func280, Tryz.ntmps280
    go_wp2_with fail
    refine (HN.out _).mono ?_
    rintro e w1 ⟨rfl, hb1⟩
    go_wp2_with fail
    refine (HN.out _).mono ?_
    rintro e w2 ⟨rfl, hb2⟩
    go_wp2_with fail
    refine (HN.out _).mono ?_
    rintro e w3 ⟨rfl, hb3⟩
    go_wp2_with fail
    all_goals go_ret
    all_goals exact ⟨rfl, (hb1.trans (hb2.mono hb1.size)).trans (hb3.mono (Nat.le_trans hb1.size hb2.size))⟩
  · have hx : nmV 6 = ⟨#[109, 117, 108]⟩ := rfl
    have HN := Lib.hid (rname_any 6 (by omega) (by omega))
    rw [hx] at HN
    clear hx
    go_enter Tryz.func280, Tryz.ntmps280
    go_wp2_with fail
    refine (HN.out _).mono ?_
    rintro e w1 ⟨rfl, hb1⟩
    go_wp2_with fail
    refine (HN.out _).mono ?_
    rintro e w2 ⟨rfl, hb2⟩
    go_wp2_with fail
    refine (HN.out _).mono ?_
    rintro e w3 ⟨rfl, hb3⟩
    go_wp2_with fail
    all_goals go_ret
    all_goals exact ⟨rfl, (hb1.trans (hb2.mono hb1.size)).trans (hb3.mono (Nat.le_trans hb1.size hb2.size))⟩
  · have hx : nmV 7 = ⟨#[100, 105, 118]⟩ := rfl
    have HN := Lib.hid (rname_any 7 (by omega) (by omega))
    rw [hx] at HN
    clear hx
    go_enter Tryz.func280, Tryz.ntmps280
    go_wp2_with fail
    refine (HN.out _).mono ?_
    rintro e w1 ⟨rfl, hb1⟩
    go_wp2_with fail
    refine (HN.out _).mono ?_
    rintro e w2 ⟨rfl, hb2⟩
    go_wp2_with fail
    refine (HN.out _).mono ?_
    rintro e w3 ⟨rfl, hb3⟩
    go_wp2_with fail
    all_goals go_ret
    all_goals exact ⟨rfl, (hb1.trans (hb2.mono hb1.size)).trans (hb3.mono (Nat.le_trans hb1.size hb2.size))⟩
  · have hx : nmV 8 = ⟨#[109, 111, 100]⟩ := rfl
    have HN := Lib.hid (rname_any 8 (by omega) (by omega))
    rw [hx] at HN
    clear hx
    go_enter Tryz.func280, Tryz.ntmps280
    go_wp2_with fail
    refine (HN.out _).mono ?_
    rintro e w1 ⟨rfl, hb1⟩
    go_wp2_with fail
    refine (HN.out _).mono ?_
    rintro e w2 ⟨rfl, hb2⟩
    go_wp2_with fail
    refine (HN.out _).mono ?_
    rintro e w3 ⟨rfl, hb3⟩
    go_wp2_with fail
    all_goals go_ret
    all_goals exact ⟨rfl, (hb1.trans (hb2.mono hb1.size)).trans (hb3.mono (Nat.le_trans hb1.size hb2.size))⟩
  · have hx : nmV 9 = ⟨#[108, 101, 115, 115]⟩ := rfl
    have HN := Lib.hid (rname_any 9 (by omega) (by omega))
    rw [hx] at HN
    clear hx
    go_enter Tryz.func280, Tryz.ntmps280
    go_wp2_with fail
    refine (HN.out _).mono ?_
    rintro e w1 ⟨rfl, hb1⟩
    go_wp2_with fail
    refine (HN.out _).mono ?_
    rintro e w2 ⟨rfl, hb2⟩
    go_wp2_with fail
    refine (HN.out _).mono ?_
    rintro e w3 ⟨rfl, hb3⟩
    go_wp2_with fail
    all_goals go_ret
    all_goals exact ⟨rfl, (hb1.trans (hb2.mono hb1.size)).trans (hb3.mono (Nat.le_trans hb1.size hb2.size))⟩
  · have hx : nmV 10 = ⟨#[115, 97, 109, 101]⟩ := rfl
    have HN := Lib.hid (rname_any 10 (by omega) (by omega))
    rw [hx] at HN
    clear hx
    go_enter Tryz.func280, Tryz.ntmps280
    go_wp2_with fail
    refine (HN.out _).mono ?_
    rintro e w1 ⟨rfl, hb1⟩
    go_wp2_with fail
    refine (HN.out _).mono ?_
    rintro e w2 ⟨rfl, hb2⟩
    go_wp2_with fail
    refine (HN.out _).mono ?_
    rintro e w3 ⟨rfl, hb3⟩
    go_wp2_with fail
    all_goals go_ret
    all_goals exact ⟨rfl, (hb1.trans (hb2.mono hb1.size)).trans (hb3.mono (Nat.le_trans hb1.size hb2.size))⟩
  · have hx : nmV 11 = ⟨#[106, 117, 109, 112]⟩ := rfl
    have HN := Lib.hid (rname_any 11 (by omega) (by omega))
    rw [hx] at HN
    clear hx
    go_enter Tryz.func280, Tryz.ntmps280
    go_wp2_with fail
    refine (HN.out _).mono ?_
    rintro e w1 ⟨rfl, hb1⟩
    go_wp2_with fail
    all_goals go_ret
    all_goals exact ⟨rfl, hb1⟩
  · have hx : nmV 12 = ⟨#[122, 101, 114, 111]⟩ := rfl
    have HN := Lib.hid (rname_any 12 (by omega) (by omega))
    rw [hx] at HN
    clear hx
    go_enter Tryz.func280, Tryz.ntmps280
    go_wp2_with fail
    refine (HN.out _).mono ?_
    rintro e w1 ⟨rfl, hb1⟩
    go_wp2_with fail
    refine (HN.out _).mono ?_
    rintro e w2 ⟨rfl, hb2⟩
    go_wp2_with fail
    refine (HN.out _).mono ?_
    rintro e w3 ⟨rfl, hb3⟩
    go_wp2_with fail
    all_goals go_ret
    all_goals exact ⟨rfl, (hb1.trans (hb2.mono hb1.size)).trans (hb3.mono (Nat.le_trans hb1.size hb2.size))⟩
  · have hx : nmV 13 = ⟨#[105, 110]⟩ := rfl
    have HN := Lib.hid (rname_any 13 (by omega) (by omega))
    rw [hx] at HN
    clear hx
    go_enter Tryz.func280, Tryz.ntmps280
    go_wp2_with fail
    refine (HN.out _).mono ?_
    rintro e w1 ⟨rfl, hb1⟩
    go_wp2_with fail
    refine (HN.out _).mono ?_
    rintro e w2 ⟨rfl, hb2⟩
    go_wp2_with fail
    refine (HN.out _).mono ?_
    rintro e w3 ⟨rfl, hb3⟩
    go_wp2_with fail
    all_goals go_ret
    all_goals exact ⟨rfl, (hb1.trans (hb2.mono hb1.size)).trans (hb3.mono (Nat.le_trans hb1.size hb2.size))⟩
  · have hx : nmV 14 = ⟨#[111, 117, 116]⟩ := rfl
    have HN := Lib.hid (rname_any 14 (by omega) (by omega))
    rw [hx] at HN
    clear hx
    go_enter Tryz.func280, Tryz.ntmps280
    go_wp2_with fail
    refine (HN.out _).mono ?_
    rintro e w1 ⟨rfl, hb1⟩
    go_wp2_with fail
    refine (HN.out _).mono ?_
    rintro e w2 ⟨rfl, hb2⟩
    go_wp2_with fail
    refine (HN.out _).mono ?_
    rintro e w3 ⟨rfl, hb3⟩
    go_wp2_with fail
    all_goals go_ret
    all_goals exact ⟨rfl, (hb1.trans (hb2.mono hb1.size)).trans (hb3.mono (Nat.le_trans hb1.size hb2.size))⟩
  · have hx : nmV 15 = ⟨#[108, 111, 97, 100]⟩ := rfl
    have HN := Lib.hid (rname_any 15 (by omega) (by omega))
    rw [hx] at HN
    clear hx
    go_enter Tryz.func280, Tryz.ntmps280
    go_wp2_with fail
    refine (HN.out _).mono ?_
    rintro e w1 ⟨rfl, hb1⟩
    go_wp2_with fail
    refine (HN.out _).mono ?_
    rintro e w2 ⟨rfl, hb2⟩
    go_wp2_with fail
    refine (HN.out _).mono ?_
    rintro e w3 ⟨rfl, hb3⟩
    go_wp2_with fail
    all_goals go_ret
    all_goals exact ⟨rfl, (hb1.trans (hb2.mono hb1.size)).trans (hb3.mono (Nat.le_trans hb1.size hb2.size))⟩
  · have hx : nmV 16 = ⟨#[115, 116, 111, 114, 101]⟩ := rfl
    have HN := Lib.hid (rname_any 16 (by omega) (by omega))
    rw [hx] at HN
    clear hx
    go_enter Tryz.func280, Tryz.ntmps280
    go_wp2_with fail
    refine (HN.out _).mono ?_
    rintro e w1 ⟨rfl, hb1⟩
    go_wp2_with fail
    refine (HN.out _).mono ?_
    rintro e w2 ⟨rfl, hb2⟩
    go_wp2_with fail
    refine (HN.out _).mono ?_
    rintro e w3 ⟨rfl, hb3⟩
    go_wp2_with fail
    all_goals go_ret
    all_goals exact ⟨rfl, (hb1.trans (hb2.mono hb1.size)).trans (hb3.mono (Nat.le_trans hb1.size hb2.size))⟩
  · have hx : nmV 17 = ⟨#[102, 117, 110, 99]⟩ := rfl
    have HN := Lib.hid (rname_any 17 (by omega) (by omega))
    rw [hx] at HN
    clear hx
    go_enter Tryz.func280, Tryz.ntmps280
    go_wp2_with fail
    refine (HN.out _).mono ?_
    rintro e w1 ⟨rfl, hb1⟩
    go_wp2_with fail
    refine (HN.out _).mono ?_
    rintro e w2 ⟨rfl, hb2⟩
    go_wp2_with fail
    refine (HN.out _).mono ?_
    rintro e w3 ⟨rfl, hb3⟩
    go_wp2_with fail
    all_goals go_ret
    all_goals exact ⟨rfl, (hb1.trans (hb2.mono hb1.size)).trans (hb3.mono (Nat.le_trans hb1.size hb2.size))⟩
  · have hx : nmV 18 = ⟨#[112, 105, 99, 107]⟩ := rfl
    have HN := Lib.hid (rname_any 18 (by omega) (by omega))
    rw [hx] at HN
    clear hx
    go_enter Tryz.func280, Tryz.ntmps280
    go_wp2_with fail
    refine (HN.out _).mono ?_
    rintro e w1 ⟨rfl, hb1⟩
    go_wp2_with fail
    refine (HN.out _).mono ?_
    rintro e w2 ⟨rfl, hb2⟩
    go_wp2_with fail
    refine (HN.out _).mono ?_
    rintro e w3 ⟨rfl, hb3⟩
    go_wp2_with fail
    all_goals go_ret
    all_goals exact ⟨rfl, (hb1.trans (hb2.mono hb1.size)).trans (hb3.mono (Nat.le_trans hb1.size hb2.size))⟩
  · have hx : nmV 19 = ⟨#[99, 97, 108, 108]⟩ := rfl
    have HN := Lib.hid (rname_any 19 (by omega) (by omega))
    rw [hx] at HN
    clear hx
    go_enter Tryz.func280, Tryz.ntmps280
    go_wp2_with fail
    refine (HN.out _).mono ?_
    rintro e w1 ⟨rfl, hb1⟩
    go_wp2_with fail
    refine (HN.out _).mono ?_
    rintro e w2 ⟨rfl, hb2⟩
    go_wp2_with fail
    refine (HN.out _).mono ?_
    rintro e w3 ⟨rfl, hb3⟩
    go_wp2_with fail
    all_goals go_ret
    all_goals exact ⟨rfl, (hb1.trans (hb2.mono hb1.size)).trans (hb3.mono (Nat.le_trans hb1.size hb2.size))⟩
  · have hx : nmV 20 = ⟨#[118, 105, 97]⟩ := rfl
    have HN := Lib.hid (rname_any 20 (by omega) (by omega))
    rw [hx] at HN
    clear hx
    go_enter Tryz.func280, Tryz.ntmps280
    go_wp2_with fail
    refine (HN.out _).mono ?_
    rintro e w1 ⟨rfl, hb1⟩
    go_wp2_with fail
    refine (HN.out _).mono ?_
    rintro e w2 ⟨rfl, hb2⟩
    go_wp2_with fail
    refine (HN.out _).mono ?_
    rintro e w3 ⟨rfl, hb3⟩
    go_wp2_with fail
    all_goals go_ret
    all_goals exact ⟨rfl, (hb1.trans (hb2.mono hb1.size)).trans (hb3.mono (Nat.le_trans hb1.size hb2.size))⟩
  · have hx : nmV 21 = ⟨#[100, 101, 102, 101, 114]⟩ := rfl
    have HN := Lib.hid (rname_any 21 (by omega) (by omega))
    rw [hx] at HN
    clear hx
    go_enter Tryz.func280, Tryz.ntmps280
    go_wp2_with fail
    refine (HN.out _).mono ?_
    rintro e w1 ⟨rfl, hb1⟩
    go_wp2_with fail
    refine (HN.out _).mono ?_
    rintro e w2 ⟨rfl, hb2⟩
    go_wp2_with fail
    refine (HN.out _).mono ?_
    rintro e w3 ⟨rfl, hb3⟩
    go_wp2_with fail
    all_goals go_ret
    all_goals exact ⟨rfl, (hb1.trans (hb2.mono hb1.size)).trans (hb3.mono (Nat.le_trans hb1.size hb2.size))⟩
  · have hx : nmV 22 = ⟨#[112, 97, 110, 105, 99]⟩ := rfl
    have HN := Lib.hid (rname_any 22 (by omega) (by omega))
    rw [hx] at HN
    clear hx
    go_enter Tryz.func280, Tryz.ntmps280
    go_wp2_with fail
    refine (HN.out _).mono ?_
    rintro e w1 ⟨rfl, hb1⟩
    go_wp2_with fail
    refine (HN.out _).mono ?_
    rintro e w2 ⟨rfl, hb2⟩
    go_wp2_with fail
    all_goals go_ret
    all_goals exact ⟨rfl, hb1.trans (hb2.mono hb1.size)⟩
  · have hx : nmV 23 = ⟨#[114, 101, 99, 111, 118, 101, 114]⟩ := rfl
    have HN := Lib.hid (rname_any 23 (by omega) (by omega))
    rw [hx] at HN
    clear hx
    go_enter Tryz.func280, Tryz.ntmps280
    go_wp2_with fail
    refine (HN.out _).mono ?_
    rintro e w1 ⟨rfl, hb1⟩
    go_wp2_with fail
    refine (HN.out _).mono ?_
    rintro e w2 ⟨rfl, hb2⟩
    go_wp2_with fail
    refine (HN.out _).mono ?_
    rintro e w3 ⟨rfl, hb3⟩
    go_wp2_with fail
    all_goals go_ret
    all_goals exact ⟨rfl, (hb1.trans (hb2.mono hb1.size)).trans (hb3.mono (Nat.le_trans hb1.size hb2.size))⟩
  · have hx : nmV 24 = ⟨#[114, 101, 116, 117, 114, 110]⟩ := rfl
    have HN := Lib.hid (rname_any 24 (by omega) (by omega))
    rw [hx] at HN
    clear hx
    go_enter Tryz.func280, Tryz.ntmps280
    go_wp2_with fail
    refine (HN.out _).mono ?_
    rintro e w1 ⟨rfl, hb1⟩
    go_wp2_with fail
    refine (HN.out _).mono ?_
    rintro e w2 ⟨rfl, hb2⟩
    go_wp2_with fail
    refine (HN.out _).mono ?_
    rintro e w3 ⟨rfl, hb3⟩
    go_wp2_with fail
    all_goals go_ret
    all_goals exact ⟨rfl, (hb1.trans (hb2.mono hb1.size)).trans (hb3.mono (Nat.le_trans hb1.size hb2.size))⟩
  · have hx : nmV 25 = ⟨#[99, 104, 101, 99, 107]⟩ := rfl
    have HN := Lib.hid (rname_any 25 (by omega) (by omega))
    rw [hx] at HN
    clear hx
    go_enter Tryz.func280, Tryz.ntmps280
    go_wp2_with fail
    refine (HN.out _).mono ?_
    rintro e w1 ⟨rfl, hb1⟩
    go_wp2_with fail
    refine (HN.out _).mono ?_
    rintro e w2 ⟨rfl, hb2⟩
    go_wp2_with fail
    refine (HN.out _).mono ?_
    rintro e w3 ⟨rfl, hb3⟩
    go_wp2_with fail
    all_goals go_ret
    all_goals exact ⟨rfl, (hb1.trans (hb2.mono hb1.size)).trans (hb3.mono (Nat.le_trans hb1.size hb2.size))⟩
  · have hx : nmV 26 = ⟨#[101, 110, 116, 101, 114]⟩ := rfl
    have HN := Lib.hid (rname_any 26 (by omega) (by omega))
    rw [hx] at HN
    clear hx
    go_enter Tryz.func280, Tryz.ntmps280
    go_wp2_with fail
    refine (HN.out _).mono ?_
    rintro e w1 ⟨rfl, hb1⟩
    go_wp2_with fail
    refine (HN.out _).mono ?_
    rintro e w2 ⟨rfl, hb2⟩
    go_wp2_with fail
    refine (HN.out _).mono ?_
    rintro e w3 ⟨rfl, hb3⟩
    go_wp2_with fail
    all_goals go_ret
    all_goals exact ⟨rfl, (hb1.trans (hb2.mono hb1.size)).trans (hb3.mono (Nat.le_trans hb1.size hb2.size))⟩
  · have hx : nmV 27 = ⟨#[98, 111, 116, 116, 111, 109]⟩ := rfl
    have HN := Lib.hid (rname_any 27 (by omega) (by omega))
    rw [hx] at HN
    clear hx
    go_enter Tryz.func280, Tryz.ntmps280
    go_wp2_with fail
    refine (HN.out _).mono ?_
    rintro e w1 ⟨rfl, hb1⟩
    go_wp2_with fail
    refine (HN.out _).mono ?_
    rintro e w2 ⟨rfl, hb2⟩
    go_wp2_with fail
    refine (HN.out _).mono ?_
    rintro e w3 ⟨rfl, hb3⟩
    go_wp2_with fail
    all_goals go_ret
    all_goals exact ⟨rfl, (hb1.trans (hb2.mono hb1.size)).trans (hb3.mono (Nat.le_trans hb1.size hb2.size))⟩
  · have hx : nmV 28 = ⟨#[100, 114, 105, 118, 101, 114]⟩ := rfl
    have HN := Lib.hid (rname_any 28 (by omega) (by omega))
    rw [hx] at HN
    clear hx
    go_enter Tryz.func280, Tryz.ntmps280
    go_wp2_with fail
    refine (HN.out _).mono ?_
    rintro e w1 ⟨rfl, hb1⟩
    go_wp2_with fail
    refine (HN.out _).mono ?_
    rintro e w2 ⟨rfl, hb2⟩
    go_wp2_with fail
    refine (HN.out _).mono ?_
    rintro e w3 ⟨rfl, hb3⟩
    go_wp2_with fail
    all_goals go_ret
    all_goals exact ⟨rfl, (hb1.trans (hb2.mono hb1.size)).trans (hb3.mono (Nat.le_trans hb1.size hb2.size))⟩

end Go.Proofs.YtbknmapkdjmcjaaGreatDoor.By
