/-
  WALKS: num.Near, num.Fits, num.Double (functions 16, 18, 14) and the document's own (17, 19, 15): what each answers; the world stays.
-/
import Derived.Test.YtngjflcnfjbooaaRows
import Derived.Test.YtngjflcnfjbooaaBdMath
import Derived.WalkKit
import Derived.ProofKit
import Derived.OpenShut
import Derived.Handy
import Derived.WalkLawsBesides
import Derived.WalkSpells
import Derived.Lib.Hide
namespace Go.Proofs.Ytngjflcnfjbooaa.Num
open Go.ChangeShapes Go.WideShapes Go.ChangeAt Go.RowKit

theorem ret_bool {a b : Bool} (h : a = b) : Ending.returned (.bool a) = .returned (.bool b) := by rw [h]

theorem tup (p : Int × Bool) (a : Int) (b : Bool) (h : p = (a, b)) : Ending.returned (.tuple #[.int .i64 a, .bool b]) = .returned (.tuple #[.int .i64 p.1, .bool p.2]) := by rw [h]

def nearI (n lo hi : Int) : Int := if n < lo then lo else if hi < n then hi else n

theorem near_any (n lo hi : Int) (w : World) :
    Calls Try.prog 16 #[.int .i64 n, .int .i64 lo, .int .i64 hi] w fun e w' => e = .returned (.int .i64 (nearI n lo hi)) ∧ w = w' := by
  unfold nearI
  go_enter Try.func16, Try.ntmps16
  by_cases h1 : n < lo
  · rw [if_pos h1]
    go_wp2
    go_ret
    exact ⟨rfl, rfl⟩
  · rw [if_neg h1]
    by_cases h2 : hi < n
    · rw [if_pos h2]
      go_wp2
      go_ret
      exact ⟨rfl, rfl⟩
    · rw [if_neg h2]
      go_wp2
      go_ret
      exact ⟨rfl, rfl⟩

theorem rnear_any (n lo hi : Int) (w : World) :
    Calls Try.prog 17 #[.int .i64 n, .int .i64 lo, .int .i64 hi] w fun e w' => e = .returned (.int .i64 (nearI n lo hi)) ∧ w = w' := by
  unfold nearI
  go_enter Try.func17, Try.ntmps17
  by_cases h1 : n < lo
  · rw [if_pos h1]
    go_wp2
    go_ret
    exact ⟨rfl, rfl⟩
  · rw [if_neg h1]
    by_cases h2 : hi < n
    · rw [if_pos h2]
      go_wp2
      go_ret
      exact ⟨rfl, rfl⟩
    · rw [if_neg h2]
      go_wp2
      go_ret
      exact ⟨rfl, rfl⟩

theorem fits_any (n bits : Int) (w : World) :
    Calls Try.prog 18 #[.int .i64 n, .int .i64 bits] w fun e w' => e = .returned (.bool (fitB n bits)) ∧ w = w' := by
  by_cases h0 : bits < 0
  · rw [fitB_no n bits (Or.inl h0)]
    go_enter Try.func18, Try.ntmps18
    go_wp2
    go_ret
    exact ⟨rfl, rfl⟩
  · obtain ⟨k, rfl⟩ := Int.eq_ofNat_of_zero_le (by omega : 0 ≤ bits)
    by_cases h1 : 62 < (k : Int)
    · rw [fitB_no n k (Or.inr (Or.inl h1))]
      go_enter Try.func18, Try.ntmps18
      go_wp2
      go_ret
      exact ⟨rfl, rfl⟩
    · by_cases hn : n < 0
      · rw [fitB_no n k (Or.inr (Or.inr hn))]
        go_enter Try.func18, Try.ntmps18
        go_wp2
        go_ret
        exact ⟨rfl, rfl⟩
      · have hb := pow_bd k (by omega)
        have hw : wrap64 (2 ^ k) = 2 ^ k := IntWalk.wrap64_in _ ⟨by omega, by omega⟩
        have H := Lib.hid hw
        have HF := Lib.hid (fitB_in n k (by omega) (by omega))
        clear hw hb
        generalize hv : fitB n k = v at HF ⊢
        clear hv
        go_enter Try.func18, Try.ntmps18
        go_wp2
        go_ret
        exact ⟨ret_bool (by rw [H.out, HF.out]), rfl⟩

theorem rfits_any (n bits : Int) (wn : n ≤ 9223372036854775807) (w : World) :
    Calls Try.prog 19 #[.int .i64 n, .int .i64 bits] w fun e w' => e = .returned (.bool (fitB n bits)) ∧ w = w' := by
  by_cases h0 : bits < 0
  · rw [fitB_no n bits (Or.inl h0)]
    go_enter Try.func19, Try.ntmps19
    go_wp2
    go_ret
    exact ⟨rfl, rfl⟩
  · obtain ⟨k, rfl⟩ := Int.eq_ofNat_of_zero_le (by omega : 0 ≤ bits)
    by_cases h1 : 62 < (k : Int)
    · rw [fitB_no n k (Or.inr (Or.inl h1))]
      go_enter Try.func19, Try.ntmps19
      go_wp2
      go_ret
      exact ⟨rfl, rfl⟩
    · by_cases hn : n < 0
      · rw [fitB_no n k (Or.inr (Or.inr hn))]
        go_enter Try.func19, Try.ntmps19
        go_wp2
        go_ret
        exact ⟨rfl, rfl⟩
      · have HF := Lib.hid (fitB_in n k (by omega) (by omega))
        have hn0 : 0 ≤ n := by omega
        generalize hv : fitB n k = v at HF ⊢
        clear hv
        go_enter Try.func19, Try.ntmps19
        go_wp2
        go_loop [0, 5] (fun m i => ∃ (j : Nat) (x : Int), j ≤ k ∧ i = .int .i64 j ∧ m = .int .i64 x ∧ 0 ≤ x ∧ x ≤ n ∧ Hid (x = n / 2 ^ j)) (fun _ i => k - (intOf i).toNat)
        case atStart => exact ⟨0, n, by omega, rfl, rfl, by omega, by omega, Lib.hid (by simp)⟩
        case round =>
          obtain ⟨j, x, hj, rfl, rfl, hx, hx2, HX⟩ := hrel
          by_cases hlt : j < k
          · go_wp2
            go_round
            case rel => exact ⟨j + 1, x / 2, by omega, by go_num, rfl, by omega, by omega, Lib.hid (div_step n x j HX.out)⟩
            case measure => simp [intOf]; omega
          · obtain rfl : j = k := by omega
            go_wp2
            go_ret
            exact ⟨ret_bool (by rw [HF.out, div_end n x j hn0 HX.out]), rfl⟩

set_option maxHeartbeats 400000 in
theorem double_any (n least most : Int) (w1 : -9223372036854775808 ≤ most ∧ most ≤ 9223372036854775807) (w : World) :
    Calls Try.prog 14 #[.int .i64 n, .int .i64 least, .int .i64 most] w fun e w' => e = .returned (.tuple #[.int .i64 (dbl n least most).1, .bool (dbl n least most).2]) ∧ w = w' := by
  obtain ⟨w1, w2⟩ := w1
  by_cases h0 : n < 1
  · rw [dbl_low n least most h0]
    go_enter Try.func14, Try.ntmps14
    go_wp2
    go_ret2
    exact ⟨rfl, rfl⟩
  · by_cases h1 : most < n
    · rw [dbl_above n least most (by omega) h1]
      go_enter Try.func14, Try.ntmps14
      go_wp2
      go_ret2
      exact ⟨rfl, rfl⟩
    · obtain ⟨p, hp⟩ : ∃ p, dbl n least most = p := ⟨_, rfl⟩
      rw [hp]
      have HP := Lib.hid hp
      clear hp
      go_enter Try.func14, Try.ntmps14
      go_wp2
      go_loop [0] (fun m => ∃ x : Int, 1 ≤ x ∧ x ≤ most ∧ m = .int .i64 x ∧ Hid (dbl x least most = p)) (fun m => (least - intOf m).toNat)
      case atStart => exact ⟨n, by omega, by omega, rfl, HP⟩
      case round =>
        obtain ⟨x, hx1, hx2, rfl, HX⟩ := hrel
        by_cases hlt : x < least
        · by_cases hh : most / 2 < x
          · have HE := Lib.hid (dbl_half x least most hx1 hlt hh)
            go_wp2
            go_ret2
            exact ⟨tup p _ _ (by rw [← HX.out, HE.out]), rfl⟩
          · have HE := Lib.hid (dbl_step x least most hx1 hlt (by omega))
            go_wp2
            go_round
            case rel => exact ⟨x * 2, by omega, by omega, rfl, Lib.hid (by rw [← HX.out, HE.out, Int.mul_comm])⟩
            case measure => simp [intOf]; omega
        · have HE := Lib.hid (dbl_end x least most hx1 (by omega) hx2)
          go_wp2
          go_ret2
          exact ⟨tup p _ _ (by rw [← HX.out, HE.out]), rfl⟩

set_option maxHeartbeats 400000 in
theorem rdouble_any (n least most : Int) (w1 : -9223372036854775808 ≤ most ∧ most ≤ 9223372036854775807) (w : World) :
    Calls Try.prog 15 #[.int .i64 n, .int .i64 least, .int .i64 most] w fun e w' => e = .returned (.tuple #[.int .i64 (dbl n least most).1, .bool (dbl n least most).2]) ∧ w = w' := by
  obtain ⟨w1, w2⟩ := w1
  by_cases h0 : n < 1
  · rw [dbl_low n least most h0]
    go_enter Try.func15, Try.ntmps15
    go_wp2
    go_ret2
    exact ⟨rfl, rfl⟩
  · by_cases h1 : most < 0
    · rw [dbl_above n least most (by omega) (by omega)]
      have ht : most.tdiv 2 = -((-most) / 2) := by
        rw [← Int.neg_neg most, Int.neg_tdiv, Int.tdiv_eq_ediv_of_nonneg (by omega)]
        simp
      have hw : most.tdiv 2 < n := by omega
      clear ht
      go_enter Try.func15, Try.ntmps15
      go_wp2
      go_rounds 1
      all_goals go_ret2
      all_goals exact ⟨rfl, rfl⟩
    · obtain ⟨p, hp⟩ : ∃ p, dbl n least most = p := ⟨_, rfl⟩
      rw [hp]
      have HP := Lib.hid hp
      clear hp
      go_enter Try.func15, Try.ntmps15
      go_wp2
      go_loop [0] (fun m => ∃ x : Int, 1 ≤ x ∧ m = .int .i64 x ∧ Hid (dbl x least most = p)) (fun m => (least - intOf m).toNat)
      case atStart => exact ⟨n, by omega, rfl, HP⟩
      case round =>
        obtain ⟨x, hx1, rfl, HX⟩ := hrel
        by_cases hlt : x < least
        · by_cases hh : most / 2 < x
          · have HE := Lib.hid (dbl_half x least most hx1 hlt hh)
            go_wp2
            go_ret2
            exact ⟨tup p _ _ (by rw [← HX.out, HE.out]), rfl⟩
          · have HE := Lib.hid (dbl_step x least most hx1 hlt (by omega))
            go_wp2
            go_round
            case rel => exact ⟨2 * x, by omega, rfl, Lib.hid (by rw [← HX.out, HE.out])⟩
            case measure => simp [intOf]; omega
        · by_cases hm : most < x
          · have HE := Lib.hid (dbl_above x least most hx1 hm)
            go_wp2
            go_ret2
            exact ⟨tup p _ _ (by rw [← HX.out, HE.out]), rfl⟩
          · have HE := Lib.hid (dbl_end x least most hx1 (by omega) (by omega))
            go_wp2
            go_ret2
            exact ⟨tup p _ _ (by rw [← HX.out, HE.out]), rfl⟩
end Go.Proofs.Ytngjflcnfjbooaa.Num
