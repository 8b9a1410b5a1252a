/-
  PLAIN MATHEMATICS, no program: what is left of a quotient, in numbers that go round.
-/
import Derived.RowKit
import Derived.IntWalk
namespace Go.Proofs.Ytngjflcnfjbooaa.Num
open Go.RowKit

theorem w64 (x : Int) : ∃ k : Int, wrap64 x = x + 18446744073709551616 * k := by
  unfold wrap64
  generalize x = y
  refine ⟨-((y + 9223372036854775808) / 18446744073709551616), ?_⟩
  omega

theorem w64_bd (x : Int) : -9223372036854775808 ≤ wrap64 x ∧ wrap64 x ≤ 9223372036854775807 := by
  unfold wrap64
  omega

theorem w64_eq (x y k : Int) (h : x = y + 18446744073709551616 * k) (hy : -9223372036854775808 ≤ y ∧ y ≤ 9223372036854775807) : wrap64 x = y := by
  unfold wrap64
  omega

theorem w64_cong (x y k : Int) (h : x = y + 18446744073709551616 * k) : wrap64 x = wrap64 y := by
  unfold wrap64
  omega

theorem turn_back (b c : Int) (hb : -9223372036854775808 ≤ b ∧ b ≤ 9223372036854775807) : wrap64 (wrap64 (b + c) - c) = b := by
  unfold wrap64
  omega

theorem emod_le (a c : Int) (ha : 0 ≤ a) (hc : 0 ≤ c) : a % c ≤ a := by
  obtain ⟨n, rfl⟩ := Int.eq_ofNat_of_zero_le ha
  obtain ⟨m, rfl⟩ := Int.eq_ofNat_of_zero_le hc
  have := Nat.mod_le n m
  omega

/-- What is left: nearer to 0 than the divisor, with the number's sign, within the number's own bounds. -/
theorem tmod_bd (b c : Int) (hb : -9223372036854775808 ≤ b ∧ b ≤ 9223372036854775807) : -9223372036854775808 ≤ b.tmod c ∧ b.tmod c ≤ 9223372036854775807 := by
  rcases Int.lt_or_le b 0 with h | h
  · have h1 : (-b).tmod c = -(b.tmod c) := Int.neg_tmod b c
    have h2 : 0 ≤ (-b).tmod c := Int.tmod_nonneg _ (by omega)
    have h3 : (-b).tmod c ≤ -b := by
      rw [Int.tmod_eq_emod_of_nonneg (by omega)]
      rcases Int.lt_trichotomy c 0 with hc | hc | hc
      · rw [← Int.emod_neg]
        exact emod_le _ _ (by omega) (by omega)
      · subst hc; simp
      · exact emod_le _ _ (by omega) (by omega)
    omega
  · have h2 : 0 ≤ b.tmod c := Int.tmod_nonneg _ h
    have h3 : b.tmod c ≤ b := by
      rw [Int.tmod_eq_emod_of_nonneg h]
      rcases Int.lt_trichotomy c 0 with hc | hc | hc
      · rw [← Int.emod_neg]
        exact emod_le _ _ (by omega) (by omega)
      · subst hc; simp
      · exact emod_le _ _ (by omega) (by omega)
    omega

theorem rest (b c : Int) (hb : -9223372036854775808 ≤ b ∧ b ≤ 9223372036854775807) : wrap64 (b - wrap64 (c * wrap64 (b.tdiv c))) = b.tmod c := by
  obtain ⟨k, hk⟩ := w64 (b.tdiv c)
  obtain ⟨j, hj⟩ := w64 (c * wrap64 (b.tdiv c))
  have h := Int.tmod_add_mul_tdiv b c
  refine w64_eq _ _ (-(c * k + j)) ?_ (tmod_bd b c hb)
  rw [hj, hk, Int.mul_add]
  have e : c * (18446744073709551616 * k) = 18446744073709551616 * (c * k) := by rw [Int.mul_left_comm]
  rw [e]
  generalize c * k = m
  generalize c * b.tdiv c = q at *
  omega

theorem rest_m (b : Int) : wrap64 (b - wrap64 (-wrap64 (-b))) = 0 := by
  unfold wrap64
  omega

theorem tmod_m (b : Int) : b.tmod (-1) = 0 := by
  rw [Int.tmod_neg]; simp

theorem tdiv_m (b : Int) : b.tdiv (-1) = -b := by
  rw [Int.tdiv_neg]; simp

/-- A quotient times the divisor, and what is left, are the number again. -/
theorem again (b c : Int) (hb : -9223372036854775808 ≤ b ∧ b ≤ 9223372036854775807) : wrap64 (wrap64 (wrap64 (b.tdiv c) * c) + b.tmod c) = b := by
  obtain ⟨k, hk⟩ := w64 (b.tdiv c)
  obtain ⟨j, hj⟩ := w64 (wrap64 (b.tdiv c) * c)
  have h := Int.tmod_add_mul_tdiv b c
  refine w64_eq _ _ (c * k + j) ?_ hb
  rw [hj, hk, Int.add_mul]
  have e : 18446744073709551616 * k * c = 18446744073709551616 * (c * k) := by rw [Int.mul_assoc, Int.mul_comm k c]
  rw [e, Int.mul_comm (b.tdiv c) c]
  generalize c * k = m
  generalize c * b.tdiv c = q at *
  omega

theorem near_pos (b c : Int) (hc : 0 < c) : b.tmod c < c ∧ -c < b.tmod c := by
  have h1 := Int.tmod_lt_of_pos b hc
  have h2 := Int.lt_tmod_of_pos b hc
  omega

theorem near_neg (b c : Int) (hc : c < 0) : c < b.tmod c ∧ b.tmod c < -c := by
  have h1 := Int.tmod_lt_of_pos b (show 0 < -c by omega)
  have h2 := Int.lt_tmod_of_pos b (show 0 < -c by omega)
  rw [Int.tmod_neg] at h1 h2
  omega

theorem sign_neg (b c : Int) (hb : b < 0) : b.tmod c ≤ 0 := by
  have h1 : (-b).tmod c = -(b.tmod c) := Int.neg_tmod b c
  have h2 : 0 ≤ (-b).tmod c := Int.tmod_nonneg _ (by omega)
  omega

theorem sign_pos (b c : Int) (hb : 0 ≤ b) : 0 ≤ b.tmod c := Int.tmod_nonneg _ hb

end Go.Proofs.Ytngjflcnfjbooaa.Num
