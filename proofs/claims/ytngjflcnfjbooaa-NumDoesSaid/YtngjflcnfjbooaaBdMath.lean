/-
  PLAIN MATHEMATICS, no program: numbers within bits, and numbers doubled till they are large enough.
-/
namespace Go.Proofs.Ytngjflcnfjbooaa.Num

/-- Has n room in so many bits (0 to 62)? -/
def fitB (n bits : Int) : Bool := decide (0 ≤ bits ∧ bits ≤ 62 ∧ 0 ≤ n ∧ n < 2 ^ bits.toNat)

theorem fitB_in (n : Int) (k : Nat) (h1 : (k : Int) ≤ 62) (hn : 0 ≤ n) : fitB n k = decide (n < 2 ^ k) := by
  unfold fitB
  simp [h1, hn]

theorem fitB_no (n bits : Int) (h : bits < 0 ∨ 62 < bits ∨ n < 0) : fitB n bits = false := by
  unfold fitB
  simp only [decide_eq_false_iff_not]
  omega

theorem pow_bd (k : Nat) (h : (k : Int) ≤ 62) : 0 < (2 : Int) ^ k ∧ (2 : Int) ^ k ≤ 4611686018427387904 := by
  have h1 : (2 : Nat) ^ k ≤ 2 ^ 62 := Nat.pow_le_pow_right (by decide) (by omega)
  have h2 : 0 < (2 : Nat) ^ k := Nat.pow_pos (by decide)
  have e : (2 : Int) ^ k = ((2 ^ k : Nat) : Int) := by simp
  rw [e]
  have h3 : (2 : Nat) ^ 62 = 4611686018427387904 := by decide
  omega

theorem div_step (n m : Int) (j : Nat) (h : m = n / 2 ^ j) : m / 2 = n / 2 ^ (j + 1) := by
  rw [h, Int.ediv_ediv_of_nonneg (Int.le_of_lt (Int.pow_pos (by decide))), Int.pow_succ]

theorem div_end (n m : Int) (j : Nat) (hn : 0 ≤ n) (h : m = n / 2 ^ j) : (m == 0) = decide (n < 2 ^ j) := by
  have hp : 0 < (2 : Int) ^ j := Int.pow_pos (by decide)
  rw [Bool.eq_iff_iff]
  simp only [beq_iff_eq, decide_eq_true_eq]
  subst h
  constructor
  · intro h
    have := Int.lt_ediv_add_one_mul_self n hp
    rw [h] at this
    simpa using this
  · intro h
    exact Int.ediv_eq_zero_of_lt hn h

/-- n, doubled till it is at least least; none above most. By fuel. -/
def dblF : Nat → Int → Int → Int → Int × Bool
  | 0, _, _, _ => (0, false)
  | f + 1, n, least, most =>
    if n < least then (if most / 2 < n then (0, false) else dblF f (2 * n) least most)
    else if most < n then (0, false) else (n, true)

theorem dblF_more (f : Nat) : ∀ (g : Nat) (n least most : Int), 1 ≤ n → (least - n).toNat < f → (least - n).toNat < g → dblF f n least most = dblF g n least most := by
  induction f with
  | zero => intro g n least most _ h; omega
  | succ f ih =>
    intro g n least most hn hf hg
    match g, hg with
    | g + 1, hg =>
      unfold dblF
      by_cases h1 : n < least
      · rw [if_pos h1, if_pos h1, ih g (2 * n) least most (by omega) (by omega) (by omega)]
      · rw [if_neg h1, if_neg h1]

/-- n, doubled till it is at least least; none below 1, none above most. -/
def dbl (n least most : Int) : Int × Bool :=
  if n < 1 then (0, false) else dblF ((least - n).toNat + 1) n least most

theorem dbl_low (n least most : Int) (h : n < 1) : dbl n least most = (0, false) := by
  unfold dbl; rw [if_pos h]

theorem dbl_end (n least most : Int) (h : 1 ≤ n) (h1 : least ≤ n) (h2 : n ≤ most) : dbl n least most = (n, true) := by
  unfold dbl dblF
  rw [if_neg (by omega), if_neg (by omega), if_neg (by omega)]

theorem dbl_above (n least most : Int) (h : 1 ≤ n) (h2 : most < n) : dbl n least most = (0, false) := by
  unfold dbl dblF
  rw [if_neg (by omega)]
  by_cases h1 : n < least
  · rw [if_pos h1, if_pos (by omega)]
  · rw [if_neg h1, if_pos h2]

theorem dbl_half (n least most : Int) (h : 1 ≤ n) (h1 : n < least) (h2 : most / 2 < n) : dbl n least most = (0, false) := by
  unfold dbl dblF
  rw [if_neg (by omega), if_pos h1, if_pos h2]

theorem dbl_step (n least most : Int) (h : 1 ≤ n) (h1 : n < least) (h2 : n ≤ most / 2) : dbl n least most = dbl (2 * n) least most := by
  unfold dbl
  rw [if_neg (by omega), if_neg (by omega), dblF, if_pos h1, if_neg (by omega)]
  exact dblF_more _ _ _ _ _ (by omega) (by omega) (by omega)

end Go.Proofs.Ytngjflcnfjbooaa.Num
