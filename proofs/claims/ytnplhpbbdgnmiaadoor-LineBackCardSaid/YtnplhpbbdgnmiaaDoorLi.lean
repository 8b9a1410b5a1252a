/-
  NUMBERS, in plain mathematics: the number whose decimal a text is.
-/
import Derived.Test.YtnplhpbbdgnmiaaDoorLh
import Derived.Lib.ParseIntBCases
namespace Go.Proofs.YtnplhpbbdgnmiaaDoor.Ln
open Go.Lib

def I64 (v : Int) : Prop := -9223372036854775808 ≤ v ∧ v ≤ 9223372036854775807
def digit (c : UInt8) : Bool := decide (48 ≤ c.toNat ∧ c.toNat ≤ 57)
def dval (a : Nat) (l : List UInt8) : Nat := l.foldl (fun a c => a * 10 + (c.toNat - 48)) a
theorem val_cons (a : Nat) (c : UInt8) (l : List UInt8) : dval a (c :: l) = dval (a * 10 + (c.toNat - 48)) l := by unfold dval; rw [List.foldl_cons]
theorem val_snoc (a : Nat) (c : UInt8) (l : List UInt8) : dval a (l ++ [c]) = dval a l * 10 + (c.toNat - 48) := by unfold dval; rw [List.foldl_append]; rfl
theorem val_ge : ∀ (l : List UInt8) (a : Nat), a ≤ dval a l
  | [], _ => Nat.le_refl _
  | c :: l, a => by
    rw [val_cons]
    have := val_ge l (a * 10 + (c.toNat - 48))
    omega
theorem val_app (a : Nat) (l k : List UInt8) : dval a (l ++ k) = dval (dval a l) k := by unfold dval; rw [List.foldl_append]

theorem dig_nat (d : Nat) (h : d < 10) : (UInt8.ofNat (48 + d)).toNat = 48 + d := by rw [UInt8.toNat_ofNat']; omega
theorem dec_val (u : Nat) : dval 0 (decDigits u) = u ∧ ∀ c ∈ decDigits u, digit c = true := by
  induction u using Nat.strongRecOn with
  | _ u ih =>
    by_cases h : u < 10
    · rw [decDigits_one h]
      have := dig_nat u h
      refine ⟨?_, fun c hc => ?_⟩
      · simp only [dval, List.foldl_cons, List.foldl_nil]; omega
      · rw [List.mem_singleton] at hc; subst hc
        unfold digit; rw [this]; simp; omega
    · obtain ⟨h1, h2⟩ := ih (u / 10) (by omega)
      have := dig_nat (u % 10) (by omega)
      rw [decDigits, dif_neg h]
      refine ⟨?_, fun c hc => ?_⟩
      · rw [val_snoc, h1, this]; omega
      · rcases List.mem_append.1 hc with hc | hc
        · exact h2 c hc
        · rw [List.mem_singleton] at hc; subst hc
          unfold digit; rw [this]; simp; omega

theorem digit_iff {c : UInt8} : digit c = true ↔ 48 ≤ c.toNat ∧ c.toNat ≤ 57 := by simp [digit]

theorem parse_val : ∀ (l : List UInt8) (acc : Nat), (∀ c ∈ l, digit c = true) → dval acc l ≤ 18446744073709551615 → parseUintM 18446744073709551615 acc l = .ok (dval acc l)
  | [], acc, _, _ => rfl
  | c :: l, acc, hd, hv => by
    have h1 := digit_iff.1 (hd c (by simp))
    rw [val_cons] at hv ⊢
    have h2 := val_ge l (acc * 10 + (c.toNat - 48))
    rw [parseUintM, if_pos h1, if_neg (by omega), if_neg (by omega)]
    exact parse_val l _ (fun x hx => hd x (List.mem_cons_of_mem _ hx)) hv

theorem decDigits_ne (u : Nat) : decDigits u ≠ [] := by
  intro h
  have h1 := decDigits_length u
  rw [h] at h1
  have := nDigits_pos u
  simp at h1; omega

theorem parseU (u : Nat) (h : u ≤ 18446744073709551615) : parseUintB 64 (decDigits u) = .ok u := by
  unfold parseUintB
  rw [if_neg (decDigits_ne u)]
  obtain ⟨h1, h2⟩ := dec_val u
  have := parse_val (decDigits u) 0 h2 (by rw [h1]; exact h)
  rw [h1] at this
  exact this

/-- A number is parsed of its decimal. -/
theorem parse_itoa (v : Int) (h : I64 v) : parseIntB 64 (Lib.itoa v) = .ok v := by
  obtain ⟨h0, h1⟩ := h
  by_cases hn : v < 0
  · obtain ⟨u, rfl⟩ : ∃ u : Nat, v = -(u : Int) := ⟨v.natAbs, by omega⟩
    rw [itoa_neg u (by omega), parseIntB_minus, parseU u (by omega)]
    unfold signedC
    simp only
    rw [if_neg (by omega)]
  · obtain ⟨u, rfl⟩ : ∃ u : Nat, v = (u : Int) := ⟨v.toNat, by omega⟩
    rw [itoa_nonneg]
    have hp := parseU u (by omega)
    obtain ⟨_, hd⟩ := dec_val u
    cases hl : decDigits u with
    | nil => exact absurd hl (decDigits_ne u)
    | cons c r =>
      have hc := digit_iff.1 (hd c (by rw [hl]; simp))
      rw [hl] at hp
      rw [parseIntB_plain 64 c r (by omega) (by omega), hp]
      unfold signlessC
      simp only
      rw [if_neg (by omega)]
end Go.Proofs.YtnplhpbbdgnmiaaDoor.Ln
