/-
  WALKS of layer 9: the document's Digits, of any number.
-/
import Derived.Test.YtnplhpbbdgnmiaaDoorLg
import Derived.Test.YtnplhpbbdgnmiaaDoorSx
import Derived.Lib.ItoaLen
import Derived.Lib.ItoaMem
namespace Go.Proofs.YtnplhpbbdgnmiaaDoor.Ln
open Go.RowKit
open Mem Go.Lib

/-- The digits of what is left: none of 0. -/
def dd (u : Nat) : List UInt8 := if u = 0 then [] else decDigits u
theorem dd_step (u : Nat) (h : u ≠ 0) : dd u = dd (u / 10) ++ [UInt8.ofNat (48 + u % 10)] := by
  unfold dd
  rw [if_neg h]
  by_cases h1 : u < 10
  · rw [decDigits_one h1, if_pos (by omega), List.nil_append, Nat.mod_eq_of_lt h1]
  · rw [if_neg (by omega), decDigits, dif_neg h1]

theorem parts10 (kk : Int) : (0 ≤ kk ∧ kk.tmod 10 = ((kk.natAbs % 10 : Nat) : Int) ∧ kk.tdiv 10 = ((kk.natAbs / 10 : Nat) : Int)) ∨ (kk < 0 ∧ kk.tmod 10 = -((kk.natAbs % 10 : Nat) : Int) ∧ kk.tdiv 10 = -((kk.natAbs / 10 : Nat) : Int)) := by
  rcases (by omega : kk < 0 ∨ 0 ≤ kk) with h | h
  · refine .inr ⟨h, ?_, ?_⟩
    · obtain ⟨u, rfl⟩ : ∃ u : Nat, kk = -(u : Int) := ⟨kk.natAbs, by omega⟩
      rw [Int.neg_tmod, Int.natAbs_neg, Int.natAbs_natCast]; rfl
    · obtain ⟨u, rfl⟩ : ∃ u : Nat, kk = -(u : Int) := ⟨kk.natAbs, by omega⟩
      rw [Int.neg_tdiv, Int.natAbs_neg, Int.natAbs_natCast]; rfl
  · refine .inl ⟨h, ?_, ?_⟩
    · obtain ⟨u, rfl⟩ : ∃ u : Nat, kk = (u : Int) := ⟨kk.natAbs, by omega⟩
      rw [Int.natAbs_natCast]; rfl
    · obtain ⟨u, rfl⟩ : ∃ u : Nat, kk = (u : Int) := ⟨kk.natAbs, by omega⟩
      rw [Int.natAbs_natCast]; rfl

theorem wr_in {z : Int} (h0 : -9223372036854775808 ≤ z) (h1 : z ≤ 9223372036854775807) : wrap64 z = z := by
  unfold wrap64; omega

/-- What a round makes of what is left. -/
structure Rd (n kk d q : Int) (c : UInt8) (y : Int) : Prop where
  sgn : (d < 0 ∧ wrap64 (-d) = y - 48) ∨ (¬ d < 0 ∧ d = y - 48)
  add : wrap64 (48 + (y - 48)) = y
  byte : y % 256 = y
  num : y = (c.toNat : Int)
  less : q.natAbs < kk.natAbs
  abs : q.natAbs ≤ n.natAbs ∧ (n < 0 → q ≤ 0) ∧ (0 < n → 0 ≤ q)
  dig : dd kk.natAbs = dd q.natAbs ++ [c]

theorem round_of {n kk : Int} (hk : kk ≠ 0) (h : kk.natAbs ≤ n.natAbs ∧ (n < 0 → kk ≤ 0) ∧ (0 < n → 0 ≤ kk)) : ∃ d q c y, kk.tmod 10 = d ∧ kk.tdiv 10 = q ∧ Rd n kk d q c y := by
  obtain ⟨h1, h2, h3⟩ := h
  have hm : kk.natAbs % 10 < 10 := Nat.mod_lt _ (by decide)
  have hc : (UInt8.ofNat (48 + kk.natAbs % 10)).toNat = 48 + kk.natAbs % 10 := by
    rw [UInt8.toNat_ofNat']; omega
  have hdd := dd_step kk.natAbs (by omega)
  rcases parts10 kk with ⟨hs, e1, e2⟩ | ⟨hs, e1, e2⟩
  · refine ⟨_, _, UInt8.ofNat (48 + kk.natAbs % 10), ((48 + kk.natAbs % 10 : Nat) : Int), e1, e2, ⟨.inr ⟨by omega, by omega⟩, ?_, by omega, by rw [hc], ?_, ⟨?_, ?_, ?_⟩, ?_⟩⟩
    · rw [wr_in (by omega) (by omega)]; omega
    · rw [Int.natAbs_natCast]; omega
    · rw [Int.natAbs_natCast]; omega
    · intro hn; have := h2 hn; omega
    · intro hn; omega
    · rw [Int.natAbs_natCast]; exact hdd
  · refine ⟨_, _, UInt8.ofNat (48 + kk.natAbs % 10), ((48 + kk.natAbs % 10 : Nat) : Int), e1, e2, ⟨?_, ?_, by omega, by rw [hc], ?_, ⟨?_, ?_, ?_⟩, ?_⟩⟩
    · by_cases hz : kk.natAbs % 10 = 0
      · exact .inr ⟨by omega, by omega⟩
      · refine .inl ⟨by omega, ?_⟩
        rw [wr_in (by omega) (by omega)]; omega
    · rw [wr_in (by omega) (by omega)]; omega
    · rw [Int.natAbs_neg, Int.natAbs_natCast]; omega
    · rw [Int.natAbs_neg, Int.natAbs_natCast]; omega
    · intro hn; omega
    · intro hn; have := h3 hn; omega
    · rw [Int.natAbs_neg, Int.natAbs_natCast]; exact hdd

theorem decB_neg (n : Int) (h : n < 0) : decB n = ⟨#[45]⟩ ++ ⟨(dd n.natAbs).toArray⟩ := by
  apply ba_ext
  rw [ba_append]
  show Lib.itoa n = [45] ++ dd n.natAbs
  unfold Lib.itoa dd
  rw [if_pos h, if_neg (by omega)]; rfl
theorem decB_pos (n : Int) (h : 0 < n) : decB n = ⟨(dd n.natAbs).toArray⟩ := by
  apply ba_ext
  show Lib.itoa n = dd n.natAbs
  unfold Lib.itoa dd
  rw [if_neg (by omega), if_neg (by omega)]
  congr 1; omega

theorem dd_len (n : Int) (h0 : -9223372036854775808 ≤ n) (h1 : n ≤ 9223372036854775807) : (dd n.natAbs).length ≤ 20 := by
  unfold dd
  split
  · simp
  · rw [decDigits_length]; exact nDigits_le20 _ (by omega)

end Go.Proofs.YtnplhpbbdgnmiaaDoor.Ln
