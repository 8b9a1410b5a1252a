/-
  WALKS of layer 9: the document's Number.
-/
import Derived.Test.YtnplhpbbdgnmiaaGreatDoorLj
namespace Go.Proofs.YtnplhpbbdgnmiaaGreatDoor.Ln
open Go.RowKit
open Mem Go.Lib

theorem nDigits_le : ∀ (k u : Nat), 1 ≤ k → u < 10 ^ k → nDigits u ≤ k
  | 0, _, h, _ => by omega
  | 1, u, _, h => by rw [nDigits_small (by simpa using h)]; exact Nat.le_refl _
  | k + 2, u, _, h => by
    by_cases hu : u < 10
    · rw [nDigits_small hu]; omega
    · rw [nDigits_big hu]
      have := nDigits_le (k + 1) (u / 10) (by omega) (by
        have : (10 : Nat) ^ (k + 2) = 10 * 10 ^ (k + 1) := by rw [Nat.pow_succ, Nat.mul_comm]
        omega)
      omega

def frm (s : ByteArray) : Nat := if at_ s 0 = 45 then 1 else 0
def body (s : ByteArray) : List UInt8 := s.data.toList.drop (frm s)

theorem len_list (s : ByteArray) : s.data.toList.length = s.size := by obtain ⟨b⟩ := s; show b.toList.length = b.size; rw [Array.length_toList]

/-- What there is to say of a decimal. -/
theorem dec_facts {s : ByteArray} {v : Int} (h : I64 v) (hs : decB v = s) : 1 ≤ s.size ∧ s.size ≤ 20 ∧ (v < 0 ↔ at_ s 0 = 45) ∧ (∀ c ∈ body s, digit c = true) ∧ dval 0 (body s) = v.natAbs := by
  have hl := len_list s
  have hd : s.data.toList = Lib.itoa v := by rw [← hs]; rfl
  obtain ⟨h0, h1⟩ := h
  by_cases hn : v < 0
  · obtain ⟨u, rfl⟩ : ∃ u : Nat, v = -(u : Int) := ⟨v.natAbs, by omega⟩
    rw [itoa_neg u (by omega)] at hd
    have hdl := nDigits_le 19 u (by decide) (by omega)
    rw [hd, List.length_cons, decDigits_length] at hl
    have hp := nDigits_pos u
    have hsz : 0 < s.size := by omega
    have ha : at_ s 0 = 45 := by
      rw [at_get s 0 hsz]
      have : s.data.toList[0]'(by rw [len_list]; exact hsz) = 45 := by simp only [hd, List.getElem_cons_zero]
      rw [this]; rfl
    have hb : body s = decDigits u := by rw [body, frm, if_pos ha, hd]; rfl
    obtain ⟨d1, d2⟩ := dec_val u
    refine ⟨hsz, by omega, ⟨fun _ => ha, fun _ => hn⟩, by rw [hb]; exact d2, ?_⟩
    rw [hb, d1, Int.natAbs_neg, Int.natAbs_natCast]
  · obtain ⟨u, rfl⟩ : ∃ u : Nat, v = (u : Int) := ⟨v.toNat, by omega⟩
    rw [itoa_nonneg] at hd
    have hdl := nDigits_le 19 u (by decide) (by omega)
    rw [hd, decDigits_length] at hl
    have hp := nDigits_pos u
    have hsz : 0 < s.size := by omega
    obtain ⟨d1, d2⟩ := dec_val u
    have ha : at_ s 0 ≠ 45 := by
      rw [at_get s 0 hsz]
      have := digit_iff.1 (d2 _ (by rw [← hd]; exact List.getElem_mem (by rw [len_list]; exact hsz)))
      omega
    have hb : body s = decDigits u := by rw [body, frm, if_neg ha, hd]; rfl
    refine ⟨hsz, by omega, ⟨fun h => absurd h hn, fun h => absurd h ha⟩, by rw [hb]; exact d2, ?_⟩
    rw [hb, d1, Int.natAbs_natCast]

/-- How far the document's rounds have come. -/
def NSt (s : ByteArray) (i : Nat) (nn : Int) : Prop := I64 nn ∧ ∀ v, I64 v → decB v = s → nn = -((dval 0 ((body s).take (i - frm s)) : Nat) : Int)

theorem wr_i64 (z : Int) : I64 (wrap64 z) := by unfold I64 wrap64; omega

theorem NSt.next {s : ByteArray} {i : Nat} {nn : Int} (h : NSt s i nn) (hf : frm s ≤ i) (hi : i < s.size) : NSt s (i + 1) (wrap64 (wrap64 (10 * nn) - ((at_ s i : Int) - 48))) := by
  refine ⟨wr_i64 _, fun v hv hs => ?_⟩
  obtain ⟨f1, f2, f3, f4, f5⟩ := dec_facts hv hs
  have hn := h.2 v hv hs
  have hb : (body s).length = s.size - frm s := by rw [body, List.length_drop, len_list]
  have hj : i - frm s < (body s).length := by omega
  have hget : (body s)[i - frm s] = s.data.toList[i]'(by rw [len_list]; exact hi) := by
    simp only [body, List.getElem_drop]
    congr 1; omega
  have hdg := digit_iff.1 (f4 _ (List.getElem_mem hj))
  have htk : (body s).take (i + 1 - frm s) = (body s).take (i - frm s) ++ [(body s)[i - frm s]] := by
    have e : i + 1 - frm s = (i - frm s) + 1 := by omega
    rw [e, List.take_succ_eq_append_getElem hj]
  have hle : dval 0 ((body s).take (i + 1 - frm s)) ≤ v.natAbs := by
    rw [← f5]
    conv => rhs; rw [← List.take_append_drop (i + 1 - frm s) (body s)]
    rw [val_app]
    exact val_ge _ _
  rw [htk, val_snoc] at hle ⊢
  rw [hget] at hle hdg ⊢
  rw [← at_get s i hi] at hle hdg ⊢
  obtain ⟨v0, v1⟩ := hv
  rw [hn, wr_in (z := 10 * _) (by omega) (by omega), wr_in (by omega) (by omega)]
  omega

/-- At the end: the number, if there is one. -/
theorem NSt.final {s : ByteArray} {nn : Int} (h : NSt s s.size nn) {v : Int} (hv : I64 v) (hs : decB v = s) : (if at_ s 0 = 45 then nn else wrap64 (-nn)) = v := by
  obtain ⟨f1, f2, f3, f4, f5⟩ := dec_facts hv hs
  have hn := h.2 v hv hs
  have hb : (body s).length = s.size - frm s := by rw [body, List.length_drop, len_list]
  rw [List.take_of_length_le (by omega), f5] at hn
  obtain ⟨v0, v1⟩ := hv
  by_cases ha : at_ s 0 = 45
  · rw [if_pos ha]
    have := f3.2 ha
    omega
  · rw [if_neg ha]
    have : ¬ v < 0 := fun h => ha (f3.1 h)
    rw [wr_in (by omega) (by omega)]
    omega
end Go.Proofs.YtnplhpbbdgnmiaaGreatDoor.Ln
