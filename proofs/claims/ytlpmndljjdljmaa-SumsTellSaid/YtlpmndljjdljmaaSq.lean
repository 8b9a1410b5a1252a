/-
  WHAT SEAL AND OPEN ANSWER, of no program.
-/
import Derived.Test.YtlpmndljjdljmaaSm
import Derived.Test.YtlpmndljjdljmaaRm
namespace Go.Proofs.Ytlpmndljjdljmaa.By
open Go.RowKit
open Sm

/-- Bytes with their sum. -/
def sealB (l : List UInt8) : List UInt8 := l ++ be (sumV l) 4

/-- Are the last 4 bytes the sum of those ahead? -/
def tailOK (l : List UInt8) : Bool := decide (numV false (l.drop (l.length - 4)) = (sumV (l.take (l.length - 4)) : Int))

/-- The error that Open answers, and the bytes. -/
def openE (l : List UInt8) : Int := if l.length < 4 then 5 else if tailOK l then 0 else 4
def openB (l : List UInt8) : List UInt8 := if l.length < 4 then [] else if tailOK l then l.take (l.length - 4) else []

theorem num4 (a b c d : UInt8) : numV false [a, b, c, d] = ((a.toNat * 16777216 + b.toNat * 65536 + c.toNat * 256 + d.toNat : Nat) : Int) := by
  have := a.toNat_lt; have := b.toNat_lt; have := c.toNat_lt; have := d.toNat_lt
  simp only [numV, acc, wrap64, Bool.false_eq_true, if_false]
  omega

theorem be4 (n : Int) : be n 4 = [byteI (n / 256 / 256 / 256), byteI (n / 256 / 256), byteI (n / 256), byteI n] := rfl

theorem list4 (l : List UInt8) (h : l.length = 4) : ∃ a b c d, l = [a, b, c, d] := by
  match l, h with
  | [a, b, c, d], _ => exact ⟨a, b, c, d, rfl⟩

theorem num_be (n : Nat) (h : n < 4294967296) : numV false (be (n : Int) 4) = n := by
  rw [be4, num4]
  have h1 := byteI_toNat ((n : Int) / 256 / 256 / 256)
  have h2 := byteI_toNat ((n : Int) / 256 / 256)
  have h3 := byteI_toNat ((n : Int) / 256)
  have h4 := byteI_toNat (n : Int)
  omega

theorem num_inj (l m : List UInt8) (hl : l.length = 4) (hm : m.length = 4) (h : numV false l = numV false m) : l = m := by
  obtain ⟨a, b, c, d, rfl⟩ := list4 l hl
  obtain ⟨a', b', c', d', rfl⟩ := list4 m hm
  rw [num4, num4] at h
  have := a.toNat_lt; have := b.toNat_lt; have := c.toNat_lt; have := d.toNat_lt
  have := a'.toNat_lt; have := b'.toNat_lt; have := c'.toNat_lt; have := d'.toNat_lt
  rw [UInt8.toNat_inj.1 (show a.toNat = a'.toNat by omega), UInt8.toNat_inj.1 (show b.toNat = b'.toNat by omega), UInt8.toNat_inj.1 (show c.toNat = c'.toNat by omega), UInt8.toNat_inj.1 (show d.toNat = d'.toNat by omega)]

theorem seal_length (l : List UInt8) : (sealB l).length = l.length + 4 := by simp [sealB, be_length]

theorem tail_seal (x d : List UInt8) (hd : d.length = 4) : tailOK (x ++ d) = decide (numV false d = (sumV x : Int)) := by
  unfold tailOK
  rw [show (x ++ d).length - 4 = x.length by simp [hd], List.drop_left, List.take_left]

theorem tail_be (x : List UInt8) : tailOK (sealB x) = true := by
  unfold sealB
  rw [tail_seal _ _ (be_length 4 _), num_be _ (sumV_lt x)]
  simp

theorem split4 (l : List UInt8) : l = l.take (l.length - 4) ++ l.drop (l.length - 4) := (List.take_append_drop _ _).symm

/-- Sealing what stands ahead gives the bytes back, just if the last 4 are its sum. -/
theorem seal_back (l : List UInt8) (h : 4 ≤ l.length) : (sealB (l.take (l.length - 4)) = l) = (tailOK l = true) := by
  apply propext
  constructor
  · intro e
    rw [← e]
    exact tail_be _
  · intro e
    unfold tailOK at e
    rw [decide_eq_true_eq] at e
    have h1 : be (sumV (l.take (l.length - 4)) : Int) 4 = l.drop (l.length - 4) :=
      num_inj _ _ (be_length 4 _) (by simp; omega) (by rw [num_be _ (sumV_lt _), e])
    unfold sealB
    rw [h1]
    exact (split4 l).symm

theorem open_seal (l : List UInt8) : openE (sealB l) = 0 ∧ openB (sealB l) = l := by
  have h : ¬ l.length + 4 < 4 := by omega
  unfold openE openB
  simp only [tail_be, if_true, seal_length, if_neg h]
  refine ⟨trivial, ?_⟩
  rw [show l.length + 4 - 4 = l.length by omega]
  exact List.take_left

/-- One byte of what was sealed that is another one is told. -/
theorem open_told (l : List UInt8) (i : Nat) (h : i < (sealB l).length) (x : UInt8) (hx : x ≠ (sealB l)[i]) : openE ((sealB l).set i x) = 4 ∧ openB ((sealB l).set i x) = [] := by
  have ht : tailOK ((sealB l).set i x) = false := by
    by_cases hi : i < l.length
    · have e : (sealB l).set i x = l.set i x ++ be (sumV l) 4 := by unfold sealB; rw [List.set_append_left _ _ hi]
      rw [e, tail_seal _ _ (be_length 4 _), num_be _ (sumV_lt l)]
      have hg : (sealB l)[i] = l[i] := by simp [sealB, hi]
      have := sum_told l i hi x (by rwa [hg] at hx)
      simp
      omega
    · have hk : i - l.length < 4 := by rw [seal_length] at h; omega
      have e : (sealB l).set i x = l ++ (be (sumV l) 4).set (i - l.length) x := by unfold sealB; rw [List.set_append_right _ _ (by omega)]
      rw [e, tail_seal _ _ (by simp [be_length])]
      rw [decide_eq_false_iff_not]
      intro hn
      have h2 := num_inj _ _ (by simp [be_length]) (be_length 4 (sumV l : Int)) (hn.trans (num_be _ (sumV_lt l)).symm)
      have h3 : ((be (sumV l : Int) 4).set (i - l.length) x)[i - l.length]'(by simp [be_length]; omega) = x := by simp
      have hg : (sealB l)[i] = (be (sumV l : Int) 4)[i - l.length]'(by rw [be_length]; omega) := by
        simp only [sealB]; rw [List.getElem_append_right (by omega)]
      apply hx
      rw [hg, ← h3]
      simp only [h2]
  unfold openE openB
  rw [ht]
  simp [seal_length]
end Go.Proofs.Ytlpmndljjdljmaa.By
