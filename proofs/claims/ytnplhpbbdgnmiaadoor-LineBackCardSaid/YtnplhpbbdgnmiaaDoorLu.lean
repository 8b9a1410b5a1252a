/-
  WALKS of layer 9: the document's operand of a word.
-/
import Derived.Test.YtnplhpbbdgnmiaaDoorLo
namespace Go.Proofs.YtnplhpbbdgnmiaaDoor.Ln
open Go.RowKit
open Mem Go.Lib

theorem rdV_kind (p : Int) (b : Bool) (h0 : 0 ≤ p ∧ p ≤ 8) (hb : b = false → p = 0) : (Si.clV p, Si.clB p) = if b = false ∨ p = 0 then (0, false) else (p - 1, true) := by
  unfold Si.clV Si.clB
  by_cases hp : p = 0
  · subst hp; simp
  · have hbt : b = true := by
      cases b with
      | true => rfl
      | false => exact absurd (hb rfl) hp
    have h1 : 1 ≤ p ∧ p ≤ 8 := by omega
    rw [if_pos h1, if_neg (by rintro (h | h); rw [hbt] at h; cases h; exact hp h)]
    simp [h1.1, h1.2]

theorem parB_no (l : List UInt8) (h : Si.parB l = false) : Si.parN l = 0 := by
  unfold Si.parB at h
  unfold Si.parN
  cases hf : Si.txs.findIdx? (· == l) with
  | none => rfl
  | some i => rw [hf] at h; cases h

end Go.Proofs.YtnplhpbbdgnmiaaDoor.Ln
