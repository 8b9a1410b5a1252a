/-
  WALKS of layer 9: the document's operand of a word.
-/
import Derived.Test.YtnplhpbbdgnmiaaGreatDoorLo
namespace Go.Proofs.YtnplhpbbdgnmiaaGreatDoor.Ln
open Go.RowKit
open Mem Go.Lib

theorem rdV_kind (p : Int) (b : Bool) (h0 : 0 ≤ p ∧ p ≤ 8) (hb : b = false → p = 0) : (Si.clV p, Si.clB p) = if b = false ∨ p = 0 then (0, false) else (p - 1, true) := by
  unfold Si.clV Si.clB
  by_cases hp : p = 0
  · subst hp; simp
  · have hbt : b = true := by
      cases b with
      | true => rfl
      | false => exact absurd (hb rfl) hp
    have h1 : 1 ≤ p ∧ p ≤ 8 := by omega
    rw [if_pos h1, if_neg (by rintro (h | h); rw [hbt] at h; cases h; exact hp h)]
    simp [h1.1, h1.2]

theorem parB_no (l : List UInt8) (h : Si.parB l = false) : Si.parN l = 0 := by
  unfold Si.parB at h
  unfold Si.parN
  cases hf : Si.txs.findIdx? (· == l) with
  | none => rfl
  | some i => rw [hf] at h; cases h

theorem roper_any (k : Nat) (s : ByteArray) (w : World) (hs : s.size ≤ 1000000) :
    Calls Tryz.prog 43 #[.int .u8 (k : Int), .string s] w fun e w' => e = .returned (.tuple #[.int .i64 (rdV k s).1, .bool (rdV k s).2]) ∧ Below w.heap.size w w' := by
  by_cases hk : k = 107
  · have hkv := rdV_kind (Si.parN s.data.toList) (Si.parB s.data.toList) (parN_bd _) (parB_no _)
    have hF : rdV (k : Int) s = if Si.parB s.data.toList = false ∨ Si.parN s.data.toList = 0 then (0, false) else (Si.parN s.data.toList - 1, true) := by unfold rdV; rw [if_pos (by omega)]; exact hkv
    have hp := parN_bd s.data.toList
    have HP := Lib.hid (Si.rparse_any s w)
    subst hk
    generalize Si.parN s.data.toList = p at HP hF hp
    generalize Si.parB s.data.toList = b at HP hF
    clear hkv hs
    have hpq : (p = 0 ∧ (p == 0) = true) ∨ (p ≠ 0 ∧ (p == 0) = false) := by
      by_cases h : p = 0
      · exact .inl ⟨h, by simp [h]⟩
      · exact .inr ⟨h, by simpa using h⟩
    have hw : wrap64 (p - 1) = p - 1 := wr_in (by omega) (by omega)
    cases b with
    | false =>
      have HF := Lib.hid (show rdV ((107 : Nat) : Int) s = (0, false) by rw [hF, if_pos (.inl rfl)])
      rw [HF.out]
      clear hF hpq hw hp
      go_enter Tryz.func43, Tryz.ntmps43
      go_wp2_with fail
      refine HP.out.mono ?_
      rintro e w1 ⟨rfl, hb⟩
      have HB := Lib.hid hb
      clear hb
      go_wp2_with fail
      go_ret2
      exact ⟨rfl, HB.out⟩
    | true =>
      rcases hpq with ⟨rfl, hq⟩ | ⟨hp0, hq⟩
      · have HF := Lib.hid (show rdV ((107 : Nat) : Int) s = (0, false) by rw [hF, if_pos (.inr rfl)])
        rw [HF.out]
        clear hF hw hp
        go_enter Tryz.func43, Tryz.ntmps43
        go_wp2_with fail
        refine HP.out.mono ?_
        rintro e w1 ⟨rfl, hb⟩
        have HB := Lib.hid hb
        clear hb
        go_wp2_with fail
        go_ret2
        exact ⟨rfl, HB.out⟩
      · have HF := Lib.hid (show rdV ((107 : Nat) : Int) s = (p - 1, true) by rw [hF, if_neg (by rintro (h | h); cases h; exact hp0 h)])
        rw [HF.out]
        clear hF hp hp0
        go_enter Tryz.func43, Tryz.ntmps43
        go_wp2_with fail
        refine HP.out.mono ?_
        rintro e w1 ⟨rfl, hb⟩
        have HB := Lib.hid hb
        clear hb
        go_wp2_with fail
        go_ret2
        refine ⟨?_, HB.out⟩
        show Ending.returned (.tuple #[.int .i64 (wrap64 (p - 1)), .bool true]) = _
        rw [hw]
  · have HF := Lib.hid (show rdV (k : Int) s = numV s by unfold rdV; rw [if_neg (by omega)])
    rw [HF.out]
    have hq : ((k : Int) == 107) = false := by simp; omega
    have hq2 : ((k : Int) != 107) = true := by unfold bne; rw [hq]; rfl
    have HD := Lib.hid (rnumber_any s w hs)
    clear hs
    go_enter Tryz.func43, Tryz.ntmps43
    go_wp2_with fail
    refine HD.out.mono ?_
    rintro e w1 ⟨rfl, hb⟩
    have HB := Lib.hid hb
    clear hb
    go_wp2_with fail
    go_ret2
    exact ⟨rfl, HB.out⟩
end Go.Proofs.YtnplhpbbdgnmiaaGreatDoor.Ln
