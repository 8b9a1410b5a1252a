/-
  WALKS of layer 9: an operand as a word, and a word as an operand.
-/
import Derived.Test.YtnplhpbbdgnmiaaDoorLn
import Derived.Test.YtnplhpbbdgnmiaaDoorSp
namespace Go.Proofs.YtnplhpbbdgnmiaaDoor.Ln
open Go.RowKit
open Mem Go.Lib

/-- An operand's word; false: it is a class that is none. -/
def wrV (k n : Int) : ByteArray × Bool := if k = 107 then (Si.textV (wrap64 (1 + n)), Si.isC n) else (decB n, true)
/-- The operand that has the word. -/
def rdV (k : Int) (s : ByteArray) : Int × Bool := if k = 107 then (Si.clV (Si.parN s.data.toList), Si.clB (Si.parN s.data.toList)) else numV s

theorem written_any (k n : Int) (h0 : -9223372036854775808 ≤ n) (h1 : n ≤ 9223372036854775807) (w : World) (ht : Tb w) (hx : Si.Txs w) :
    Calls Tryd.prog 19 #[.int .i32 k, .int .i64 n] w fun e w' => e = .returned (.tuple #[.string (wrV k n).1, .bool (wrV k n).2]) ∧ Below w.heap.size w w' := by
  by_cases hk : k = 107
  · have HF := Lib.hid (show wrV k n = (Si.textV (wrap64 (1 + n)), Si.isC n) by unfold wrV; rw [if_pos hk])
    rw [HF.out]
    subst hk
    have HX := Lib.hid hx
    clear h0 h1 ht hx
    go_enter Tryd.func19, Tryd.ntmps19
    go_wp2_with fail
    refine (Si.text_any (wrap64 (1 + n)) _ HX.out).mono ?_
    rintro e w1 ⟨rfl, rfl⟩
    go_wp2_with fail
    refine (Si.is_any n _).mono ?_
    rintro e w1 ⟨rfl, rfl⟩
    go_wp2_with fail
    go_ret2
    exact ⟨rfl, Below.refl _ _⟩
  · have HF := Lib.hid (show wrV k n = (decB n, true) by unfold wrV; rw [if_neg hk])
    rw [HF.out]
    have hq : (k == 107) = false := by simpa using hk
    have hq2 : (k != 107) = true := by simpa using hk
    have HD := Lib.hid (decimal_any n h0 h1 w ht)
    clear h0 h1 ht hx
    go_enter Tryd.func19, Tryd.ntmps19
    go_wp2_with fail
    refine HD.out.mono ?_
    rintro e w1 ⟨rfl, hb⟩
    have HB := Lib.hid hb
    clear hb
    go_wp2_with fail
    go_ret2
    exact ⟨rfl, HB.out⟩

theorem parN_bd (l : List UInt8) : 0 ≤ Si.parN l ∧ Si.parN l ≤ 8 := by
  unfold Si.parN
  cases h : Si.txs.findIdx? (· == l) with
  | none => simp
  | some i =>
    have h1 := (List.findIdx?_eq_some_iff_getElem.1 h).1
    have h2 : Si.txs.length = 9 := by decide
    simp only [Option.getD_some]
    omega

theorem read_any (k : Int) (s : ByteArray) (w : World) (hs : s.size ≤ 1000000) (he : Er w) (ht : Tb w) (hx : Si.Txs w) :
    Calls Tryd.prog 34 #[.int .i32 k, .string s] w fun e w' => e = .returned (.tuple #[.int .i64 (rdV k s).1, .bool (rdV k s).2]) ∧ Below w.heap.size w w' := by
  by_cases hk : k = 107
  · have hp := parN_bd s.data.toList
    have HF := Lib.hid (show rdV k s = (Si.clV (Si.parN s.data.toList), Si.clB (Si.parN s.data.toList)) by unfold rdV; rw [if_pos hk])
    rw [HF.out]
    subst hk
    have HP := Lib.hid (Si.parse_any s w hx)
    have HC := Lib.hid (Si.cl_any (Si.parN s.data.toList) (by omega) (by omega) w)
    generalize Si.parN s.data.toList = p at HP HC
    clear hs he ht hx hp
    go_enter Tryd.func34, Tryd.ntmps34
    go_wp2_with fail
    refine HP.out.mono ?_
    rintro e w1 ⟨rfl, rfl⟩
    go_wp2_with fail
    refine HC.out.mono ?_
    rintro e w1 ⟨rfl, rfl⟩
    go_wp2_with fail
    go_ret2
    exact ⟨rfl, Below.refl _ _⟩
  · have HF := Lib.hid (show rdV k s = numV s by unfold rdV; rw [if_neg hk])
    rw [HF.out]
    have hq : (k == 107) = false := by simpa using hk
    have hq2 : (k != 107) = true := by simpa using hk
    have HD := Lib.hid (number_any s w hs he ht)
    clear hs he ht hx
    go_enter Tryd.func34, Tryd.ntmps34
    go_wp2_with fail
    refine HD.out.mono ?_
    rintro e w1 ⟨rfl, hb⟩
    have HB := Lib.hid hb
    clear hb
    go_wp2_with fail
    go_ret2
    exact ⟨rfl, HB.out⟩
end Go.Proofs.YtnplhpbbdgnmiaaDoor.Ln
