/-
  WALKS of layer 9: few, and the document's Texts, of lists that are alike.
-/
import Derived.Test.YtnplhpbbdgnmiaaGreatDoorLm
namespace Go.Proofs.YtnplhpbbdgnmiaaGreatDoor.Ln
open Go.RowKit
open Mem Go.Lib

def TrueAns (w : World) (e : Ending) (w' : World) : Prop := e = .returned (.bool true) ∧ Below w.heap.size w w'

theorem texts_same (w : World) (B B2 n c c2 : Nat) (A A2 : Option Addr) (l : List ByteArray) (hn : l.length = n) (h : SlV w B (.slice A n c) (strs l)) (h2 : SlV w B2 (.slice A2 n c2) (strs l)) (hl : n ≤ 1000000) :
    Calls Tryz.prog 9 #[.slice A n c, .slice A2 n c2] w (TrueAns w) := by
  have HC := Lib.hid (fun j (hj : j < n) => slv_cells hn h hj)
  have HC2 := Lib.hid (fun j (hj : j < n) => slv_cells hn h2 hj)
  clear h h2 hn
  go_enter Tryz.func9, Tryz.ntmps9
  go_wp2_with fail
  go_loopw [5] (fun i wr => ∃ k q : Nat, k ≤ n ∧ i = .int .i64 k ∧ wr = w.drewN q) (fun i _ => n - (intOf i).toNat)
  case atStart => exact ⟨0, 0, by omega, rfl, rfl⟩
  case round =>
    obtain ⟨k, q, hk, rfl, rfl⟩ := hrel
    by_cases hlt : k < n
    · obtain ⟨ad, x, rfl, e1, hx⟩ := HC.out k hlt
      obtain ⟨ad2, x2, rfl, e2, hx2⟩ := HC2.out k hlt
      rw [e1] at e2
      injection e2 with e2
      subst e2
      have hk0 : (0 : Int) ≤ (k : Int) := by omega
      have hkn : (k : Int) < (n : Int) := by omega
      clear e1
      go_wp2_with fail
      go_quiet (fail)
      go_wp2_with fail
      go_roundw
      case rel => exact ⟨k + 1, q + nq, by omega, by go_num, by first | rfl | exact World.drewN_drewN ..⟩
      case measure => simp [intOf]; omega
    · go_wp2_with fail
      go_ret
      exact ⟨rfl, Mem.below_drewN (Below.refl _ _) q⟩

def FewAns (l : List ByteArray) (w : World) (e : Ending) (w' : World) : Prop := ∃ bl, e = .returned (.bool bl) ∧ (bl = true → Few l 40 100) ∧ w = w'

theorem few_any (w : World) (n c : Nat) (A : Option Addr) (l : List ByteArray) (hn : l.length = n) (h : SlV w w.heap.size (.slice A n c) (strs l)) :
    Calls Tryz.prog 5 #[.slice A n c] w (FewAns l w) := by
  have hl : n ≤ 9223372036854775807 := by
    rcases h.inv with ⟨_, h0, _⟩ | ⟨ad, _, h1, h2, h3, _⟩
    · omega
    · unfold maxLen at h3; omega
  have HC := Lib.hid (fun j (hj : j < n) => slv_cells hn h hj)
  have HN := Lib.hid hn
  clear h hn
  go_enter Tryz.func5, Tryz.ntmps5
  go_wp2_with fail
  go_loop [3] (fun i => ∃ k : Nat, k ≤ n ∧ i = .int .i64 k ∧ Hid (∀ x ∈ l.take k, x.size ≤ 100)) (fun i => n - (intOf i).toNat)
  case atStart => exact ⟨0, by omega, rfl, Lib.hid (by simp)⟩
  case round =>
    obtain ⟨k, hk, rfl, HO⟩ := hrel
    by_cases hlt : k < n
    · obtain ⟨ad, x, rfl, hx, hc⟩ := HC.out k hlt
      have hkn : (k : Int) < (n : Int) := by omega
      have htk : l.take (k + 1) = l.take k ++ [x] := by
        obtain ⟨h1, h2⟩ := List.getElem?_eq_some_iff.1 hx
        rw [List.take_succ_eq_append_getElem h1, h2]
      by_cases hb : 100 < x.size
      · have hd : (100 : Int) < (x.size : Int) := by omega
        clear htk hx
        go_wp2_with fail
        go_ret
        exact ⟨false, rfl, fun h => (by cases h), rfl⟩
      · have hd : ¬ (100 : Int) < (x.size : Int) := by omega
        have HO2 := Lib.hid (show ∀ y ∈ l.take (k + 1), y.size ≤ 100 from fun y hy => by
          rw [htk] at hy
          rcases List.mem_append.1 hy with h | h
          · exact HO.out y h
          · rw [List.mem_singleton] at h; subst h; omega)
        clear htk hx
        go_wp2_with fail
        go_round
        case rel => exact ⟨k + 1, by omega, by go_num, HO2⟩
        case measure => simp [intOf]; omega
    · have HF := Lib.hid (show ∀ x ∈ l, x.size ≤ 100 by have h := HO.out; rwa [List.take_of_length_le (by rw [HN.out]; omega)] at h)
      have hkn : ¬ (k : Int) < (n : Int) := by omega
      obtain ⟨bl, hbl⟩ : ∃ bl, decide ((n : Int) ≤ 40) = bl := ⟨_, rfl⟩
      have HBL := Lib.hid (show bl = true → Few l 40 100 from fun h => ⟨by rw [← hbl, decide_eq_true_eq] at h; rw [HN.out]; omega, HF.out⟩)
      go_wp2_with fail
      go_ret
      exact ⟨bl, rfl, HBL.out, rfl⟩
end Go.Proofs.YtnplhpbbdgnmiaaGreatDoor.Ln
