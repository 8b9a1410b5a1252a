/-
  WALKS of layer 9: the document's own Split and Words.
-/
import Derived.Test.YtnplhpbbdgnmiaaGreatDoorLc
import Derived.Test.YtnplhpbbdgnmiaaGreatDoorMem
import Derived.Test.YtnplhpbbdgnmiaaGreatDoorAp
import Derived.WalkKit
import Derived.ProofKit
import Derived.Lib.Hide
import Derived.BigQuiet
import Derived.Deep.QuietTactic
import Derived.LoopTactic
import Derived.IntWalk
import Derived.WalkLawsBesides
namespace Go.Proofs.YtnplhpbbdgnmiaaGreatDoor.Ln
open Go.RowKit
open Mem

def strs (l : List ByteArray) : List Value := l.map Value.string
theorem strs_snoc (l : List ByteArray) (x : ByteArray) : strs (l ++ [x]) = strs l ++ [.string x] := by simp [strs]
theorem strs_length (l : List ByteArray) : (strs l).length = l.length := by simp [strs]

theorem infoS : (Tryz.prog.info? 9).map (fun i => (i.zero, i.size, i.bytes)) = some (some (.string ByteArray.empty), 1, 16) := by kernel_rfl
theorem info_parts {P : Program} {t : TypeId} {z : Value} {a b : Nat} (h : (P.info? t).map (fun i => (i.zero, i.size, i.bytes)) = some (some z, a, b)) : ∃ i, P.info? t = some i ∧ i.zero = some z ∧ i.size = a ∧ i.bytes = b := by
  cases hi : P.info? t with
  | none => rw [hi] at h; simp at h
  | some i => rw [hi] at h; simp at h; exact ⟨i, rfl, h.1, h.2.1, h.2.2⟩

theorem own_keep {w w' : World} {base : Nat} {E : TypeId} {v : Value} {n : Nat} {xs : List Value} (h : w.ownsRow base E 1 v n xs) (hk : ∀ g, base ≤ g → g < w.heap.size → w'.heap[g]? = w.heap[g]?) : w'.ownsRow base E 1 v n xs := by
  refine ⟨h.1, ?_⟩
  rcases h.2 with h2 | ⟨g, cap, cur, hv, h3, h4, r⟩
  · exact .inl h2
  · exact .inr ⟨g, cap, cur, hv, h3, (hk g h3 (by rw [Array.getElem?_eq_some_iff] at h4; exact h4.1)).trans h4, r⟩

/-- A text built in a block of its own, as a list of one. -/
theorem one_slv (w : World) (x : ByteArray) : SlV (w.alloc (.cells #[.string x] 9)) (w.heap.size + 1) (.slice (some ⟨w.heap.size, 0, none⟩) 1 1) (strs [x]) :=
  SlV.new w [.string x] 9 (by simp [maxLen])
theorem strs_one (x : ByteArray) : ∀ y ∈ strs [x], y.oneCell' = true := fun y hy => by
  simp [strs] at hy; subst hy; rfl

theorem at_sk (s : ByteArray) (k : Nat) (h : k < s.size) : at_ s k = (s[k]'h).toNat := by
  rw [at_get s k h]; simp [ByteArray.getElem_eq_getElem_data]
theorem eq_true {a : Nat} {c : Int} (h : (a : Int) = c) : ((a : Int) == c) = true := by simpa using h
theorem eq_false {a : Nat} {c : Int} (h : ¬ (a : Int) = c) : ((a : Int) == c) = false := by simpa using h

def TAns (l : List ByteArray) (w : World) (e : Ending) (w' : World) : Prop := ∃ v, e = .returned v ∧ w'.ownsRow w.heap.size 9 1 v l.length (strs l) ∧ Below w.heap.size w w'

theorem lsB_count (s : ByteArray) : ∀ i, (lsB s i).1.length ≤ i
  | 0 => Nat.le_refl _
  | i + 1 => by
    have := lsB_count s i
    rw [lsB]
    split
    · simp; omega
    · omega

set_option maxRecDepth 100000 in
set_option maxHeartbeats 2000000 in
theorem rsplit_any (s : ByteArray) (w : World) (hs : s.size ≤ 1000000) : Calls Tryz.prog 11 #[.string s] w (TAns (linesL s) w) := by
  obtain ⟨i0, hi0, hz0, hz1, hz2⟩ := info_parts infoS
  have HSZ := Lib.hid hs
  clear hs
  go_enter Tryz.func11, Tryz.ntmps11
  go_wp2_with fail
  go_loopw [3, 4, 5] (fun ov at' i wr => ∃ (k a : Nat) (l : List (Nat × Nat)), k ≤ s.size ∧ i = .int .i64 k ∧ at' = .int .i64 a ∧ Hid (lsB s k = (l, a)) ∧ a ≤ k ∧ wr.ownsRow w.heap.size 9 1 ov (strs (l.map (pc s))).length (strs (l.map (pc s))) ∧ Below w.heap.size w wr) (fun _ _ i _ => s.size - (intOf i).toNat)
  case atStart => exact ⟨0, 0, [], by omega, rfl, rfl, Lib.hid rfl, by omega, World.ownsRow_nil _ _ _ _, Below.refl _ _⟩
  case round =>
    obtain ⟨k, a, l, hk, rfl, rfl, HL, hak, hown, hbel⟩ := hrel
    have HO := Lib.hid hown
    have HB := Lib.hid hbel
    clear hown hbel
    have hlk : l.length ≤ k := by have := lsB_count s k; rw [HL.out] at this; exact this
    have hs6 := HSZ.out
    have D1 := Lib.hid (show (strs (l.map (pc s))).length + (strs [s.extract a k]).length ≤ maxLen by simp [strs]; unfold maxLen; omega)
    have D2 := Lib.hid (show ((strs (l.map (pc s))).length + (strs [s.extract a k]).length) * 16 ≤ 140737488355328 by simp [strs]; omega)
    have D3 := Lib.hid (show w.heap.size ≤ (wr.alloc (.cells #[.string (s.extract a k)] 9)).heap.size by have := HB.out.size; simp; omega)
    have HO2 := Lib.hid (own_keep (w' := wr.alloc (.cells #[.string (s.extract a k)] 9)) HO.out fun g _ hg => Below.heap_alloc _ _ _ hg)
    have hHB2 := Lib.hid (HB.out.alloc HB.out.size (.cells #[.string (s.extract a k)] 9))
    clear hlk hs6
    by_cases hlt : k < s.size
    · have hks' : (k : Int) < (s.size : Int) := by omega
      have hs6 := HSZ.out
      by_cases hb : at_ s k = 10
      · have hq : (((s[k]'hlt).toNat : Int) == 10) = true := eq_true (by rw [at_sk s k hlt] at hb; omega)
        have HN := Lib.hid (show lsB s (k + 1) = (l ++ [(a, k)], k + 1) by rw [lsB, if_pos hb, HL.out])
        clear hb
        go_wp2_with (at_builtin; refine wpList_append_slv _ rfl (.tmp 16) (.tmp 21) _ rfl w.heap.size 9 i0 (.string ByteArray.empty) 16 Tryz.underlying22 hi0 hz0 hz1 hz2 rfl _ _ rfl HO2.out _ (.slice (some ⟨wr.heap.size, 0, none⟩) 1 1) (strs [s.extract a k]) rfl (one_slv _ _) (strs_one _) D1.out D2.out D3.out ?_; intro v1 w1 hown1 hg1)
        have HO3 := Lib.hid hown1
        have HB3 := Lib.hid (hHB2.out.grown hg1 D3.out (fun r e => (HO2.out.lt r e).1))
        clear hown1 hg1
        go_roundw
        case rel => exact ⟨k + 1, k + 1, l ++ [(a, k)], by omega, by go_num, by go_num, HN, by omega, by simpa [strs, pc] using HO3.out, HB3.out⟩
        case measure => simp [intOf]; omega
      · have hq : (((s[k]'hlt).toNat : Int) == 10) = false := eq_false (by rw [at_sk s k hlt] at hb; omega)
        have HN := Lib.hid (show lsB s (k + 1) = (l, a) by rw [lsB, if_neg hb, HL.out])
        clear hb HO2 hHB2
        go_wp2_with fail
        go_roundw
        case rel => exact ⟨k + 1, a, l, by omega, by go_num, rfl, HN, by omega, HO.out, HB.out⟩
        case measure => simp [intOf]; omega
    · obtain rfl : k = s.size := by omega
      by_cases hat : a < s.size
      · have HF := Lib.hid (show linesL s = l.map (pc s) ++ [s.extract a s.size] by
          unfold linesL; rw [HL.out, if_pos hat]; simp [pc])
        have hat' : (a : Int) < (s.size : Int) := by omega
        go_wp2_with (at_builtin; refine wpList_append_slv _ rfl (.tmp 29) (.tmp 33) _ rfl w.heap.size 9 i0 (.string ByteArray.empty) 16 Tryz.underlying22 hi0 hz0 hz1 hz2 rfl _ _ rfl HO2.out _ (.slice (some ⟨wr.heap.size, 0, none⟩) 1 1) (strs [s.extract a s.size]) rfl (one_slv _ _) (strs_one _) D1.out D2.out D3.out ?_; intro v1 w1 hown1 hg1)
        have HO3 := Lib.hid hown1
        have HB3 := Lib.hid (hHB2.out.grown hg1 D3.out (fun r e => (HO2.out.lt r e).1))
        clear hown1 hg1
        go_ret
        exact ⟨_, rfl, by rw [HF.out]; simpa [strs] using HO3.out, HB3.out⟩
      · have HF := Lib.hid (show linesL s = l.map (pc s) by
          unfold linesL; rw [HL.out, if_neg hat])
        have hat' : ¬ (a : Int) < (s.size : Int) := by omega
        clear HO2 hHB2
        go_wp2_with fail
        go_ret
        exact ⟨_, rfl, by rw [HF.out]; simpa [strs] using HO.out, HB.out⟩
end Go.Proofs.YtnplhpbbdgnmiaaGreatDoor.Ln
