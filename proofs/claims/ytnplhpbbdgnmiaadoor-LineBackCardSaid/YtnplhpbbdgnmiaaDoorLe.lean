/-
  WALK of layer 9: the document's own Words.
-/
import Derived.Test.YtnplhpbbdgnmiaaDoorLd
namespace Go.Proofs.YtnplhpbbdgnmiaaDoor.Ln
open Go.RowKit
open Mem

/-- The state behind k bytes, the end of the text counting as a blank. -/
def wst (s : ByteArray) (k : Nat) : List (Nat × Nat) × Nat := if k ≤ s.size then spB s k else (spAll s, s.size + 1)

theorem spB_count (s : ByteArray) : ∀ i, (spB s i).1.length ≤ i
  | 0 => Nat.le_refl _
  | i + 1 => by
    have := spB_count s i
    rw [spB]
    split
    · split
      · simp; omega
      · show (spB s i).1.length ≤ i + 1
        omega
    · omega

theorem wst_le (s : ByteArray) (k : Nat) (h : k ≤ s.size) : wst s k = spB s k := by rw [wst, if_pos h]
/-- One byte more. -/
theorem wst_put (s : ByteArray) (k : Nat) {l : List (Nat × Nat)} {a : Nat} (hk : k ≤ s.size) (h : wst s k = (l, a)) (hb : k = s.size ∨ at_ s k = 32) (ha : a < k) : wst s (k + 1) = (l ++ [(a, k)], k + 1) := by
  rw [wst_le s k hk] at h
  by_cases e : k = s.size
  · subst e
    rw [wst, if_neg (by omega), spAll, h, if_pos ha]
  · rw [wst, if_pos (by omega), spB, if_pos (by rcases hb with hb | hb; exact absurd hb e; exact hb), h, if_pos ha]
theorem wst_drop (s : ByteArray) (k : Nat) {l : List (Nat × Nat)} {a : Nat} (hk : k ≤ s.size) (h : wst s k = (l, a)) (hb : k = s.size ∨ at_ s k = 32) (ha : ¬ a < k) : wst s (k + 1) = (l, k + 1) := by
  rw [wst_le s k hk] at h
  by_cases e : k = s.size
  · subst e
    rw [wst, if_neg (by omega), spAll, h, if_neg ha]
  · rw [wst, if_pos (by omega), spB, if_pos (by rcases hb with hb | hb; exact absurd hb e; exact hb), h, if_neg ha]
theorem wst_on (s : ByteArray) (k : Nat) {l : List (Nat × Nat)} {a : Nat} (hk : k < s.size) (h : wst s k = (l, a)) (hb : at_ s k ≠ 32) : wst s (k + 1) = (l, a) := by
  rw [wst_le s k (by omega)] at h
  rw [wst, if_pos (by omega), spB, if_neg hb, h]

set_option maxRecDepth 100000 in
set_option maxHeartbeats 2000000 in
theorem rwords_any (s : ByteArray) (w : World) (hs : s.size ≤ 1000000) : Calls Tryd.prog 11 #[.string s] w (TAns (wordsL s) w) := by
  obtain ⟨i0, hi0, hz0, hz1, hz2⟩ := info_parts infoS
  have HSZ := Lib.hid hs
  clear hs
  go_enter Tryd.func11, Tryd.ntmps11
  go_wp2_with fail
  go_loopw [3, 4, 5] (fun ov at' i wr => ∃ (k a : Nat) (l : List (Nat × Nat)), k ≤ s.size + 1 ∧ i = .int .i64 k ∧ at' = .int .i64 a ∧ Hid (wst s k = (l, a)) ∧ a ≤ k ∧ wr.ownsRow w.heap.size 9 1 ov (strs (l.map (pc s))).length (strs (l.map (pc s))) ∧ Below w.heap.size w wr) (fun _ _ i _ => s.size + 1 - (intOf i).toNat)
  case atStart => exact ⟨0, 0, [], by omega, rfl, rfl, Lib.hid (by rw [wst_le s 0 (by omega)]; rfl), by omega, World.ownsRow_nil _ _ _ _, Below.refl _ _⟩
  case round =>
    obtain ⟨k, a, l, hk, rfl, rfl, HL, hak, hown, hbel⟩ := hrel
    have HO := Lib.hid hown
    have HB := Lib.hid hbel
    clear hown hbel
    have hs6 := HSZ.out
    by_cases hlt : k ≤ s.size
    · have hlk : l.length ≤ k := by have := spB_count s k; rw [← wst_le s k hlt, HL.out] at this; exact this
      have D1 := Lib.hid (show (strs (l.map (pc s))).length + (strs [s.extract a k]).length ≤ maxLen by simp [strs]; unfold maxLen; omega)
      have D2 := Lib.hid (show ((strs (l.map (pc s))).length + (strs [s.extract a k]).length) * 16 ≤ 140737488355328 by simp [strs]; omega)
      have D3 := Lib.hid (show w.heap.size ≤ (wr.alloc (.cells #[.string (s.extract a k)] 9)).heap.size by have := HB.out.size; simp; omega)
      have HO2 := Lib.hid (own_keep (w' := wr.alloc (.cells #[.string (s.extract a k)] 9)) HO.out fun g _ hg => Below.heap_alloc _ _ _ hg)
      have hHB2 := Lib.hid (HB.out.alloc HB.out.size (.cells #[.string (s.extract a k)] 9))
      clear hlk
      have hkI : (k : Int) ≤ (s.size : Int) := by omega
      by_cases he : k = s.size
      · have heq : ((k : Int) == (s.size : Int)) = true := eq_true (by omega)
        by_cases ha : a < k
        · have HN := Lib.hid (wst_put s k hlt HL.out (.inl he) ha)
          have ha' : (a : Int) < (k : Int) := by omega
          clear he
          go_wp2_with (at_builtin; refine wpList_append_slv _ rfl (.tmp 25) (.tmp 30) _ rfl w.heap.size 9 i0 (.string ByteArray.empty) 16 Tryd.underlying24 hi0 hz0 hz1 hz2 rfl _ _ rfl HO2.out _ (.slice (some ⟨wr.heap.size, 0, none⟩) 1 1) (strs [s.extract a k]) rfl (one_slv _ _) (strs_one _) D1.out D2.out D3.out ?_; intro v1 w1 hown1 hg1)
          have HO3 := Lib.hid hown1
          have HB3 := Lib.hid (hHB2.out.grown hg1 D3.out (fun r e => (HO2.out.lt r e).1))
          clear hown1 hg1
          go_roundw
          case rel => exact ⟨k + 1, k + 1, l ++ [(a, k)], by omega, by go_num, by go_num, HN, by omega, by simpa [strs, pc] using HO3.out, HB3.out⟩
          case measure => simp [intOf]; omega
        · have HN := Lib.hid (wst_drop s k hlt HL.out (.inl he) ha)
          have ha' : ¬ (a : Int) < (k : Int) := by omega
          clear he HO2 hHB2
          go_wp2_with fail
          go_roundw
          case rel => exact ⟨k + 1, k + 1, l, by omega, by go_num, by go_num, HN, by omega, HO.out, HB.out⟩
          case measure => simp [intOf]; omega
      · have heq : ((k : Int) == (s.size : Int)) = false := eq_false (by omega)
        have hks : k < s.size := by omega
        have hks' : (k : Int) < (s.size : Int) := by omega
        by_cases hb : at_ s k = 32
        · have hq : (((s[k]'hks).toNat : Int) == 32) = true := eq_true (by rw [at_sk s k hks] at hb; omega)
          by_cases ha : a < k
          · have HN := Lib.hid (wst_put s k hlt HL.out (.inr hb) ha)
            have ha' : (a : Int) < (k : Int) := by omega
            clear he hb
            go_wp2_with (at_builtin; refine wpList_append_slv _ rfl (.tmp 25) (.tmp 30) _ rfl w.heap.size 9 i0 (.string ByteArray.empty) 16 Tryd.underlying24 hi0 hz0 hz1 hz2 rfl _ _ rfl HO2.out _ (.slice (some ⟨wr.heap.size, 0, none⟩) 1 1) (strs [s.extract a k]) rfl (one_slv _ _) (strs_one _) D1.out D2.out D3.out ?_; intro v1 w1 hown1 hg1)
            have HO3 := Lib.hid hown1
            have HB3 := Lib.hid (hHB2.out.grown hg1 D3.out (fun r e => (HO2.out.lt r e).1))
            clear hown1 hg1
            go_roundw
            case rel => exact ⟨k + 1, k + 1, l ++ [(a, k)], by omega, by go_num, by go_num, HN, by omega, by simpa [strs, pc] using HO3.out, HB3.out⟩
            case measure => simp [intOf]; omega
          · have HN := Lib.hid (wst_drop s k hlt HL.out (.inr hb) ha)
            have ha' : ¬ (a : Int) < (k : Int) := by omega
            clear he hb HO2 hHB2
            go_wp2_with fail
            go_roundw
            case rel => exact ⟨k + 1, k + 1, l, by omega, by go_num, by go_num, HN, by omega, HO.out, HB.out⟩
            case measure => simp [intOf]; omega
        · have hq : (((s[k]'hks).toNat : Int) == 32) = false := eq_false (by rw [at_sk s k hks] at hb; omega)
          have HN := Lib.hid (wst_on s k hks HL.out hb)
          clear he hb HO2 hHB2
          go_wp2_with fail
          go_roundw
          case rel => exact ⟨k + 1, a, l, by omega, by go_num, rfl, HN, by omega, HO.out, HB.out⟩
          case measure => simp [intOf]; omega
    · obtain rfl : k = s.size + 1 := by omega
      have HF := Lib.hid (show wordsL s = l.map (pc s) by
        have h := HL.out
        rw [wst, if_neg (by omega)] at h
        have h1 : spAll s = l := congrArg Prod.fst h
        unfold wordsL; rw [h1]; rfl)
      have hkI : ¬ (((s.size + 1 : Nat) : Int) ≤ (s.size : Int)) := by omega
      go_wp2_with fail
      go_ret
      exact ⟨_, rfl, by rw [HF.out]; simpa [strs] using HO.out, HB.out⟩
end Go.Proofs.YtnplhpbbdgnmiaaDoor.Ln
