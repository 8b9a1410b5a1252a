/-
  WALKS of layer 8: which instructions may be: the plain words.
-/
import Derived.Test.YtbknmapkdjmcjaaGreatDoorIb
import Derived.Lib.OthersKept
import Derived.Laws.RangeAny
namespace Go.Proofs.YtbknmapkdjmcjaaGreatDoor.By
open Go.ChangeShapes Go.WideShapes Go.ChangeAt Go.RowKit
open Mem

theorem inside (n : Int) (h : 1 ≤ n ∧ n ≤ 28) : (nmV n).data.toList ≠ [] ∧ fnV (nmV n).data.toList = n ∧
    ((ownV n = true ∧ ndV n = 0 ∧ ∃ a b c d, shV n = ⟨#[a, b, c, d]⟩) ∨ (ownV n = true ∧ decide (0 < ndV n) = true ∧ ∃ a b c, shV n = ⟨#[a, b, c, 45]⟩) ∨ (ownV n = false ∧ shV n = ⟨#[]⟩ ∧ ndV n = 0)) := by
  have : n = 1 ∨ n = 2 ∨ n = 3 ∨ n = 4 ∨ n = 5 ∨ n = 6 ∨ n = 7 ∨ n = 8 ∨ n = 9 ∨ n = 10 ∨ n = 11 ∨ n = 12 ∨ n = 13 ∨ n = 14 ∨ n = 15 ∨ n = 16 ∨ n = 17 ∨ n = 18 ∨ n = 19 ∨ n = 20 ∨ n = 21 ∨ n = 22 ∨ n = 23 ∨ n = 24 ∨ n = 25 ∨ n = 26 ∨ n = 27 ∨ n = 28 := by omega
  rcases this with rfl | rfl | rfl | rfl | rfl | rfl | rfl | rfl | rfl | rfl | rfl | rfl | rfl | rfl | rfl | rfl | rfl | rfl | rfl | rfl | rfl | rfl | rfl | rfl | rfl | rfl | rfl | rfl
  · exact ⟨by decide, fn_hit _ 1 (by decide) rfl, .inl ⟨rfl, rfl, _, _, _, _, rfl⟩⟩
  · exact ⟨by decide, fn_hit _ 2 (by decide) rfl, .inl ⟨rfl, rfl, _, _, _, _, rfl⟩⟩
  · exact ⟨by decide, fn_hit _ 3 (by decide) rfl, .inl ⟨rfl, rfl, _, _, _, _, rfl⟩⟩
  · exact ⟨by decide, fn_hit _ 4 (by decide) rfl, .inl ⟨rfl, rfl, _, _, _, _, rfl⟩⟩
  · exact ⟨by decide, fn_hit _ 5 (by decide) rfl, .inl ⟨rfl, rfl, _, _, _, _, rfl⟩⟩
  · exact ⟨by decide, fn_hit _ 6 (by decide) rfl, .inl ⟨rfl, rfl, _, _, _, _, rfl⟩⟩
  · exact ⟨by decide, fn_hit _ 7 (by decide) rfl, .inl ⟨rfl, rfl, _, _, _, _, rfl⟩⟩
  · exact ⟨by decide, fn_hit _ 8 (by decide) rfl, .inl ⟨rfl, rfl, _, _, _, _, rfl⟩⟩
  · exact ⟨by decide, fn_hit _ 9 (by decide) rfl, .inl ⟨rfl, rfl, _, _, _, _, rfl⟩⟩
  · exact ⟨by decide, fn_hit _ 10 (by decide) rfl, .inl ⟨rfl, rfl, _, _, _, _, rfl⟩⟩
  · exact ⟨by decide, fn_hit _ 11 (by decide) rfl, .inl ⟨rfl, rfl, _, _, _, _, rfl⟩⟩
  · exact ⟨by decide, fn_hit _ 12 (by decide) rfl, .inl ⟨rfl, rfl, _, _, _, _, rfl⟩⟩
  · exact ⟨by decide, fn_hit _ 13 (by decide) rfl, .inl ⟨rfl, rfl, _, _, _, _, rfl⟩⟩
  · exact ⟨by decide, fn_hit _ 14 (by decide) rfl, .inl ⟨rfl, rfl, _, _, _, _, rfl⟩⟩
  · exact ⟨by decide, fn_hit _ 15 (by decide) rfl, .inr (.inl ⟨rfl, rfl, _, _, _, rfl⟩)⟩
  · exact ⟨by decide, fn_hit _ 16 (by decide) rfl, .inr (.inl ⟨rfl, rfl, _, _, _, rfl⟩)⟩
  · exact ⟨by decide, fn_hit _ 17 (by decide) rfl, .inr (.inl ⟨rfl, rfl, _, _, _, rfl⟩)⟩
  · exact ⟨by decide, fn_hit _ 18 (by decide) rfl, .inr (.inl ⟨rfl, rfl, _, _, _, rfl⟩)⟩
  · exact ⟨by decide, fn_hit _ 19 (by decide) rfl, .inr (.inl ⟨rfl, rfl, _, _, _, rfl⟩)⟩
  · exact ⟨by decide, fn_hit _ 20 (by decide) rfl, .inl ⟨rfl, rfl, _, _, _, _, rfl⟩⟩
  · exact ⟨by decide, fn_hit _ 21 (by decide) rfl, .inr (.inl ⟨rfl, rfl, _, _, _, rfl⟩)⟩
  · exact ⟨by decide, fn_hit _ 22 (by decide) rfl, .inl ⟨rfl, rfl, _, _, _, _, rfl⟩⟩
  · exact ⟨by decide, fn_hit _ 23 (by decide) rfl, .inl ⟨rfl, rfl, _, _, _, _, rfl⟩⟩
  · exact ⟨by decide, fn_hit _ 24 (by decide) rfl, .inl ⟨rfl, rfl, _, _, _, _, rfl⟩⟩
  · exact ⟨by decide, fn_hit _ 25 (by decide) rfl, .inr (.inr ⟨rfl, rfl, rfl⟩)⟩
  · exact ⟨by decide, fn_hit _ 26 (by decide) rfl, .inr (.inr ⟨rfl, rfl, rfl⟩)⟩
  · exact ⟨by decide, fn_hit _ 27 (by decide) rfl, .inr (.inr ⟨rfl, rfl, rfl⟩)⟩
  · exact ⟨by decide, fn_hit _ 28 (by decide) rfl, .inr (.inr ⟨rfl, rfl, rfl⟩)⟩

theorem outside (n : Int) (h : ¬ (1 ≤ n ∧ n ≤ 28)) : nmV n = ⟨#[]⟩ ∧ shV n = ⟨#[]⟩ ∧ ownV n = false ∧ ndV n = 0 ∧ enV n = false := by
  unfold nmV shV ownV ndV enV
  refine ⟨by rw [if_neg h], by rw [if_neg (by omega)], decide_eq_false (by omega), ?_, decide_eq_false (by omega)⟩
  repeat' split
  all_goals first | rfl | omega

set_option maxHeartbeats 4000000 in

def lstV (k : Nat) : Int := if k = 3 then -2147483648 else 0
def mstV (k : Nat) : Int := if k = 3 then 2147483647 else 255
def widV (k : Nat) : Int := if k = 3 then 4 else 1
def rdF (k : Nat) : Nat := if k = 3 then 269 else 190
/-- Within its bounds. -/
def inV (a b c n : Int) (k : Nat) : Prop := lstV k ≤ opdV a b c n k ∧ opdV a b c n k ≤ mstV k
/-- Not 0, though its letter is '-'. -/
def argV (o a b c n : Int) (k : Nat) : Prop := (shV o).data.toList[k]? = some 45 ∧ opdV a b c n k ≠ 0

open Classical in
noncomputable def chV (o a b c n : Int) : Int :=
  if ¬ (1 ≤ o ∧ o ≤ 28) then 8 else if ∀ k, k < 4 → inV a b c n k then (if ∀ k, k < 4 → ¬ argV o a b c n k then 0 else 2) else 9

theorem ch_kind {o a b c n : Int} (h : ¬ (1 ≤ o ∧ o ≤ 28)) : chV o a b c n = 8 := by unfold chV; rw [if_pos h]
theorem ch_range {o a b c n : Int} (h : 1 ≤ o ∧ o ≤ 28) (k : Nat) (hk : k < 4) (hx : ¬ inV a b c n k) : chV o a b c n = 9 := by
  unfold chV; rw [if_neg (by simpa using h), if_neg (fun h => hx (h k hk))]
theorem ch_arg {o a b c n : Int} (h : 1 ≤ o ∧ o ≤ 28) (hin : ∀ k, k < 4 → inV a b c n k) (k : Nat) (hk : k < 4) (hx : argV o a b c n k) : chV o a b c n = 2 := by
  unfold chV; rw [if_neg (by simpa using h), if_pos hin, if_neg (fun h => h k hk hx)]
theorem ch_ok {o a b c n : Int} (h : 1 ≤ o ∧ o ≤ 28) (hin : ∀ k, k < 4 → inV a b c n k) (hx : ∀ k, k < 4 → ¬ argV o a b c n k) : chV o a b c n = 0 := by
  unfold chV; rw [if_neg (by simpa using h), if_pos hin, if_pos hx]

theorem quad (k : Nat) (h : k < 4) : k = 0 ∨ k = 1 ∨ k = 2 ∨ k = 3 := by omega

theorem apt_at (a b c n : Int) (k : Nat) (h : k < 4) : (aptC a b c n)[k]? = some (.int .i64 (opdV a b c n k)) := by
  rcases quad k h with rfl | rfl | rfl | rfl <;> rfl

theorem idf (k : Nat) (h : k < 4) (w : World) : (Instr.index 230 (.agg frmC) (.int .i64 k)).run Tryz.prog w = .ok (.agg #[.int .i64 (lstV k), .int .i64 (mstV k), .int .i64 (widV k), .func (.func (rdF k)) #[] #[]]) w := by
  rcases quad k h with rfl | rfl | rfl | rfl
  · exact (show (Instr.index 230 (.agg frmC) (.int .i64 0)).run Tryz.prog w = .ok (.agg #[.int .i64 0, .int .i64 255, .int .i64 1, .func (.func 190) #[] #[]]) w by kernel_rfl)
  · exact (show (Instr.index 230 (.agg frmC) (.int .i64 1)).run Tryz.prog w = .ok (.agg #[.int .i64 0, .int .i64 255, .int .i64 1, .func (.func 190) #[] #[]]) w by kernel_rfl)
  · exact (show (Instr.index 230 (.agg frmC) (.int .i64 2)).run Tryz.prog w = .ok (.agg #[.int .i64 0, .int .i64 255, .int .i64 1, .func (.func 190) #[] #[]]) w by kernel_rfl)
  · exact (show (Instr.index 230 (.agg frmC) (.int .i64 3)).run Tryz.prog w = .ok (.agg #[.int .i64 (-2147483648), .int .i64 2147483647, .int .i64 4, .func (.func 269) #[] #[]]) w by kernel_rfl)

theorem list_eq (a b : ByteArray) (h : a.data.toList = b.data.toList) : a = b := by
  obtain ⟨⟨a⟩⟩ := a
  obtain ⟨⟨b⟩⟩ := b
  simp at h
  rw [h]

theorem name_ne {o : Int} (h : 1 ≤ o ∧ o ≤ 28) : (ByteArray.toList (nmV o)).isEmpty = false ∧ ¬ ByteArray.toList (nmV o) = [] := by
  have := (inside o h).1
  constructor
  · rw [ByteArray.toList_eq, List.isEmpty_eq_false_iff]; exact this
  · rw [ByteArray.toList_eq]; exact this

/-- A shape: four letters, or none; all of them below 128. -/
theorem shape_small (o : Int) : ((shV o).data.toList = [] ∨ (shV o).data.toList.length = 4) ∧ ∀ j (h : j < (shV o).data.toList.length), ((shV o).data.toList[j]).toNat < 128 := by
  unfold shV
  by_cases h : 1 ≤ o ∧ o ≤ 24
  · rw [if_pos h]
    have h2 : ∀ m, m < 25 → 0 < m → (shB m).data.toList.length = 4 ∧ ∀ j (h : j < (shB m).data.toList.length), ((shB m).data.toList[j]).toNat < 128 := by decide
    exact ⟨.inr (h2 _ (by omega) (by omega)).1, (h2 _ (by omega) (by omega)).2⟩
  · rw [if_neg h]
    exact ⟨.inl rfl, fun j hj => by simp at hj⟩

theorem iterPos_of {w : World} {k : Nat} {s : ByteArray} {p : Nat} (h : w.heap[k]? = some (.stringIter s p)) : w.iterPos k = p := by simp [World.iterPos, h]
end Go.Proofs.YtbknmapkdjmcjaaGreatDoor.By
