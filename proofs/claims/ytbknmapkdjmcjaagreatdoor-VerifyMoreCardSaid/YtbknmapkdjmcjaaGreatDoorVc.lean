/-
  WALKS of layer 7: Find, and the document's own.
-/
import Derived.Test.YtbknmapkdjmcjaaGreatDoorVa
import Derived.IntWalk
namespace Go.Proofs.YtbknmapkdjmcjaaGreatDoor.By
open Go.RowKit

def fnV (l : List UInt8) : Int := ((nms.findIdx? (· == l)).getD 0 : Nat)

theorem fn_hit (l : List UInt8) (k : Nat) (hk : k < 29) (h : nms.getD k [] = l) : fnV l = k := by
  subst h
  have : k = 0 ∨ k = 1 ∨ k = 2 ∨ k = 3 ∨ k = 4 ∨ k = 5 ∨ k = 6 ∨ k = 7 ∨ k = 8 ∨ k = 9 ∨ k = 10 ∨ k = 11 ∨ k = 12 ∨ k = 13 ∨ k = 14 ∨ k = 15 ∨ k = 16 ∨ k = 17 ∨ k = 18 ∨ k = 19 ∨ k = 20 ∨ k = 21 ∨ k = 22 ∨ k = 23 ∨ k = 24 ∨ k = 25 ∨ k = 26 ∨ k = 27 ∨ k = 28 := by omega
  rcases this with rfl | rfl | rfl | rfl | rfl | rfl | rfl | rfl | rfl | rfl | rfl | rfl | rfl | rfl | rfl | rfl | rfl | rfl | rfl | rfl | rfl | rfl | rfl | rfl | rfl | rfl | rfl | rfl | rfl
  all_goals rfl

theorem fn_miss (l : List UInt8) (h : ∀ j, j < 29 → nms.getD j [] ≠ l) : fnV l = 0 := by
  have : nms.findIdx? (· == l) = none := by
    rw [List.findIdx?_eq_none_iff]
    intro x hx
    obtain ⟨j, hj, rfl⟩ := List.getElem_of_mem hx
    have := h j hj
    rw [beq_eq_false_iff_ne]
    intro e
    exact this (by rw [← e]; simp [List.getD, List.getElem?_eq_getElem hj])
  unfold fnV
  rw [this]
  rfl

theorem idx0 (w : World) : (Instr.index 287 (.agg #[.string (nmB 0), .string (nmB 1), .string (nmB 2), .string (nmB 3), .string (nmB 4), .string (nmB 5), .string (nmB 6), .string (nmB 7), .string (nmB 8), .string (nmB 9), .string (nmB 10), .string (nmB 11), .string (nmB 12), .string (nmB 13), .string (nmB 14), .string (nmB 15), .string (nmB 16), .string (nmB 17), .string (nmB 18), .string (nmB 19), .string (nmB 20), .string (nmB 21), .string (nmB 22), .string (nmB 23), .string (nmB 24), .string (nmB 25), .string (nmB 26), .string (nmB 27), .string (nmB 28)]) (.int .i64 0)).run Tryz.prog w = .ok (.string (nmB 0)) w := by kernel_rfl
theorem idx1 (w : World) : (Instr.index 287 (.agg #[.string (nmB 0), .string (nmB 1), .string (nmB 2), .string (nmB 3), .string (nmB 4), .string (nmB 5), .string (nmB 6), .string (nmB 7), .string (nmB 8), .string (nmB 9), .string (nmB 10), .string (nmB 11), .string (nmB 12), .string (nmB 13), .string (nmB 14), .string (nmB 15), .string (nmB 16), .string (nmB 17), .string (nmB 18), .string (nmB 19), .string (nmB 20), .string (nmB 21), .string (nmB 22), .string (nmB 23), .string (nmB 24), .string (nmB 25), .string (nmB 26), .string (nmB 27), .string (nmB 28)]) (.int .i64 1)).run Tryz.prog w = .ok (.string (nmB 1)) w := by kernel_rfl
theorem idx2 (w : World) : (Instr.index 287 (.agg #[.string (nmB 0), .string (nmB 1), .string (nmB 2), .string (nmB 3), .string (nmB 4), .string (nmB 5), .string (nmB 6), .string (nmB 7), .string (nmB 8), .string (nmB 9), .string (nmB 10), .string (nmB 11), .string (nmB 12), .string (nmB 13), .string (nmB 14), .string (nmB 15), .string (nmB 16), .string (nmB 17), .string (nmB 18), .string (nmB 19), .string (nmB 20), .string (nmB 21), .string (nmB 22), .string (nmB 23), .string (nmB 24), .string (nmB 25), .string (nmB 26), .string (nmB 27), .string (nmB 28)]) (.int .i64 2)).run Tryz.prog w = .ok (.string (nmB 2)) w := by kernel_rfl
theorem idx3 (w : World) : (Instr.index 287 (.agg #[.string (nmB 0), .string (nmB 1), .string (nmB 2), .string (nmB 3), .string (nmB 4), .string (nmB 5), .string (nmB 6), .string (nmB 7), .string (nmB 8), .string (nmB 9), .string (nmB 10), .string (nmB 11), .string (nmB 12), .string (nmB 13), .string (nmB 14), .string (nmB 15), .string (nmB 16), .string (nmB 17), .string (nmB 18), .string (nmB 19), .string (nmB 20), .string (nmB 21), .string (nmB 22), .string (nmB 23), .string (nmB 24), .string (nmB 25), .string (nmB 26), .string (nmB 27), .string (nmB 28)]) (.int .i64 3)).run Tryz.prog w = .ok (.string (nmB 3)) w := by kernel_rfl
theorem idx4 (w : World) : (Instr.index 287 (.agg #[.string (nmB 0), .string (nmB 1), .string (nmB 2), .string (nmB 3), .string (nmB 4), .string (nmB 5), .string (nmB 6), .string (nmB 7), .string (nmB 8), .string (nmB 9), .string (nmB 10), .string (nmB 11), .string (nmB 12), .string (nmB 13), .string (nmB 14), .string (nmB 15), .string (nmB 16), .string (nmB 17), .string (nmB 18), .string (nmB 19), .string (nmB 20), .string (nmB 21), .string (nmB 22), .string (nmB 23), .string (nmB 24), .string (nmB 25), .string (nmB 26), .string (nmB 27), .string (nmB 28)]) (.int .i64 4)).run Tryz.prog w = .ok (.string (nmB 4)) w := by kernel_rfl
theorem idx5 (w : World) : (Instr.index 287 (.agg #[.string (nmB 0), .string (nmB 1), .string (nmB 2), .string (nmB 3), .string (nmB 4), .string (nmB 5), .string (nmB 6), .string (nmB 7), .string (nmB 8), .string (nmB 9), .string (nmB 10), .string (nmB 11), .string (nmB 12), .string (nmB 13), .string (nmB 14), .string (nmB 15), .string (nmB 16), .string (nmB 17), .string (nmB 18), .string (nmB 19), .string (nmB 20), .string (nmB 21), .string (nmB 22), .string (nmB 23), .string (nmB 24), .string (nmB 25), .string (nmB 26), .string (nmB 27), .string (nmB 28)]) (.int .i64 5)).run Tryz.prog w = .ok (.string (nmB 5)) w := by kernel_rfl
theorem idx6 (w : World) : (Instr.index 287 (.agg #[.string (nmB 0), .string (nmB 1), .string (nmB 2), .string (nmB 3), .string (nmB 4), .string (nmB 5), .string (nmB 6), .string (nmB 7), .string (nmB 8), .string (nmB 9), .string (nmB 10), .string (nmB 11), .string (nmB 12), .string (nmB 13), .string (nmB 14), .string (nmB 15), .string (nmB 16), .string (nmB 17), .string (nmB 18), .string (nmB 19), .string (nmB 20), .string (nmB 21), .string (nmB 22), .string (nmB 23), .string (nmB 24), .string (nmB 25), .string (nmB 26), .string (nmB 27), .string (nmB 28)]) (.int .i64 6)).run Tryz.prog w = .ok (.string (nmB 6)) w := by kernel_rfl
theorem idx7 (w : World) : (Instr.index 287 (.agg #[.string (nmB 0), .string (nmB 1), .string (nmB 2), .string (nmB 3), .string (nmB 4), .string (nmB 5), .string (nmB 6), .string (nmB 7), .string (nmB 8), .string (nmB 9), .string (nmB 10), .string (nmB 11), .string (nmB 12), .string (nmB 13), .string (nmB 14), .string (nmB 15), .string (nmB 16), .string (nmB 17), .string (nmB 18), .string (nmB 19), .string (nmB 20), .string (nmB 21), .string (nmB 22), .string (nmB 23), .string (nmB 24), .string (nmB 25), .string (nmB 26), .string (nmB 27), .string (nmB 28)]) (.int .i64 7)).run Tryz.prog w = .ok (.string (nmB 7)) w := by kernel_rfl
theorem idx8 (w : World) : (Instr.index 287 (.agg #[.string (nmB 0), .string (nmB 1), .string (nmB 2), .string (nmB 3), .string (nmB 4), .string (nmB 5), .string (nmB 6), .string (nmB 7), .string (nmB 8), .string (nmB 9), .string (nmB 10), .string (nmB 11), .string (nmB 12), .string (nmB 13), .string (nmB 14), .string (nmB 15), .string (nmB 16), .string (nmB 17), .string (nmB 18), .string (nmB 19), .string (nmB 20), .string (nmB 21), .string (nmB 22), .string (nmB 23), .string (nmB 24), .string (nmB 25), .string (nmB 26), .string (nmB 27), .string (nmB 28)]) (.int .i64 8)).run Tryz.prog w = .ok (.string (nmB 8)) w := by kernel_rfl
theorem idx9 (w : World) : (Instr.index 287 (.agg #[.string (nmB 0), .string (nmB 1), .string (nmB 2), .string (nmB 3), .string (nmB 4), .string (nmB 5), .string (nmB 6), .string (nmB 7), .string (nmB 8), .string (nmB 9), .string (nmB 10), .string (nmB 11), .string (nmB 12), .string (nmB 13), .string (nmB 14), .string (nmB 15), .string (nmB 16), .string (nmB 17), .string (nmB 18), .string (nmB 19), .string (nmB 20), .string (nmB 21), .string (nmB 22), .string (nmB 23), .string (nmB 24), .string (nmB 25), .string (nmB 26), .string (nmB 27), .string (nmB 28)]) (.int .i64 9)).run Tryz.prog w = .ok (.string (nmB 9)) w := by kernel_rfl
theorem idx10 (w : World) : (Instr.index 287 (.agg #[.string (nmB 0), .string (nmB 1), .string (nmB 2), .string (nmB 3), .string (nmB 4), .string (nmB 5), .string (nmB 6), .string (nmB 7), .string (nmB 8), .string (nmB 9), .string (nmB 10), .string (nmB 11), .string (nmB 12), .string (nmB 13), .string (nmB 14), .string (nmB 15), .string (nmB 16), .string (nmB 17), .string (nmB 18), .string (nmB 19), .string (nmB 20), .string (nmB 21), .string (nmB 22), .string (nmB 23), .string (nmB 24), .string (nmB 25), .string (nmB 26), .string (nmB 27), .string (nmB 28)]) (.int .i64 10)).run Tryz.prog w = .ok (.string (nmB 10)) w := by kernel_rfl
theorem idx11 (w : World) : (Instr.index 287 (.agg #[.string (nmB 0), .string (nmB 1), .string (nmB 2), .string (nmB 3), .string (nmB 4), .string (nmB 5), .string (nmB 6), .string (nmB 7), .string (nmB 8), .string (nmB 9), .string (nmB 10), .string (nmB 11), .string (nmB 12), .string (nmB 13), .string (nmB 14), .string (nmB 15), .string (nmB 16), .string (nmB 17), .string (nmB 18), .string (nmB 19), .string (nmB 20), .string (nmB 21), .string (nmB 22), .string (nmB 23), .string (nmB 24), .string (nmB 25), .string (nmB 26), .string (nmB 27), .string (nmB 28)]) (.int .i64 11)).run Tryz.prog w = .ok (.string (nmB 11)) w := by kernel_rfl
theorem idx12 (w : World) : (Instr.index 287 (.agg #[.string (nmB 0), .string (nmB 1), .string (nmB 2), .string (nmB 3), .string (nmB 4), .string (nmB 5), .string (nmB 6), .string (nmB 7), .string (nmB 8), .string (nmB 9), .string (nmB 10), .string (nmB 11), .string (nmB 12), .string (nmB 13), .string (nmB 14), .string (nmB 15), .string (nmB 16), .string (nmB 17), .string (nmB 18), .string (nmB 19), .string (nmB 20), .string (nmB 21), .string (nmB 22), .string (nmB 23), .string (nmB 24), .string (nmB 25), .string (nmB 26), .string (nmB 27), .string (nmB 28)]) (.int .i64 12)).run Tryz.prog w = .ok (.string (nmB 12)) w := by kernel_rfl
theorem idx13 (w : World) : (Instr.index 287 (.agg #[.string (nmB 0), .string (nmB 1), .string (nmB 2), .string (nmB 3), .string (nmB 4), .string (nmB 5), .string (nmB 6), .string (nmB 7), .string (nmB 8), .string (nmB 9), .string (nmB 10), .string (nmB 11), .string (nmB 12), .string (nmB 13), .string (nmB 14), .string (nmB 15), .string (nmB 16), .string (nmB 17), .string (nmB 18), .string (nmB 19), .string (nmB 20), .string (nmB 21), .string (nmB 22), .string (nmB 23), .string (nmB 24), .string (nmB 25), .string (nmB 26), .string (nmB 27), .string (nmB 28)]) (.int .i64 13)).run Tryz.prog w = .ok (.string (nmB 13)) w := by kernel_rfl
theorem idx14 (w : World) : (Instr.index 287 (.agg #[.string (nmB 0), .string (nmB 1), .string (nmB 2), .string (nmB 3), .string (nmB 4), .string (nmB 5), .string (nmB 6), .string (nmB 7), .string (nmB 8), .string (nmB 9), .string (nmB 10), .string (nmB 11), .string (nmB 12), .string (nmB 13), .string (nmB 14), .string (nmB 15), .string (nmB 16), .string (nmB 17), .string (nmB 18), .string (nmB 19), .string (nmB 20), .string (nmB 21), .string (nmB 22), .string (nmB 23), .string (nmB 24), .string (nmB 25), .string (nmB 26), .string (nmB 27), .string (nmB 28)]) (.int .i64 14)).run Tryz.prog w = .ok (.string (nmB 14)) w := by kernel_rfl
theorem idx15 (w : World) : (Instr.index 287 (.agg #[.string (nmB 0), .string (nmB 1), .string (nmB 2), .string (nmB 3), .string (nmB 4), .string (nmB 5), .string (nmB 6), .string (nmB 7), .string (nmB 8), .string (nmB 9), .string (nmB 10), .string (nmB 11), .string (nmB 12), .string (nmB 13), .string (nmB 14), .string (nmB 15), .string (nmB 16), .string (nmB 17), .string (nmB 18), .string (nmB 19), .string (nmB 20), .string (nmB 21), .string (nmB 22), .string (nmB 23), .string (nmB 24), .string (nmB 25), .string (nmB 26), .string (nmB 27), .string (nmB 28)]) (.int .i64 15)).run Tryz.prog w = .ok (.string (nmB 15)) w := by kernel_rfl
theorem idx16 (w : World) : (Instr.index 287 (.agg #[.string (nmB 0), .string (nmB 1), .string (nmB 2), .string (nmB 3), .string (nmB 4), .string (nmB 5), .string (nmB 6), .string (nmB 7), .string (nmB 8), .string (nmB 9), .string (nmB 10), .string (nmB 11), .string (nmB 12), .string (nmB 13), .string (nmB 14), .string (nmB 15), .string (nmB 16), .string (nmB 17), .string (nmB 18), .string (nmB 19), .string (nmB 20), .string (nmB 21), .string (nmB 22), .string (nmB 23), .string (nmB 24), .string (nmB 25), .string (nmB 26), .string (nmB 27), .string (nmB 28)]) (.int .i64 16)).run Tryz.prog w = .ok (.string (nmB 16)) w := by kernel_rfl
theorem idx17 (w : World) : (Instr.index 287 (.agg #[.string (nmB 0), .string (nmB 1), .string (nmB 2), .string (nmB 3), .string (nmB 4), .string (nmB 5), .string (nmB 6), .string (nmB 7), .string (nmB 8), .string (nmB 9), .string (nmB 10), .string (nmB 11), .string (nmB 12), .string (nmB 13), .string (nmB 14), .string (nmB 15), .string (nmB 16), .string (nmB 17), .string (nmB 18), .string (nmB 19), .string (nmB 20), .string (nmB 21), .string (nmB 22), .string (nmB 23), .string (nmB 24), .string (nmB 25), .string (nmB 26), .string (nmB 27), .string (nmB 28)]) (.int .i64 17)).run Tryz.prog w = .ok (.string (nmB 17)) w := by kernel_rfl
theorem idx18 (w : World) : (Instr.index 287 (.agg #[.string (nmB 0), .string (nmB 1), .string (nmB 2), .string (nmB 3), .string (nmB 4), .string (nmB 5), .string (nmB 6), .string (nmB 7), .string (nmB 8), .string (nmB 9), .string (nmB 10), .string (nmB 11), .string (nmB 12), .string (nmB 13), .string (nmB 14), .string (nmB 15), .string (nmB 16), .string (nmB 17), .string (nmB 18), .string (nmB 19), .string (nmB 20), .string (nmB 21), .string (nmB 22), .string (nmB 23), .string (nmB 24), .string (nmB 25), .string (nmB 26), .string (nmB 27), .string (nmB 28)]) (.int .i64 18)).run Tryz.prog w = .ok (.string (nmB 18)) w := by kernel_rfl
theorem idx19 (w : World) : (Instr.index 287 (.agg #[.string (nmB 0), .string (nmB 1), .string (nmB 2), .string (nmB 3), .string (nmB 4), .string (nmB 5), .string (nmB 6), .string (nmB 7), .string (nmB 8), .string (nmB 9), .string (nmB 10), .string (nmB 11), .string (nmB 12), .string (nmB 13), .string (nmB 14), .string (nmB 15), .string (nmB 16), .string (nmB 17), .string (nmB 18), .string (nmB 19), .string (nmB 20), .string (nmB 21), .string (nmB 22), .string (nmB 23), .string (nmB 24), .string (nmB 25), .string (nmB 26), .string (nmB 27), .string (nmB 28)]) (.int .i64 19)).run Tryz.prog w = .ok (.string (nmB 19)) w := by kernel_rfl
theorem idx20 (w : World) : (Instr.index 287 (.agg #[.string (nmB 0), .string (nmB 1), .string (nmB 2), .string (nmB 3), .string (nmB 4), .string (nmB 5), .string (nmB 6), .string (nmB 7), .string (nmB 8), .string (nmB 9), .string (nmB 10), .string (nmB 11), .string (nmB 12), .string (nmB 13), .string (nmB 14), .string (nmB 15), .string (nmB 16), .string (nmB 17), .string (nmB 18), .string (nmB 19), .string (nmB 20), .string (nmB 21), .string (nmB 22), .string (nmB 23), .string (nmB 24), .string (nmB 25), .string (nmB 26), .string (nmB 27), .string (nmB 28)]) (.int .i64 20)).run Tryz.prog w = .ok (.string (nmB 20)) w := by kernel_rfl
theorem idx21 (w : World) : (Instr.index 287 (.agg #[.string (nmB 0), .string (nmB 1), .string (nmB 2), .string (nmB 3), .string (nmB 4), .string (nmB 5), .string (nmB 6), .string (nmB 7), .string (nmB 8), .string (nmB 9), .string (nmB 10), .string (nmB 11), .string (nmB 12), .string (nmB 13), .string (nmB 14), .string (nmB 15), .string (nmB 16), .string (nmB 17), .string (nmB 18), .string (nmB 19), .string (nmB 20), .string (nmB 21), .string (nmB 22), .string (nmB 23), .string (nmB 24), .string (nmB 25), .string (nmB 26), .string (nmB 27), .string (nmB 28)]) (.int .i64 21)).run Tryz.prog w = .ok (.string (nmB 21)) w := by kernel_rfl
theorem idx22 (w : World) : (Instr.index 287 (.agg #[.string (nmB 0), .string (nmB 1), .string (nmB 2), .string (nmB 3), .string (nmB 4), .string (nmB 5), .string (nmB 6), .string (nmB 7), .string (nmB 8), .string (nmB 9), .string (nmB 10), .string (nmB 11), .string (nmB 12), .string (nmB 13), .string (nmB 14), .string (nmB 15), .string (nmB 16), .string (nmB 17), .string (nmB 18), .string (nmB 19), .string (nmB 20), .string (nmB 21), .string (nmB 22), .string (nmB 23), .string (nmB 24), .string (nmB 25), .string (nmB 26), .string (nmB 27), .string (nmB 28)]) (.int .i64 22)).run Tryz.prog w = .ok (.string (nmB 22)) w := by kernel_rfl
theorem idx23 (w : World) : (Instr.index 287 (.agg #[.string (nmB 0), .string (nmB 1), .string (nmB 2), .string (nmB 3), .string (nmB 4), .string (nmB 5), .string (nmB 6), .string (nmB 7), .string (nmB 8), .string (nmB 9), .string (nmB 10), .string (nmB 11), .string (nmB 12), .string (nmB 13), .string (nmB 14), .string (nmB 15), .string (nmB 16), .string (nmB 17), .string (nmB 18), .string (nmB 19), .string (nmB 20), .string (nmB 21), .string (nmB 22), .string (nmB 23), .string (nmB 24), .string (nmB 25), .string (nmB 26), .string (nmB 27), .string (nmB 28)]) (.int .i64 23)).run Tryz.prog w = .ok (.string (nmB 23)) w := by kernel_rfl
theorem idx24 (w : World) : (Instr.index 287 (.agg #[.string (nmB 0), .string (nmB 1), .string (nmB 2), .string (nmB 3), .string (nmB 4), .string (nmB 5), .string (nmB 6), .string (nmB 7), .string (nmB 8), .string (nmB 9), .string (nmB 10), .string (nmB 11), .string (nmB 12), .string (nmB 13), .string (nmB 14), .string (nmB 15), .string (nmB 16), .string (nmB 17), .string (nmB 18), .string (nmB 19), .string (nmB 20), .string (nmB 21), .string (nmB 22), .string (nmB 23), .string (nmB 24), .string (nmB 25), .string (nmB 26), .string (nmB 27), .string (nmB 28)]) (.int .i64 24)).run Tryz.prog w = .ok (.string (nmB 24)) w := by kernel_rfl
theorem idx25 (w : World) : (Instr.index 287 (.agg #[.string (nmB 0), .string (nmB 1), .string (nmB 2), .string (nmB 3), .string (nmB 4), .string (nmB 5), .string (nmB 6), .string (nmB 7), .string (nmB 8), .string (nmB 9), .string (nmB 10), .string (nmB 11), .string (nmB 12), .string (nmB 13), .string (nmB 14), .string (nmB 15), .string (nmB 16), .string (nmB 17), .string (nmB 18), .string (nmB 19), .string (nmB 20), .string (nmB 21), .string (nmB 22), .string (nmB 23), .string (nmB 24), .string (nmB 25), .string (nmB 26), .string (nmB 27), .string (nmB 28)]) (.int .i64 25)).run Tryz.prog w = .ok (.string (nmB 25)) w := by kernel_rfl
theorem idx26 (w : World) : (Instr.index 287 (.agg #[.string (nmB 0), .string (nmB 1), .string (nmB 2), .string (nmB 3), .string (nmB 4), .string (nmB 5), .string (nmB 6), .string (nmB 7), .string (nmB 8), .string (nmB 9), .string (nmB 10), .string (nmB 11), .string (nmB 12), .string (nmB 13), .string (nmB 14), .string (nmB 15), .string (nmB 16), .string (nmB 17), .string (nmB 18), .string (nmB 19), .string (nmB 20), .string (nmB 21), .string (nmB 22), .string (nmB 23), .string (nmB 24), .string (nmB 25), .string (nmB 26), .string (nmB 27), .string (nmB 28)]) (.int .i64 26)).run Tryz.prog w = .ok (.string (nmB 26)) w := by kernel_rfl
theorem idx27 (w : World) : (Instr.index 287 (.agg #[.string (nmB 0), .string (nmB 1), .string (nmB 2), .string (nmB 3), .string (nmB 4), .string (nmB 5), .string (nmB 6), .string (nmB 7), .string (nmB 8), .string (nmB 9), .string (nmB 10), .string (nmB 11), .string (nmB 12), .string (nmB 13), .string (nmB 14), .string (nmB 15), .string (nmB 16), .string (nmB 17), .string (nmB 18), .string (nmB 19), .string (nmB 20), .string (nmB 21), .string (nmB 22), .string (nmB 23), .string (nmB 24), .string (nmB 25), .string (nmB 26), .string (nmB 27), .string (nmB 28)]) (.int .i64 27)).run Tryz.prog w = .ok (.string (nmB 27)) w := by kernel_rfl
theorem idx28 (w : World) : (Instr.index 287 (.agg #[.string (nmB 0), .string (nmB 1), .string (nmB 2), .string (nmB 3), .string (nmB 4), .string (nmB 5), .string (nmB 6), .string (nmB 7), .string (nmB 8), .string (nmB 9), .string (nmB 10), .string (nmB 11), .string (nmB 12), .string (nmB 13), .string (nmB 14), .string (nmB 15), .string (nmB 16), .string (nmB 17), .string (nmB 18), .string (nmB 19), .string (nmB 20), .string (nmB 21), .string (nmB 22), .string (nmB 23), .string (nmB 24), .string (nmB 25), .string (nmB 26), .string (nmB 27), .string (nmB 28)]) (.int .i64 28)).run Tryz.prog w = .ok (.string (nmB 28)) w := by kernel_rfl

theorem idx (k : Nat) (hk : k < 29) (w : World) : (Instr.index 287 (.agg #[.string (nmB 0), .string (nmB 1), .string (nmB 2), .string (nmB 3), .string (nmB 4), .string (nmB 5), .string (nmB 6), .string (nmB 7), .string (nmB 8), .string (nmB 9), .string (nmB 10), .string (nmB 11), .string (nmB 12), .string (nmB 13), .string (nmB 14), .string (nmB 15), .string (nmB 16), .string (nmB 17), .string (nmB 18), .string (nmB 19), .string (nmB 20), .string (nmB 21), .string (nmB 22), .string (nmB 23), .string (nmB 24), .string (nmB 25), .string (nmB 26), .string (nmB 27), .string (nmB 28)]) (.int .i64 k)).run Tryz.prog w = .ok (.string (nmB k)) w := by
  have : k = 0 ∨ k = 1 ∨ k = 2 ∨ k = 3 ∨ k = 4 ∨ k = 5 ∨ k = 6 ∨ k = 7 ∨ k = 8 ∨ k = 9 ∨ k = 10 ∨ k = 11 ∨ k = 12 ∨ k = 13 ∨ k = 14 ∨ k = 15 ∨ k = 16 ∨ k = 17 ∨ k = 18 ∨ k = 19 ∨ k = 20 ∨ k = 21 ∨ k = 22 ∨ k = 23 ∨ k = 24 ∨ k = 25 ∨ k = 26 ∨ k = 27 ∨ k = 28 := by omega
  rcases this with rfl | rfl | rfl | rfl | rfl | rfl | rfl | rfl | rfl | rfl | rfl | rfl | rfl | rfl | rfl | rfl | rfl | rfl | rfl | rfl | rfl | rfl | rfl | rfl | rfl | rfl | rfl | rfl | rfl
  · exact idx0 w
  · exact idx1 w
  · exact idx2 w
  · exact idx3 w
  · exact idx4 w
  · exact idx5 w
  · exact idx6 w
  · exact idx7 w
  · exact idx8 w
  · exact idx9 w
  · exact idx10 w
  · exact idx11 w
  · exact idx12 w
  · exact idx13 w
  · exact idx14 w
  · exact idx15 w
  · exact idx16 w
  · exact idx17 w
  · exact idx18 w
  · exact idx19 w
  · exact idx20 w
  · exact idx21 w
  · exact idx22 w
  · exact idx23 w
  · exact idx24 w
  · exact idx25 w
  · exact idx26 w
  · exact idx27 w
  · exact idx28 w

theorem wpList_load_any {P : Program} {ops : Array Oper} {rest : List Oper} {o : Oper} {a : Act} {w : World} {Q : Exit → Act → World → Prop} (hgd : o.guard = none) (ty : TypeId) (x : Operand) (ho : o.op = .load ty x)
    (ad : Addr) (hx : a.eval x = .pointer (some ad)) (v : Value) (hl : (loadVar ty ad).run P w = .ok v w)
    (h : wpList P ops Q rest (a.put o.dst v) w) : wpList P ops Q (o :: rest) a w :=
  wpList_plain hgd fun _ hK => by
    unfold Oper.wp execOp
    simp only [ho, hx, Instr.loadAt, Instr.sureAddr, Sem.run_bind, Sem.run_pure, Result.andThen_ok, hl]
    exact hK _ _ h

theorem loadVar_cells {P : Program} {w : World} (ty : TypeId) (d : TypeDesc) (ad : Addr) (vs : List Value) (hu : P.underlying ty = some d) (hd : (match d with | .struct _ | .array _ _ => true | _ => false) = true)
    (hi : (P.info? ty).map (·.size) = some vs.length) (hc : ∀ j v, vs[j]? = some v → w.cell? (ad.add j) = some v) : (loadVar ty ad).run P w = .ok (.agg vs.toArray) w := by
  have hl := run_loadCells_list (P := P) w ad vs hc
  cases hq : P.info? ty with
  | none => simp [hq] at hi
  | some i =>
    have hs : i.size = vs.length := by simpa [hq] using hi
    have hagg : (isAgg ty).run P w = .ok true w := by
      unfold isAgg
      rw [Sem.run_bind, run_underlying hu w]
      cases d <;> simp_all
    simp [loadVar, Sem.run_bind, hagg, sizeOf, typeInfo, hq, hs, hl]

def nmG : List Value := [.string (nmB 0), .string (nmB 1), .string (nmB 2), .string (nmB 3), .string (nmB 4), .string (nmB 5), .string (nmB 6), .string (nmB 7), .string (nmB 8), .string (nmB 9), .string (nmB 10), .string (nmB 11), .string (nmB 12), .string (nmB 13), .string (nmB 14), .string (nmB 15), .string (nmB 16), .string (nmB 17), .string (nmB 18), .string (nmB 19), .string (nmB 20), .string (nmB 21), .string (nmB 22), .string (nmB 23), .string (nmB 24), .string (nmB 25), .string (nmB 26), .string (nmB 27), .string (nmB 28)]

theorem load_names {w : World} (h : Txs w) : ∃ G, Hid ((loadVar 287 ⟨2, 0, none⟩).run Tryz.prog w = .ok G w) ∧ Hid (∀ k : Nat, k < 29 → ∀ w', (Instr.index 287 G (.int .i64 k)).run Tryz.prog w' = .ok (.string (nmB k)) w') :=
  ⟨_, Lib.hid (loadVar_cells 287 _ ⟨2, 0, none⟩ nmG Tryz.underlying287 rfl (by kernel_rfl) (fun j v hv => by
    have hj : j < 29 := (List.getElem?_eq_some_iff.1 hv).1
    have hadd : (⟨2, 0, none⟩ : Addr).add j = ⟨2, j, none⟩ := by unfold Addr.add; split <;> simp_all
    have hn : nmG[j]? = some (.string (nmB j)) := by
      have : j = 0 ∨ j = 1 ∨ j = 2 ∨ j = 3 ∨ j = 4 ∨ j = 5 ∨ j = 6 ∨ j = 7 ∨ j = 8 ∨ j = 9 ∨ j = 10 ∨ j = 11 ∨ j = 12 ∨ j = 13 ∨ j = 14 ∨ j = 15 ∨ j = 16 ∨ j = 17 ∨ j = 18 ∨ j = 19 ∨ j = 20 ∨ j = 21 ∨ j = 22 ∨ j = 23 ∨ j = 24 ∨ j = 25 ∨ j = 26 ∨ j = 27 ∨ j = 28 := by omega
      rcases this with rfl | rfl | rfl | rfl | rfl | rfl | rfl | rfl | rfl | rfl | rfl | rfl | rfl | rfl | rfl | rfl | rfl | rfl | rfl | rfl | rfl | rfl | rfl | rfl | rfl | rfl | rfl | rfl | rfl
      all_goals rfl
    rw [hadd, h.1 j hj, ← hv, hn])), Lib.hid idx⟩

end Go.Proofs.YtbknmapkdjmcjaaGreatDoor.By
