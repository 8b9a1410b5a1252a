/-
  WALKS of layer 8: With, and the document's own.
-/
import Derived.Test.YtnplhpbbdgnmiaaDoorIa
namespace Go.Proofs.YtnplhpbbdgnmiaaDoor.By
open Go.ChangeShapes Go.WideShapes Go.ChangeAt Go.RowKit
open Mem

set_option maxHeartbeats 2000000 in
theorem with_any (o a b c n i m : Int) (w : World) : Calls Tryd.prog 35 #[.agg #[.int .i64 o, .int .i64 a, .int .i64 b, .int .i64 c, .int .i64 n], .int .i64 i, .int .i64 m] w fun e w' => e = .returned (.agg (withV o a b c n i m)) ∧ Below w.heap.size w w' := by
  have HP := Lib.hid (fun w => place_any i w)
  by_cases hi : i < 0 ∨ 3 < i
  · rw [show decide (0 ≤ i ∧ i ≤ 3) = false by simp; omega] at HP
    rw [with_out o a b c n i m hi]
    clear hi
    go_enter Tryd.func35, Tryd.ntmps35
    go_wp2_with (go_at_call 32; refine (HP.out _).mono ?_; rintro e w' ⟨rfl, rfl⟩)
    refine bodyPost_ret (results_cell_row Tryd.results35 _ _ (w.heap.size + 1) 23 (insC o a b c n) (0, 0) _ rfl (Blk.at_ _ _ (by simp)) Tryd.underlying23 rfl (by kernel_rfl)) rfl ⟨rfl, ?_⟩
    exact ((Below.refl _ _).alloc (Nat.le_refl _) _).alloc (by simp) _
  · rw [show decide (0 ≤ i ∧ i ≤ 3) = true by simp; omega] at HP
    have HA := Lib.hid (fun w => apart_any o a b c n w)
    have HT := Lib.hid (fun x0 x1 x2 x3 w => together_any o x0 x1 x2 x3 w)
    have hh : i = 0 ∨ i = 1 ∨ i = 2 ∨ i = 3 := by omega
    have D0 := (Blk.at_ (w := w) 23 (insC o a b c n) rfl).alloc (.cells (insC 0 0 0 0 0) 23)
    have D1 := Blk.at_ (w := w.alloc (.cells (insC o a b c n) 23)) (g := w.heap.size + 1) 23 (insC 0 0 0 0 0) (by simp)
    have D2 := ((Below.refl w.heap.size w).alloc (Nat.le_refl _) (.cells (insC o a b c n) 23)).alloc (by simp) (.cells (insC 0 0 0 0 0) 23)
    have H0 := Lib.hid D0
    have H1 := Lib.hid D1
    have H2 := Lib.hid D2
    clear hi D0 D1 D2
    rcases hh with rfl | rfl | rfl | rfl
    all_goals
      go_enter Tryd.func35, Tryd.ntmps35
      go_wp2_with fail
      refine (HP.out _).mono ?_
      rintro e w' ⟨rfl, rfl⟩
      go_wp2_with fail
      refine (HA.out _).mono ?_
      rintro e w1 ⟨rfl, hb⟩
      have hs1 : w.heap.size + 1 + 1 ≤ w1.heap.size := by simpa using hb.size
      have K0 := H0.out.below hb (by simp; omega)
      have K1 := Lib.hid (H1.out.below hb (by simp))
      have K2 := Lib.hid (H2.out.trans (hb.mono (by simp; omega)))
      have k0 : w1.cell? ⟨w.heap.size, 0, none⟩ = some (.int .i64 o) := by rw [K0.cell]; rfl
      have l0 : w.heap.size < w1.heap.size := by omega
      clear hb K0
      go_wp2_with fail
      refine (HT.out _ _ _ _ _).mono ?_
      rintro e w2 ⟨rfl, hb⟩
      have hs2 : w1.heap.size + 1 ≤ w2.heap.size := by simpa using hb.size
      have M1 := (K1.out.alloc _).below hb (by simp; omega)
      have HB := Lib.hid (K2.out.trans (((Below.refl w1.heap.size w1).alloc (Nat.le_refl _) _).trans (hb.mono (by simp)) |>.mono (by omega)))
      have m0 : w2.cell? ⟨w.heap.size + 1, 0, none⟩ = some (.int .i64 0) := by rw [M1.cell]; rfl
      have m1 : w2.cell? ⟨w.heap.size + 1, 1, none⟩ = some (.int .i64 0) := by rw [M1.cell]; rfl
      have m2 : w2.cell? ⟨w.heap.size + 1, 2, none⟩ = some (.int .i64 0) := by rw [M1.cell]; rfl
      have m3 : w2.cell? ⟨w.heap.size + 1, 3, none⟩ = some (.int .i64 0) := by rw [M1.cell]; rfl
      have m4 : w2.cell? ⟨w.heap.size + 1, 4, none⟩ = some (.int .i64 0) := by rw [M1.cell]; rfl
      have n0 : w2.frozen? ⟨w.heap.size + 1, 0, none⟩ = false := M1.frozen 0
      have n1 : w2.frozen? ⟨w.heap.size + 1, 1, none⟩ = false := M1.frozen 1
      have n2 : w2.frozen? ⟨w.heap.size + 1, 2, none⟩ = false := M1.frozen 2
      have n3 : w2.frozen? ⟨w.heap.size + 1, 3, none⟩ = false := M1.frozen 3
      have n4 : w2.frozen? ⟨w.heap.size + 1, 4, none⟩ = false := M1.frozen 4
      have l1 : w.heap.size + 1 < w2.heap.size := by omega
      clear hb M1 hs1 hs2 k0 l0
      unfold insC
      go_wp2_with fail
      refine bodyPost_ret (v := .agg (insC _ _ _ _ _)) ?_ rfl ⟨rfl, ?_⟩
      · simp [insC, results, Tryd.results35, go_sem, m0, m1, m2, m3, m4]
      · have hB := HB.out
        go_grown
end Go.Proofs.YtnplhpbbdgnmiaaDoor.By
