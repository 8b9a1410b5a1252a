/-
  WALKS of layer 8: operands, the small calls, and the document's own.
-/
import Derived.Test.YtnplhpbbdgnmiaaDoorVb
import Derived.Test.YtnplhpbbdgnmiaaDoorVc
import Derived.Test.YtnplhpbbdgnmiaaDoorMem
import Derived.Laws.BytesArg
import Derived.Laws.EntriesVeiled
import Derived.Handy
namespace Go.Proofs.YtnplhpbbdgnmiaaDoor.By
open Go.ChangeShapes Go.WideShapes Go.ChangeAt Go.RowKit
open Mem

/-- An instruction's cells, and those of its operands. -/
def insC (o a b c n : Int) : Array Value := #[.int .i64 o, .int .i64 a, .int .i64 b, .int .i64 c, .int .i64 n]
def aptC (a b c n : Int) : Array Value := #[.int .i64 a, .int .i64 b, .int .i64 c, .int .i64 n]
/-- The operand at a place. -/
def opdV (a b c n i : Int) : Int := if i = 0 then a else if i = 1 then b else if i = 2 then c else if i = 3 then n else 0
def withV (o a b c n i m : Int) : Array Value := if i = 0 then insC o m b c n else if i = 1 then insC o a m c n else if i = 2 then insC o a b m n else if i = 3 then insC o a b c m else insC o a b c n
def frmC : Array Value := #[.int .i64 0, .int .i64 255, .int .i64 1, .func (.func 43) #[] #[], .int .i64 0, .int .i64 255, .int .i64 1, .func (.func 43) #[] #[],
  .int .i64 0, .int .i64 255, .int .i64 1, .func (.func 43) #[] #[], .int .i64 (-2147483648), .int .i64 2147483647, .int .i64 4, .func (.func 44) #[] #[]]

theorem four (i : Int) : i < 0 ∨ 3 < i ∨ i = 0 ∨ i = 1 ∨ i = 2 ∨ i = 3 := by omega

theorem opd_out (a b c n i : Int) (h : i < 0 ∨ 3 < i) : opdV a b c n i = 0 := by
  unfold opdV
  rw [if_neg (by omega), if_neg (by omega), if_neg (by omega), if_neg (by omega)]

theorem with_out (o a b c n i m : Int) (h : i < 0 ∨ 3 < i) : withV o a b c n i m = insC o a b c n := by
  unfold withV
  rw [if_neg (by omega), if_neg (by omega), if_neg (by omega), if_neg (by omega)]

theorem Blk.at_ {w : World} {g : Nat} (t : TypeId) (cs : Array Value) (h : w.heap.size = g) : Blk (w.alloc (.cells cs t)) g t cs := by
  subst h
  exact Blk.new w t cs

theorem ix0 (a b c n : Int) (w : World) : (Instr.index 56 (.agg #[.int .i64 a, .int .i64 b, .int .i64 c, .int .i64 n]) (.int .i64 0)).run Tryd.prog w = .ok (.int .i64 a) w := by kernel_rfl
theorem ix1 (a b c n : Int) (w : World) : (Instr.index 56 (.agg #[.int .i64 a, .int .i64 b, .int .i64 c, .int .i64 n]) (.int .i64 1)).run Tryd.prog w = .ok (.int .i64 b) w := by kernel_rfl
theorem ix2 (a b c n : Int) (w : World) : (Instr.index 56 (.agg #[.int .i64 a, .int .i64 b, .int .i64 c, .int .i64 n]) (.int .i64 2)).run Tryd.prog w = .ok (.int .i64 c) w := by kernel_rfl
theorem ix3 (a b c n : Int) (w : World) : (Instr.index 56 (.agg #[.int .i64 a, .int .i64 b, .int .i64 c, .int .i64 n]) (.int .i64 3)).run Tryd.prog w = .ok (.int .i64 n) w := by kernel_rfl

theorem apart_any (o a b c n : Int) (w : World) : Calls Tryd.prog 28 #[.agg #[.int .i64 o, .int .i64 a, .int .i64 b, .int .i64 c, .int .i64 n]] w fun e w' => e = .returned (.agg #[.int .i64 a, .int .i64 b, .int .i64 c, .int .i64 n]) ∧ Below w.heap.size w w' := by
  go_enter Tryd.func28, Tryd.ntmps28
  go_wp2
  refine bodyPost_ret (results_cell_row Tryd.results28 _ _ (w.heap.size + 1) 56 (aptC a b c n) (0, 0) _ rfl (Blk.at_ _ _ (by simp)) Tryd.underlying56 rfl (by kernel_rfl)) rfl ⟨rfl, ?_⟩
  exact ((Below.refl _ _).alloc (Nat.le_refl _) _).alloc (by simp) _

theorem forms_any (w : World) : Calls Tryd.prog 29 #[] w fun e w' => e = .returned (.agg frmC) ∧ Below w.heap.size w w' := by
  go_enter Tryd.func29, Tryd.ntmps29
  go_wp2
  refine bodyPost_ret (results_cell_row Tryd.results29 _ _ w.heap.size 61 frmC (0, 0) _ rfl (((Blk.new w 61 frmC).alloc _).alloc _) Tryd.underlying61 rfl (by kernel_rfl)) rfl ⟨rfl, ?_⟩
  exact (((Below.refl _ _).alloc (Nat.le_refl _) _).alloc (by simp) _).alloc (by simp; omega) _

theorem together_any (o a b c n : Int) (w : World) : Calls Tryd.prog 48 #[.int .i64 o, .agg #[.int .i64 a, .int .i64 b, .int .i64 c, .int .i64 n]] w fun e w' => e = .returned (.agg (insC o a b c n)) ∧ Below w.heap.size w w' := by
  go_enter Tryd.func48, Tryd.ntmps48
  go_wp2
  refine bodyPost_ret (results_cell_row Tryd.results48 _ _ (w.heap.size + 1) 23 (insC o a b c n) (0, 0) _ rfl (Blk.at_ _ _ (by simp)) Tryd.underlying23 rfl (by kernel_rfl)) rfl ⟨rfl, ?_⟩
  exact ((Below.refl _ _).alloc (Nat.le_refl _) _).alloc (by simp) _

theorem place_any (i : Int) (w : World) : Calls Tryd.prog 32 #[.int .i64 i] w fun e w' => e = .returned (.bool (decide (0 ≤ i ∧ i ≤ 3))) ∧ w = w' := by
  have hb : (decide (0 ≤ i) = false ∧ decide (0 ≤ i ∧ i ≤ 3) = false) ∨ (decide (0 ≤ i) = true ∧ decide (i < 4) = false ∧ decide (0 ≤ i ∧ i ≤ 3) = false) ∨ (decide (0 ≤ i) = true ∧ decide (i < 4) = true ∧ decide (0 ≤ i ∧ i ≤ 3) = true) := by
    by_cases h1 : 0 ≤ i
    · by_cases h2 : i < 4
      · right; right; exact ⟨by simpa using h1, by simpa using h2, by simp; omega⟩
      · right; left; exact ⟨by simpa using h1, by simpa using h2, by simp; omega⟩
    · left; exact ⟨by simpa using h1, by simp; omega⟩
  rcases hb with ⟨h1, h2⟩ | ⟨h1, h3, h2⟩ | ⟨h1, h3, h2⟩
  all_goals rw [h2]
  all_goals clear h2
  all_goals
    go_enter Tryd.func32, Tryd.ntmps32
    go_wp2
    all_goals go_ret
    all_goals exact ⟨rfl, rfl⟩

theorem operand_any (o a b c n i : Int) (w : World) : Calls Tryd.prog 20 #[.agg #[.int .i64 o, .int .i64 a, .int .i64 b, .int .i64 c, .int .i64 n], .int .i64 i] w fun e w' => e = .returned (.int .i64 (opdV a b c n i)) ∧ Below w.heap.size w w' := by
  have HA := Lib.hid (fun w => apart_any o a b c n w)
  have HP := Lib.hid (fun w => place_any i w)
  have hout : i < 0 ∨ 3 < i → decide (0 ≤ i ∧ i ≤ 3) = false ∧ opdV a b c n i = 0 := fun h => ⟨by simp; omega, opd_out a b c n i h⟩
  rcases four i with h | h | rfl | rfl | rfl | rfl
  · have hx := hout (.inl h)
    rw [hx.1] at HP
    rw [hx.2]
    clear hx hout h
    go_enter Tryd.func20, Tryd.ntmps20
    go_wp2_with (go_at_call 32; refine (HP.out _).mono ?_; rintro e w' ⟨rfl, rfl⟩)
    go_ret
    exact ⟨rfl, (Below.refl _ _).alloc (Nat.le_refl _) _⟩
  · have hx := hout (.inr h)
    rw [hx.1] at HP
    rw [hx.2]
    clear hx hout h
    go_enter Tryd.func20, Tryd.ntmps20
    go_wp2_with (go_at_call 32; refine (HP.out _).mono ?_; rintro e w' ⟨rfl, rfl⟩)
    go_ret
    exact ⟨rfl, (Below.refl _ _).alloc (Nat.le_refl _) _⟩
  all_goals clear hout
  all_goals
    have i0 := ix0 a b c n
    have i1 := ix1 a b c n
    have i2 := ix2 a b c n
    have i3 := ix3 a b c n
    go_enter Tryd.func20, Tryd.ntmps20
    go_wp2_with fail
    refine (HP.out _).mono ?_
    rintro e w' ⟨rfl, rfl⟩
    go_wp2_with fail
    refine (HA.out _).mono ?_
    rintro e w1 ⟨rfl, hb⟩
    go_wp2_with fail
    go_ret
    exact ⟨rfl, ((Below.refl _ _).alloc (Nat.le_refl _) _).trans (hb.mono (by simp))⟩

end Go.Proofs.YtnplhpbbdgnmiaaDoor.By
