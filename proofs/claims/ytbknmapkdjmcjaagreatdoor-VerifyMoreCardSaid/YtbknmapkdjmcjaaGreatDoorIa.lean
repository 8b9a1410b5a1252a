/-
  WALKS of layer 8: operands, the small calls, and the document's own.
-/
import Derived.Test.YtbknmapkdjmcjaaGreatDoorVb
import Derived.Test.YtbknmapkdjmcjaaGreatDoorVc
import Derived.Test.YtbknmapkdjmcjaaGreatDoorRg
import Derived.Test.YtbknmapkdjmcjaaGreatDoorHm
import Derived.Laws.BytesArg
import Derived.Laws.EntriesVeiled
import Derived.Handy
namespace Go.Proofs.YtbknmapkdjmcjaaGreatDoor.By
open Go.ChangeShapes Go.WideShapes Go.ChangeAt Go.RowKit
open Mem

/-- An instruction's cells, and those of its operands. -/
def insC (o a b c n : Int) : Array Value := #[.int .i64 o, .int .i64 a, .int .i64 b, .int .i64 c, .int .i64 n]
def aptC (a b c n : Int) : Array Value := #[.int .i64 a, .int .i64 b, .int .i64 c, .int .i64 n]
/-- The operand at a place. -/
def opdV (a b c n i : Int) : Int := if i = 0 then a else if i = 1 then b else if i = 2 then c else if i = 3 then n else 0
def withV (o a b c n i m : Int) : Array Value := if i = 0 then insC o m b c n else if i = 1 then insC o a m c n else if i = 2 then insC o a b m n else if i = 3 then insC o a b c m else insC o a b c n
def frmC : Array Value := #[.int .i64 0, .int .i64 255, .int .i64 1, .func (.func 190) #[] #[], .int .i64 0, .int .i64 255, .int .i64 1, .func (.func 190) #[] #[],
  .int .i64 0, .int .i64 255, .int .i64 1, .func (.func 190) #[] #[], .int .i64 (-2147483648), .int .i64 2147483647, .int .i64 4, .func (.func 269) #[] #[]]

theorem four (i : Int) : i < 0 ∨ 3 < i ∨ i = 0 ∨ i = 1 ∨ i = 2 ∨ i = 3 := by omega

theorem opd_out (a b c n i : Int) (h : i < 0 ∨ 3 < i) : opdV a b c n i = 0 := by
  unfold opdV
  rw [if_neg (by omega), if_neg (by omega), if_neg (by omega), if_neg (by omega)]

theorem with_out (o a b c n i m : Int) (h : i < 0 ∨ 3 < i) : withV o a b c n i m = insC o a b c n := by
  unfold withV
  rw [if_neg (by omega), if_neg (by omega), if_neg (by omega), if_neg (by omega)]

theorem Blk.at_ {w : World} {g : Nat} (t : TypeId) (cs : Array Value) (h : w.heap.size = g) : Blk (w.alloc (.cells cs t)) g t cs := by
  subst h
  exact Blk.new w t cs

theorem ix0 (a b c n : Int) (w : World) : (Instr.index 181 (.agg #[.int .i64 a, .int .i64 b, .int .i64 c, .int .i64 n]) (.int .i64 0)).run Tryz.prog w = .ok (.int .i64 a) w := by kernel_rfl
theorem ix1 (a b c n : Int) (w : World) : (Instr.index 181 (.agg #[.int .i64 a, .int .i64 b, .int .i64 c, .int .i64 n]) (.int .i64 1)).run Tryz.prog w = .ok (.int .i64 b) w := by kernel_rfl
theorem ix2 (a b c n : Int) (w : World) : (Instr.index 181 (.agg #[.int .i64 a, .int .i64 b, .int .i64 c, .int .i64 n]) (.int .i64 2)).run Tryz.prog w = .ok (.int .i64 c) w := by kernel_rfl
theorem ix3 (a b c n : Int) (w : World) : (Instr.index 181 (.agg #[.int .i64 a, .int .i64 b, .int .i64 c, .int .i64 n]) (.int .i64 3)).run Tryz.prog w = .ok (.int .i64 n) w := by kernel_rfl

theorem apart_any (o a b c n : Int) (w : World) : Calls Tryz.prog 218 #[.agg #[.int .i64 o, .int .i64 a, .int .i64 b, .int .i64 c, .int .i64 n]] w fun e w' => e = .returned (.agg #[.int .i64 a, .int .i64 b, .int .i64 c, .int .i64 n]) ∧ Below w.heap.size w w' := by
  go_enter Tryz.func218, Tryz.ntmps218
  go_wp2
  refine bodyPost_ret (results_cell_row Tryz.results218 _ _ (w.heap.size + 1) 181 (aptC a b c n) (0, 0) _ rfl (Blk.at_ _ _ (by simp)) Tryz.underlying181 rfl (by kernel_rfl)) rfl ⟨rfl, ?_⟩
  exact ((Below.refl _ _).alloc (Nat.le_refl _) _).alloc (by simp) _

theorem forms_any (w : World) : Calls Tryz.prog 219 #[] w fun e w' => e = .returned (.agg frmC) ∧ Below w.heap.size w w' := by
  go_enter Tryz.func219, Tryz.ntmps219
  go_wp2
  refine bodyPost_ret (results_cell_row Tryz.results219 _ _ w.heap.size 230 frmC (0, 0) _ rfl (((Blk.new w 230 frmC).alloc _).alloc _) Tryz.underlying230 rfl (by kernel_rfl)) rfl ⟨rfl, ?_⟩
  exact (((Below.refl _ _).alloc (Nat.le_refl _) _).alloc (by simp) _).alloc (by simp; omega) _

theorem together_any (o a b c n : Int) (w : World) : Calls Tryz.prog 314 #[.int .i64 o, .agg #[.int .i64 a, .int .i64 b, .int .i64 c, .int .i64 n]] w fun e w' => e = .returned (.agg (insC o a b c n)) ∧ Below w.heap.size w w' := by
  go_enter Tryz.func314, Tryz.ntmps314
  go_wp2
  refine bodyPost_ret (results_cell_row Tryz.results314 _ _ (w.heap.size + 1) 94 (insC o a b c n) (0, 0) _ rfl (Blk.at_ _ _ (by simp)) Tryz.underlying94 rfl (by kernel_rfl)) rfl ⟨rfl, ?_⟩
  exact ((Below.refl _ _).alloc (Nat.le_refl _) _).alloc (by simp) _

theorem place_any (i : Int) (w : World) : Calls Tryz.prog 233 #[.int .i64 i] w fun e w' => e = .returned (.bool (decide (0 ≤ i ∧ i ≤ 3))) ∧ w = w' := by
  have hb : (decide (0 ≤ i) = false ∧ decide (0 ≤ i ∧ i ≤ 3) = false) ∨ (decide (0 ≤ i) = true ∧ decide (i < 4) = false ∧ decide (0 ≤ i ∧ i ≤ 3) = false) ∨ (decide (0 ≤ i) = true ∧ decide (i < 4) = true ∧ decide (0 ≤ i ∧ i ≤ 3) = true) := by
    by_cases h1 : 0 ≤ i
    · by_cases h2 : i < 4
      · right; right; exact ⟨by simpa using h1, by simpa using h2, by simp; omega⟩
      · right; left; exact ⟨by simpa using h1, by simpa using h2, by simp; omega⟩
    · left; exact ⟨by simpa using h1, by simp; omega⟩
  rcases hb with ⟨h1, h2⟩ | ⟨h1, h3, h2⟩ | ⟨h1, h3, h2⟩
  all_goals rw [h2]
  all_goals clear h2
  all_goals
    go_enter Tryz.func233, Tryz.ntmps233
    go_wp2
    all_goals go_ret
    all_goals exact ⟨rfl, rfl⟩

theorem operand_any (o a b c n i : Int) (w : World) : Calls Tryz.prog 169 #[.agg #[.int .i64 o, .int .i64 a, .int .i64 b, .int .i64 c, .int .i64 n], .int .i64 i] w fun e w' => e = .returned (.int .i64 (opdV a b c n i)) ∧ Below w.heap.size w w' := by
  have HA := Lib.hid (fun w => apart_any o a b c n w)
  have HP := Lib.hid (fun w => place_any i w)
  have hout : i < 0 ∨ 3 < i → decide (0 ≤ i ∧ i ≤ 3) = false ∧ opdV a b c n i = 0 := fun h => ⟨by simp; omega, opd_out a b c n i h⟩
  rcases four i with h | h | rfl | rfl | rfl | rfl
  · have hx := hout (.inl h)
    rw [hx.1] at HP
    rw [hx.2]
    clear hx hout h
    go_enter Tryz.func169, Tryz.ntmps169
    go_wp2_with (go_at_call 233; refine (HP.out _).mono ?_; rintro e w' ⟨rfl, rfl⟩)
    go_ret
    exact ⟨rfl, (Below.refl _ _).alloc (Nat.le_refl _) _⟩
  · have hx := hout (.inr h)
    rw [hx.1] at HP
    rw [hx.2]
    clear hx hout h
    go_enter Tryz.func169, Tryz.ntmps169
    go_wp2_with (go_at_call 233; refine (HP.out _).mono ?_; rintro e w' ⟨rfl, rfl⟩)
    go_ret
    exact ⟨rfl, (Below.refl _ _).alloc (Nat.le_refl _) _⟩
  all_goals clear hout
  all_goals
    have i0 := ix0 a b c n
    have i1 := ix1 a b c n
    have i2 := ix2 a b c n
    have i3 := ix3 a b c n
    go_enter Tryz.func169, Tryz.ntmps169
    go_wp2_with fail
    refine (HP.out _).mono ?_
    rintro e w' ⟨rfl, rfl⟩
    go_wp2_with fail
    refine (HA.out _).mono ?_
    rintro e w1 ⟨rfl, hb⟩
    go_wp2_with fail
    go_ret
    exact ⟨rfl, ((Below.refl _ _).alloc (Nat.le_refl _) _).trans (hb.mono (by simp))⟩

theorem roperand_any (o a b c n i : Int) (w : World) : Calls Tryz.prog 104 #[.agg #[.int .i64 o, .int .i64 a, .int .i64 b, .int .i64 c, .int .i64 n], .int .i64 i] w fun e w' => e = .returned (.int .i64 (opdV a b c n i)) ∧ Below w.heap.size w w' := by
  by_cases hi : i < 0 ∨ 3 < i
  · have h0 : (i == 0) = false := by simp; omega
    have h1 : (i == 1) = false := by simp; omega
    have h2 : (i == 2) = false := by simp; omega
    have h3 : (i == 3) = false := by simp; omega
    rw [opd_out a b c n i hi]
    clear hi
    go_enter Tryz.func104, Tryz.ntmps104
    go_wp2
    all_goals go_ret
    all_goals exact ⟨rfl, (Below.refl _ _).alloc (Nat.le_refl _) _⟩
  · have : i = 0 ∨ i = 1 ∨ i = 2 ∨ i = 3 := by omega
    clear hi
    rcases this with rfl | rfl | rfl | rfl
    all_goals
      go_enter Tryz.func104, Tryz.ntmps104
      go_wp2
      all_goals go_ret
      all_goals exact ⟨rfl, (Below.refl _ _).alloc (Nat.le_refl _) _⟩
end Go.Proofs.YtbknmapkdjmcjaaGreatDoor.By
