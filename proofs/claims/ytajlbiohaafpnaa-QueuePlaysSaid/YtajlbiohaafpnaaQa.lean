/-
  WALKS of layer 6: the pile's calls: isAhead, Len, Less.
-/
import Derived.Test.YtajlbiohaafpnaaQm
import Derived.WalkKit
import Derived.ProofKit
import Derived.WalkSpells
import Derived.WalkLawsBesides
import Derived.Lib.Hide
import Derived.BigRegion
import Derived.BigQuiet
import Derived.Deep.QuietTactic
import Derived.Deep.RegionHeld3
import Derived.LoopTactic
import Derived.Below
import Derived.IntWalk
namespace Go.Proofs.Ytajlbiohaafpnaa.Qu
open Go.RowKit Go.Maps
open Mem Hp

theorem ret_bool {a b : Bool} (h : a = b) : Ending.returned (.bool a) = .returned (.bool b) := by rw [h]

/-- A waiter, as a value. -/
def wv (x : It) : Value := .agg #[.int .i64 x.1, .int .i64 x.2]

theorem isAhead_any (x y : It) (w : World) :
    Calls Try.prog 46 #[.agg #[.int .i64 x.1, .int .i64 x.2], .agg #[.int .i64 y.1, .int .i64 y.2]] w fun e w' => e = .returned (.bool (fore x y)) ∧ Below w.heap.size w w' := by
  obtain ⟨a, b⟩ := x
  obtain ⟨c, d⟩ := y
  by_cases h : b = d
  · have HX := Lib.hid (show fore (a, b) (c, d) = decide (a < c) by unfold fore; rw [if_pos h])
    subst h
    go_enter Try.func46, Try.ntmps46
    go_wp2
    go_ret
    exact ⟨ret_bool HX.out.symm, ((Below.refl _ _).alloc (Nat.le_refl _) _).alloc (by simp) _⟩
  · have HX := Lib.hid (show fore (a, b) (c, d) = decide (b < d) by unfold fore; rw [if_neg h])
    have h1 : (b == d) = false := by simpa using h
    have h2 : (b != d) = true := by simpa using h
    clear h
    go_enter Try.func46, Try.ntmps46
    go_wp2
    go_ret
    exact ⟨ret_bool HX.out.symm, ((Below.refl _ _).alloc (Nat.le_refl _) _).alloc (by simp) _⟩

theorem len_any (w : World) (p : Nat) (U : Nat → Prop) (n nm : Nat) (f : Nat → It) (h : Pile w p U n nm f) :
    Calls Try.prog 23 #[.pointer (some ⟨p, 0, none⟩)] w fun e w' => e = .returned (.int .i64 n) ∧ w = w' := by
  obtain ⟨m, v, D, h⟩ := h
  obtain ⟨A, c, rfl⟩ := h.form
  have c0 : w.cell? ⟨p, 0, none⟩ = some (.slice A n c) := by rw [h.blk.cell]; rfl
  clear h
  go_enter Try.func23, Try.ntmps23
  go_wp2
  go_ret
  exact ⟨rfl, rfl⟩

set_option maxHeartbeats 1000000 in
theorem less_any (w : World) (p : Nat) (U : Nat → Prop) (n nm : Nat) (f : Nat → It) (h : Pile w p U n nm f) (i j : Nat) (hi : i < n) (hj : j < n) :
    Calls Try.prog 42 #[.pointer (some ⟨p, 0, none⟩), .int .i64 i, .int .i64 j] w fun e w' => e = .returned (.bool (fore (f i) (f j))) ∧ Below w.heap.size w w' := by
  obtain ⟨m, v, D, h⟩ := h
  obtain ⟨g, c, rfl⟩ := h.there (by omega)
  have c0 : w.cell? ⟨p, 0, none⟩ = some (.slice (some ⟨g, 0, none⟩) n c) := by rw [h.blk.cell]; rfl
  have r0 : w.cell? ⟨g, i * 2, none⟩ = some (.int .i64 (f i).1) := by rw [h.row.cellAt _ (by omega), flat_id n f i hi]
  have r1 : w.cell? ⟨g, i * 2 + 1, none⟩ = some (.int .i64 (f i).2) := by rw [h.row.cellAt _ (by omega), flat_key n f i hi]
  have s0 : w.cell? ⟨g, j * 2, none⟩ = some (.int .i64 (f j).1) := by rw [h.row.cellAt _ (by omega), flat_id n f j hj]
  have s1 : w.cell? ⟨g, j * 2 + 1, none⟩ = some (.int .i64 (f j).2) := by rw [h.row.cellAt _ (by omega), flat_key n f j hj]
  have HA := Lib.hid (fun W => isAhead_any (f i) (f j) W)
  generalize fore (f i) (f j) = q at HA
  generalize (f i).1 = a at *
  generalize (f i).2 = b at *
  generalize (f j).1 = a' at *
  generalize (f j).2 = b' at *
  have few := h.few
  have hle := h.le
  clear h
  have lp := World.block_lt_of_cell? w _ c0
  have lg := World.block_lt_of_cell? w _ r0
  have hi0 : (0 : Int) ≤ (i : Int) := by omega
  have hi1 : (i : Int) < (n : Int) := by omega
  have hj0 : (0 : Int) ≤ (j : Int) := by omega
  have hj1 : (j : Int) < (n : Int) := by omega
  go_enter Try.func42, Try.ntmps42
  go_wp2_with fail
  go_region_held3 (fun w' => w'.cell? ⟨p, 0, none⟩ = some (.slice (some ⟨g, 0, none⟩) n c) ∧ w'.cell? ⟨g, i * 2, none⟩ = some (.int .i64 a) ∧ w'.cell? ⟨g, i * 2 + 1, none⟩ = some (.int .i64 b) ∧ w'.cell? ⟨g, j * 2, none⟩ = some (.int .i64 a') ∧ w'.cell? ⟨g, j * 2 + 1, none⟩ = some (.int .i64 b'))
    (first | go_keep | exact ⟨d0, d1, d2, d3, d4⟩)
    (first | (go_at_call 46; refine (HA.out _).mono ?_; rintro e w1 ⟨rfl, hb⟩; have d0 := (hb.cell (p := ⟨p, 0, none⟩) lp).trans c0; have d1 := (hb.cell (p := ⟨g, i * 2, none⟩) lg).trans r0; have d2 := (hb.cell (p := ⟨g, i * 2 + 1, none⟩) lg).trans r1; have d3 := (hb.cell (p := ⟨g, j * 2, none⟩) lg).trans s0; have d4 := (hb.cell (p := ⟨g, j * 2 + 1, none⟩) lg).trans s1))
  go_wp2_with fail
  go_ret
  exact ⟨rfl, (Below.refl _ _).drew.trans hb⟩
end Go.Proofs.Ytajlbiohaafpnaa.Qu
