/-
  WALKS of layer 5, the small calls: Of, Is, Params, Answers, Later, Class, isKind, and the document's own ones.
-/
import Derived.Test.YthkbdclnnpcoiaaDoorRows
import Derived.WalkKit
import Derived.ProofKit
import Derived.WalkSpells
import Derived.WalkLawsBesides
import Derived.Lib.Hide
import Derived.BigQuiet
import Derived.Deep.QuietTactic
import Derived.LoopTactic
import Derived.Below
namespace Go.Proofs.YthkbdclnnpcoiaaDoor.Si
open Go.RowKit

theorem ret_bool {a b : Bool} (h : a = b) : Ending.returned (.bool a) = .returned (.bool b) := by rw [h]
theorem ret_int {k : IntKind} {a b : Int} (h : a = b) : Ending.returned (.int k a) = .returned (.int k b) := by rw [h]

def isC (n : Int) : Bool := decide (0 ≤ n ∧ n ≤ 7)
def parV (n : Int) : Int := if 0 ≤ n ∧ n ≤ 7 then n / 2 else 0
def ansV (n : Int) : Bool := decide (0 ≤ n ∧ n ≤ 7 ∧ n % 2 = 1)
def latV (n : Int) : Bool := decide (n = 0 ∨ n = 2)
def ofV (n : Int) (b : Bool) : Int := if 0 ≤ n ∧ n ≤ 3 then (if b then 2 * n + 1 else 2 * n) else 0
def ofB (n : Int) : Bool := decide (0 ≤ n ∧ n ≤ 3)
def clV (n : Int) : Int := if 1 ≤ n ∧ n ≤ 8 then n - 1 else 0
def clB (n : Int) : Bool := decide (1 ≤ n ∧ n ≤ 8)
def kindB (n : Int) : Bool := decide (0 ≤ n ∧ n ≤ 8)

/-- A number below, a number above, or one of those between. -/
theorem eight (n : Int) : n < 0 ∨ 8 < n ∨ n = 0 ∨ n = 1 ∨ n = 2 ∨ n = 3 ∨ n = 4 ∨ n = 5 ∨ n = 6 ∨ n = 7 ∨ n = 8 := by omega

theorem cl_any (n : Int) (hlo : -9223372036854775808 ≤ n) (hhi : n ≤ 9223372036854775807) (w : World) : Calls Tryd.prog 48 #[.int .i64 n] w fun e w' => e = .returned (.tuple #[.int .i64 (clV n), .bool (clB n)]) ∧ w = w' := by
  rcases eight n with h | h | rfl | rfl | rfl | rfl | rfl | rfl | rfl | rfl | rfl
  · have hx : clV n = 0 ∧ clB n = false := by unfold clV clB; refine ⟨?_, ?_⟩ <;> (simp; omega)
    rw [hx.1, hx.2]
    clear hx
    by_cases hm : n = -9223372036854775808
    · subst hm
      go_enter Tryd.func48, Tryd.ntmps48
      go_wp2
      all_goals go_ret2
      all_goals exact ⟨rfl, rfl⟩
    · have h1 : ¬ 0 ≤ n := by omega
      have h2 : ¬ 0 ≤ n - 1 := by omega
      have h3 : (n == 0) = false := by simp; omega
      have h4 : -9223372036854775808 ≤ n - 1 := by omega
      clear hm
      go_enter Tryd.func48, Tryd.ntmps48
      go_wp2
      all_goals go_ret2
      all_goals exact ⟨rfl, rfl⟩
  · have hx : clV n = 0 ∧ clB n = false := by unfold clV clB; refine ⟨?_, ?_⟩ <;> (simp; omega)
    rw [hx.1, hx.2]
    clear hx
    have h1 : ¬ n < 8 := by omega
    have h2 : ¬ n ≤ 7 := by omega
    have h5 : ¬ n < 9 := by omega
    have h6 : ¬ n - 1 ≤ 7 := by omega
    have h3 : (n == 0) = false := by simp; omega
    have h4 : (n == 2) = false := by simp; omega
    go_enter Tryd.func48, Tryd.ntmps48
    go_wp2
    all_goals go_ret2
    all_goals exact ⟨rfl, rfl⟩
  all_goals
    go_enter Tryd.func48, Tryd.ntmps48
    go_wp2
    all_goals go_ret2
    all_goals exact ⟨rfl, rfl⟩

theorem ris_any (n : Int) (w : World) : Calls Tryd.prog 66 #[.int .i64 n] w fun e w' => e = .returned (.bool (isC n)) ∧ w = w' := by
  rcases eight n with h | h | rfl | rfl | rfl | rfl | rfl | rfl | rfl | rfl | rfl
  · have hx : isC n = false := by unfold isC; simp; omega
    rw [hx]
    clear hx
    have h1 : ¬ 0 ≤ n := by omega
    have h2 : ¬ 1 ≤ n := by omega
    have h3 : (n == 0) = false := by simp; omega
    have h4 : (n == 2) = false := by simp; omega
    go_enter Tryd.func66, Tryd.ntmps66
    go_wp2
    all_goals go_ret
    all_goals exact ⟨rfl, rfl⟩
  · have hx : isC n = false := by unfold isC; simp; omega
    rw [hx]
    clear hx
    have h1 : ¬ n < 8 := by omega
    have h2 : ¬ n ≤ 7 := by omega
    have h3 : (n == 0) = false := by simp; omega
    have h4 : (n == 2) = false := by simp; omega
    go_enter Tryd.func66, Tryd.ntmps66
    go_wp2
    all_goals go_ret
    all_goals exact ⟨rfl, rfl⟩
  all_goals
    go_enter Tryd.func66, Tryd.ntmps66
    go_wp2
    all_goals go_ret
    all_goals exact ⟨rfl, rfl⟩

theorem rcl_any (n : Int) (hlo : -9223372036854775808 ≤ n) (hhi : n ≤ 9223372036854775807) (w : World) : Calls Tryd.prog 56 #[.int .i64 n] w fun e w' => e = .returned (.tuple #[.int .i64 (clV n), .bool (clB n)]) ∧ w = w' := by
  rcases eight n with h | h | rfl | rfl | rfl | rfl | rfl | rfl | rfl | rfl | rfl
  · have hx : clV n = 0 ∧ clB n = false := by unfold clV clB; refine ⟨?_, ?_⟩ <;> (simp; omega)
    rw [hx.1, hx.2]
    clear hx
    by_cases hm : n = -9223372036854775808
    · subst hm
      have hw : ¬ wrap64 (-9223372036854775809) ≤ 7 := by decide +kernel
      have hw0 : 0 ≤ wrap64 (-9223372036854775809) := by decide +kernel
      go_enter Tryd.func56, Tryd.ntmps56
      go_wp2
      all_goals go_ret2
      all_goals exact ⟨rfl, rfl⟩
    · have h1 : ¬ 0 ≤ n := by omega
      have h2 : ¬ 0 ≤ n - 1 := by omega
      have h3 : (n == 0) = false := by simp; omega
      have h4 : -9223372036854775808 ≤ n - 1 := by omega
      clear hm
      go_enter Tryd.func56, Tryd.ntmps56
      go_wp2
      all_goals go_ret2
      all_goals exact ⟨rfl, rfl⟩
  · have hx : clV n = 0 ∧ clB n = false := by unfold clV clB; refine ⟨?_, ?_⟩ <;> (simp; omega)
    rw [hx.1, hx.2]
    clear hx
    have h1 : ¬ n < 8 := by omega
    have h2 : ¬ n ≤ 7 := by omega
    have h5 : ¬ n < 9 := by omega
    have h6 : ¬ n - 1 ≤ 7 := by omega
    have h3 : (n == 0) = false := by simp; omega
    have h4 : (n == 2) = false := by simp; omega
    go_enter Tryd.func56, Tryd.ntmps56
    go_wp2
    all_goals go_ret2
    all_goals exact ⟨rfl, rfl⟩
  all_goals
    go_enter Tryd.func56, Tryd.ntmps56
    go_wp2
    all_goals go_ret2
    all_goals exact ⟨rfl, rfl⟩

theorem kind_any (n : Int) (w : World) : Calls Tryd.prog 46 #[.int .i64 n] w fun e w' => e = .returned (.bool (kindB n)) ∧ w = w' := by
  rcases eight n with h | h | rfl | rfl | rfl | rfl | rfl | rfl | rfl | rfl | rfl
  · have hx : kindB n = false := by unfold kindB; simp; omega
    rw [hx]
    clear hx
    have h1 : ¬ 0 ≤ n := by omega
    have h2 : ¬ 1 ≤ n := by omega
    have h3 : (n == 0) = false := by simp; omega
    have h4 : (n == 2) = false := by simp; omega
    go_enter Tryd.func46, Tryd.ntmps46
    go_wp2
    all_goals go_ret
    all_goals exact ⟨rfl, rfl⟩
  · have hx : kindB n = false := by unfold kindB; simp; omega
    rw [hx]
    clear hx
    have h1 : ¬ n < 8 := by omega
    have h2 : ¬ n ≤ 7 := by omega
    have h5 : ¬ n < 9 := by omega
    have h3 : (n == 0) = false := by simp; omega
    have h4 : (n == 2) = false := by simp; omega
    go_enter Tryd.func46, Tryd.ntmps46
    go_wp2
    all_goals go_ret
    all_goals exact ⟨rfl, rfl⟩
  all_goals
    go_enter Tryd.func46, Tryd.ntmps46
    go_wp2
    all_goals go_ret
    all_goals exact ⟨rfl, rfl⟩

end Go.Proofs.YthkbdclnnpcoiaaDoor.Si
