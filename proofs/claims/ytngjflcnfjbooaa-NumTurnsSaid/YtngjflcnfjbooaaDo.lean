/-
  WALKS: num.Do (function 11) and the document's own Do (function 12, with Div, 36), one theorem an operation: what each answers; of the world nothing that was there turns.
-/
import Derived.Test.YtngjflcnfjbooaaRows
import Derived.WalkKit
import Derived.ProofKit
import Derived.OpenShut
import Derived.Handy
import Derived.Laws.EntriesVeiled
import Derived.WalkLawsBesides
import Derived.WalkSpells
namespace Go.Proofs.Ytngjflcnfjbooaa.Num
open Go.ChangeShapes Go.WideShapes Go.ChangeAt Go.RowKit

set_option maxHeartbeats 1000000 in
set_option maxRecDepth 100000 in
theorem do_add (b c : Int)  (w : World) :
    Calls Try.prog 11 #[.int .i64 4, .int .i64 b, .int .i64 c] w fun e w' => e = .returned (.tuple #[.int .i64 (wrap64 (b + c)), .bool true]) ∧ Grown w w' := by
  go_enter Try.func11, Try.ntmps11
  go_wp2
  go_rounds 1
  all_goals go_ret2
  all_goals exact ⟨rfl, by go_grown⟩

set_option maxHeartbeats 1000000 in
set_option maxRecDepth 100000 in
theorem do_sub (b c : Int)  (w : World) :
    Calls Try.prog 11 #[.int .i64 5, .int .i64 b, .int .i64 c] w fun e w' => e = .returned (.tuple #[.int .i64 (wrap64 (b - c)), .bool true]) ∧ Grown w w' := by
  go_enter Try.func11, Try.ntmps11
  go_wp2
  go_rounds 2
  all_goals go_ret2
  all_goals exact ⟨rfl, by go_grown⟩

set_option maxHeartbeats 1000000 in
set_option maxRecDepth 100000 in
theorem do_mul (b c : Int)  (w : World) :
    Calls Try.prog 11 #[.int .i64 6, .int .i64 b, .int .i64 c] w fun e w' => e = .returned (.tuple #[.int .i64 (wrap64 (b * c)), .bool true]) ∧ Grown w w' := by
  go_enter Try.func11, Try.ntmps11
  go_wp2
  go_rounds 3
  all_goals go_ret2
  all_goals exact ⟨rfl, by go_grown⟩

set_option maxHeartbeats 1000000 in
set_option maxRecDepth 100000 in
theorem do_div (b c : Int) (hc : (c == 0) = false) (hn : ¬ c = 0) (w : World) :
    Calls Try.prog 11 #[.int .i64 7, .int .i64 b, .int .i64 c] w fun e w' => e = .returned (.tuple #[.int .i64 (wrap64 (b.tdiv c)), .bool true]) ∧ Grown w w' := by
  go_enter Try.func11, Try.ntmps11
  go_wp2
  go_rounds 4
  all_goals go_ret2
  all_goals exact ⟨rfl, by go_grown⟩

set_option maxHeartbeats 1000000 in
set_option maxRecDepth 100000 in
theorem do_div0 (b : Int)  (w : World) :
    Calls Try.prog 11 #[.int .i64 7, .int .i64 b, .int .i64 0] w fun e w' => e = .returned (.tuple #[.int .i64 0, .bool false]) ∧ Grown w w' := by
  go_enter Try.func11, Try.ntmps11
  go_wp2
  go_rounds 4
  all_goals go_ret2
  all_goals exact ⟨rfl, by go_grown⟩

set_option maxHeartbeats 1000000 in
set_option maxRecDepth 100000 in
theorem do_mod (b c : Int) (hc : (c == 0) = false) (hn : ¬ c = 0) (w : World) :
    Calls Try.prog 11 #[.int .i64 8, .int .i64 b, .int .i64 c] w fun e w' => e = .returned (.tuple #[.int .i64 (b.tmod c), .bool true]) ∧ Grown w w' := by
  go_enter Try.func11, Try.ntmps11
  go_wp2
  go_rounds 5
  all_goals go_ret2
  all_goals exact ⟨rfl, by go_grown⟩

set_option maxHeartbeats 1000000 in
set_option maxRecDepth 100000 in
theorem do_mod0 (b : Int)  (w : World) :
    Calls Try.prog 11 #[.int .i64 8, .int .i64 b, .int .i64 0] w fun e w' => e = .returned (.tuple #[.int .i64 0, .bool false]) ∧ Grown w w' := by
  go_enter Try.func11, Try.ntmps11
  go_wp2
  go_rounds 5
  all_goals go_ret2
  all_goals exact ⟨rfl, by go_grown⟩

set_option maxHeartbeats 1000000 in
set_option maxRecDepth 100000 in
theorem do_less (b c : Int) (hc : b < c) (w : World) :
    Calls Try.prog 11 #[.int .i64 9, .int .i64 b, .int .i64 c] w fun e w' => e = .returned (.tuple #[.int .i64 1, .bool true]) ∧ Grown w w' := by
  go_enter Try.func11, Try.ntmps11
  go_wp2
  go_rounds 6
  all_goals go_ret2
  all_goals exact ⟨rfl, by go_grown⟩

set_option maxHeartbeats 1000000 in
set_option maxRecDepth 100000 in
theorem do_nless (b c : Int) (hc : ¬ b < c) (w : World) :
    Calls Try.prog 11 #[.int .i64 9, .int .i64 b, .int .i64 c] w fun e w' => e = .returned (.tuple #[.int .i64 0, .bool true]) ∧ Grown w w' := by
  go_enter Try.func11, Try.ntmps11
  go_wp2
  go_rounds 6
  all_goals go_ret2
  all_goals exact ⟨rfl, by go_grown⟩

set_option maxHeartbeats 1000000 in
set_option maxRecDepth 100000 in
theorem do_same (b : Int)  (w : World) :
    Calls Try.prog 11 #[.int .i64 10, .int .i64 b, .int .i64 b] w fun e w' => e = .returned (.tuple #[.int .i64 1, .bool true]) ∧ Grown w w' := by
  go_enter Try.func11, Try.ntmps11
  go_wp2
  go_rounds 7
  all_goals go_ret2
  all_goals exact ⟨rfl, by go_grown⟩

set_option maxHeartbeats 1000000 in
set_option maxRecDepth 100000 in
theorem do_nsame (b c : Int) (hc : (b == c) = false) (w : World) :
    Calls Try.prog 11 #[.int .i64 10, .int .i64 b, .int .i64 c] w fun e w' => e = .returned (.tuple #[.int .i64 0, .bool true]) ∧ Grown w w' := by
  go_enter Try.func11, Try.ntmps11
  go_wp2
  go_rounds 7
  all_goals go_ret2
  all_goals exact ⟨rfl, by go_grown⟩

set_option maxHeartbeats 1000000 in
set_option maxRecDepth 100000 in
theorem do_under (op b c : Int) (hc : op < 4) (w : World) :
    Calls Try.prog 11 #[.int .i64 op, .int .i64 b, .int .i64 c] w fun e w' => e = .returned (.tuple #[.int .i64 0, .bool false]) ∧ Grown w w' := by
  go_enter Try.func11, Try.ntmps11
  go_wp2
  go_rounds 8
  all_goals go_ret2
  all_goals exact ⟨rfl, by go_grown⟩

set_option maxHeartbeats 1000000 in
set_option maxRecDepth 100000 in
theorem do_over (op b c : Int) (hc : 10 < op) (w : World) :
    Calls Try.prog 11 #[.int .i64 op, .int .i64 b, .int .i64 c] w fun e w' => e = .returned (.tuple #[.int .i64 0, .bool false]) ∧ Grown w w' := by
  go_enter Try.func11, Try.ntmps11
  go_wp2
  go_rounds 8
  all_goals go_ret2
  all_goals exact ⟨rfl, by go_grown⟩

set_option maxHeartbeats 1000000 in
set_option maxRecDepth 100000 in
theorem ref_add (b c : Int)  (w : World) :
    Calls Try.prog 12 #[.int .i64 4, .int .i64 b, .int .i64 c] w fun e w' => e = .returned (.tuple #[.int .i64 (wrap64 (b + c)), .bool true]) ∧ w = w' := by
  go_enter Try.func12, Try.ntmps12
  go_wp2
  all_goals go_ret2
  all_goals exact ⟨rfl, rfl⟩

set_option maxHeartbeats 1000000 in
set_option maxRecDepth 100000 in
theorem ref_sub (b c : Int)  (w : World) :
    Calls Try.prog 12 #[.int .i64 5, .int .i64 b, .int .i64 c] w fun e w' => e = .returned (.tuple #[.int .i64 (wrap64 (b - c)), .bool true]) ∧ w = w' := by
  go_enter Try.func12, Try.ntmps12
  go_wp2
  all_goals go_ret2
  all_goals exact ⟨rfl, rfl⟩

set_option maxHeartbeats 1000000 in
set_option maxRecDepth 100000 in
theorem ref_mul (b c : Int)  (w : World) :
    Calls Try.prog 12 #[.int .i64 6, .int .i64 b, .int .i64 c] w fun e w' => e = .returned (.tuple #[.int .i64 (wrap64 (b * c)), .bool true]) ∧ w = w' := by
  go_enter Try.func12, Try.ntmps12
  go_wp2
  all_goals go_ret2
  all_goals exact ⟨rfl, rfl⟩

set_option maxHeartbeats 1000000 in
set_option maxRecDepth 100000 in
theorem ref_div (b c : Int) (hc : (c == 0) = false) (hm : (c == -1) = false) (hn : ¬ c = 0) (w : World) :
    Calls Try.prog 12 #[.int .i64 7, .int .i64 b, .int .i64 c] w fun e w' => e = .returned (.tuple #[.int .i64 (wrap64 (b.tdiv c)), .bool true]) ∧ w = w' := by
  go_enter Try.func12, Try.ntmps12
  go_wp2
  all_goals go_ret2
  all_goals exact ⟨rfl, rfl⟩

set_option maxHeartbeats 1000000 in
set_option maxRecDepth 100000 in
theorem ref_div0 (b : Int)  (w : World) :
    Calls Try.prog 12 #[.int .i64 7, .int .i64 b, .int .i64 0] w fun e w' => e = .returned (.tuple #[.int .i64 0, .bool false]) ∧ w = w' := by
  go_enter Try.func12, Try.ntmps12
  go_wp2
  all_goals go_ret2
  all_goals exact ⟨rfl, rfl⟩

set_option maxHeartbeats 1000000 in
set_option maxRecDepth 100000 in
theorem ref_divm (b : Int)  (w : World) :
    Calls Try.prog 12 #[.int .i64 7, .int .i64 b, .int .i64 (-1)] w fun e w' => e = .returned (.tuple #[.int .i64 (wrap64 (-b)), .bool true]) ∧ w = w' := by
  go_enter Try.func12, Try.ntmps12
  go_wp2
  all_goals go_ret2
  all_goals exact ⟨rfl, rfl⟩

set_option maxHeartbeats 1000000 in
set_option maxRecDepth 100000 in
theorem ref_mod (b c : Int) (hc : (c == 0) = false) (hm : (c == -1) = false) (hn : ¬ c = 0) (w : World) :
    Calls Try.prog 12 #[.int .i64 8, .int .i64 b, .int .i64 c] w fun e w' => e = .returned (.tuple #[.int .i64 (wrap64 (b - wrap64 (c * wrap64 (b.tdiv c)))), .bool true]) ∧ w = w' := by
  go_enter Try.func12, Try.ntmps12
  go_wp2
  all_goals go_ret2
  all_goals exact ⟨rfl, rfl⟩

set_option maxHeartbeats 1000000 in
set_option maxRecDepth 100000 in
theorem ref_mod0 (b : Int)  (w : World) :
    Calls Try.prog 12 #[.int .i64 8, .int .i64 b, .int .i64 0] w fun e w' => e = .returned (.tuple #[.int .i64 0, .bool false]) ∧ w = w' := by
  go_enter Try.func12, Try.ntmps12
  go_wp2
  all_goals go_ret2
  all_goals exact ⟨rfl, rfl⟩

set_option maxHeartbeats 1000000 in
set_option maxRecDepth 100000 in
theorem ref_modm (b : Int)  (w : World) :
    Calls Try.prog 12 #[.int .i64 8, .int .i64 b, .int .i64 (-1)] w fun e w' => e = .returned (.tuple #[.int .i64 (wrap64 (b - wrap64 (-wrap64 (-b)))), .bool true]) ∧ w = w' := by
  go_enter Try.func12, Try.ntmps12
  go_wp2
  all_goals go_ret2
  all_goals exact ⟨rfl, rfl⟩

set_option maxHeartbeats 1000000 in
set_option maxRecDepth 100000 in
theorem ref_less (b c : Int) (hc : b < c) (w : World) :
    Calls Try.prog 12 #[.int .i64 9, .int .i64 b, .int .i64 c] w fun e w' => e = .returned (.tuple #[.int .i64 1, .bool true]) ∧ w = w' := by
  go_enter Try.func12, Try.ntmps12
  go_wp2
  all_goals go_ret2
  all_goals exact ⟨rfl, rfl⟩

set_option maxHeartbeats 1000000 in
set_option maxRecDepth 100000 in
theorem ref_nless (b c : Int) (hc : ¬ b < c) (w : World) :
    Calls Try.prog 12 #[.int .i64 9, .int .i64 b, .int .i64 c] w fun e w' => e = .returned (.tuple #[.int .i64 0, .bool true]) ∧ w = w' := by
  go_enter Try.func12, Try.ntmps12
  go_wp2
  all_goals go_ret2
  all_goals exact ⟨rfl, rfl⟩

set_option maxHeartbeats 1000000 in
set_option maxRecDepth 100000 in
theorem ref_same (b : Int)  (w : World) :
    Calls Try.prog 12 #[.int .i64 10, .int .i64 b, .int .i64 b] w fun e w' => e = .returned (.tuple #[.int .i64 1, .bool true]) ∧ w = w' := by
  go_enter Try.func12, Try.ntmps12
  go_wp2
  all_goals go_ret2
  all_goals exact ⟨rfl, rfl⟩

set_option maxHeartbeats 1000000 in
set_option maxRecDepth 100000 in
theorem ref_nsame (b c : Int) (hc : (b == c) = false) (w : World) :
    Calls Try.prog 12 #[.int .i64 10, .int .i64 b, .int .i64 c] w fun e w' => e = .returned (.tuple #[.int .i64 0, .bool true]) ∧ w = w' := by
  go_enter Try.func12, Try.ntmps12
  go_wp2
  all_goals go_ret2
  all_goals exact ⟨rfl, rfl⟩

set_option maxHeartbeats 1000000 in
set_option maxRecDepth 100000 in
theorem ref_under0 (op b : Int) (h : op < 4) (w : World) :
    Calls Try.prog 12 #[.int .i64 op, .int .i64 b, .int .i64 0] w fun e w' => e = .returned (.tuple #[.int .i64 0, .bool false]) ∧ w = w' := by
  go_enter Try.func12, Try.ntmps12
  go_wp2
  all_goals go_ret2
  all_goals exact ⟨rfl, rfl⟩

set_option maxHeartbeats 1000000 in
set_option maxRecDepth 100000 in
theorem ref_under (op b c : Int) (h : op < 4) (hc : (c == 0) = false) (h7 : (op != 7) = true) (h8 : (op != 8) = true) (w : World) :
    Calls Try.prog 12 #[.int .i64 op, .int .i64 b, .int .i64 c] w fun e w' => e = .returned (.tuple #[.int .i64 0, .bool false]) ∧ w = w' := by
  go_enter Try.func12, Try.ntmps12
  go_wp2
  all_goals go_ret2
  all_goals exact ⟨rfl, rfl⟩

set_option maxHeartbeats 1000000 in
set_option maxRecDepth 100000 in
theorem ref_over0 (op b : Int) (h : 10 < op) (w : World) :
    Calls Try.prog 12 #[.int .i64 op, .int .i64 b, .int .i64 0] w fun e w' => e = .returned (.tuple #[.int .i64 0, .bool false]) ∧ w = w' := by
  go_enter Try.func12, Try.ntmps12
  go_wp2
  all_goals go_ret2
  all_goals exact ⟨rfl, rfl⟩

set_option maxHeartbeats 1000000 in
set_option maxRecDepth 100000 in
theorem ref_over (op b c : Int) (h : 10 < op) (hc : (c == 0) = false) (h7 : (op != 7) = true) (h8 : (op != 8) = true) (w : World) :
    Calls Try.prog 12 #[.int .i64 op, .int .i64 b, .int .i64 c] w fun e w' => e = .returned (.tuple #[.int .i64 0, .bool false]) ∧ w = w' := by
  go_enter Try.func12, Try.ntmps12
  go_wp2
  all_goals go_ret2
  all_goals exact ⟨rfl, rfl⟩

end Go.Proofs.Ytngjflcnfjbooaa.Num
