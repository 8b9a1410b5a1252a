/-
  WALKS: sum's adder (New, Add, Sum, isNobody), sum.give, sum.Of and the document's own Of: what they answer, and what becomes of the adder's own block.
-/
import Derived.Test.YtlpmndljjdljmaaSm
import Derived.Test.YtlpmndljjdljmaaRd
import Derived.LoopTactic
namespace Go.Proofs.Ytlpmndljjdljmaa.By
open Go.ChangeShapes Go.WideShapes Go.ChangeAt Go.RowKit
open Mem Sm

/-- Block g is an adder of these bytes. -/
def Adr (w : World) (g : Nat) (l : List UInt8) : Prop := Blk w g 51 #[.int .i64 ((sm l).1 : Int), .int .i64 ((sm l).2 : Int), .bool true]

/-- Block g is an adder that New did not make. -/
def Odd (w : World) (g : Nat) : Prop := Blk w g 51 #[.int .i64 0, .int .i64 0, .bool false]

theorem nobody_nil (w : World) : Calls Try.prog 38 #[.pointer none] w fun e w' => e = .returned (.bool true) ∧ w = w' := by
  go_enter Try.func38, Try.ntmps38
  go_wp2
  go_ret
  exact ⟨rfl, rfl⟩

theorem nobody_any (w : World) (g : Nat) (good : Bool) (h2 : w.cell? ⟨g, 2, none⟩ = some (.bool good)) : Calls Try.prog 38 #[.pointer (some ⟨g, 0, none⟩)] w fun e w' => e = .returned (.bool (!good)) ∧ w = w' := by
  go_enter Try.func38, Try.ntmps38
  go_wp2
  go_ret
  exact ⟨rfl, rfl⟩

theorem new_adder (w : World) : Calls Try.prog 24 #[] w fun e w' => e = .returned (.pointer (some ⟨w.heap.size, 0, none⟩)) ∧ Adr w' w.heap.size [] ∧ w' = w.alloc (.cells #[.int .i64 1, .int .i64 0, .bool true] 51) := by
  go_enter Try.func24, Try.ntmps24
  go_wp2
  go_ret
  exact ⟨rfl, Blk.new _ _ _, rfl⟩

theorem sum_nil (w : World) : Calls Try.prog 26 #[.pointer none] w fun e w' => e = .returned (.int .i64 0) ∧ w = w' := by
  go_enter Try.func26, Try.ntmps26
  go_wp2_with (go_at_call 38; refine (nobody_nil _).mono ?_; rintro e w' ⟨rfl, rfl⟩)
  go_ret
  exact ⟨rfl, rfl⟩

theorem sum_odd (w : World) (g : Nat) (h : Odd w g) : Calls Try.prog 26 #[.pointer (some ⟨g, 0, none⟩)] w fun e w' => e = .returned (.int .i64 0) ∧ w = w' := by
  have H := Lib.hid (nobody_any w g false (by rw [Blk.cell h]; rfl))
  clear h
  go_enter Try.func26, Try.ntmps26
  go_wp2_with (go_at_call 38; refine H.out.mono ?_; rintro e w' ⟨rfl, rfl⟩)
  go_ret
  exact ⟨rfl, rfl⟩

theorem sum_any (w : World) (g : Nat) (l : List UInt8) (h : Adr w g l) : Calls Try.prog 26 #[.pointer (some ⟨g, 0, none⟩)] w fun e w' => e = .returned (.int .i64 (sumV l : Int)) ∧ ∃ n, w' = w.drewN n := by
  have H := Lib.hid (nobody_any w g true (by rw [Blk.cell h]; rfl))
  have c0 : w.cell? ⟨g, 0, none⟩ = some (.int .i64 ((sm l).1 : Int)) := by rw [Blk.cell h]; rfl
  have c1 : w.cell? ⟨g, 1, none⟩ = some (.int .i64 ((sm l).2 : Int)) := by rw [Blk.cell h]; rfl
  have hb := sm_lt l
  have HE := Lib.hid (show ((sumV l : Nat) : Int) = (((sm l).2 * 65536 + (sm l).1 : Nat) : Int) from rfl)
  clear h
  generalize (sm l).1 = a at c0 hb HE
  generalize (sm l).2 = b at c1 hb HE
  have HO := Lib.hid (or16 b a hb.2 hb.1)
  have ha := hb.1
  have hb2 := hb.2
  clear hb
  go_enter Try.func26, Try.ntmps26
  go_wp2_with (go_at_call 38; refine H.out.mono ?_; rintro e w' ⟨rfl, rfl⟩)
  go_quiet (fail)
  go_wp2
  rw [HE.out, ← HO.out]
  go_ret
  exact ⟨rfl, _, rfl⟩
end Go.Proofs.Ytlpmndljjdljmaa.By
