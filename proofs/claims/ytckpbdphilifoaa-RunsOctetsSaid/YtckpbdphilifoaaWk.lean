/-
  WALKS of layer 13: tables of bytes: take, Get.
-/
import Derived.Test.YtckpbdphilifoaaWj
namespace Go.Proofs.Ytckpbdphilifoaa.By
open Go.RowKit
open Mem Gm Rf
set_option linter.unusedSimpArgs false

/-- How a reader stands: how many bytes were taken, whether it is good. -/
abbrev Std := Nat × Bool
def pgS (l : List UInt8) (s : Std) (k : Int) : Std := (readP l s.1 s.2 k, fitsB l s.1 s.2 k)
def rvS (l : List UInt8) (s : Std) (k : Int) : Int := readV false l s.1 s.2 k
def sK (l : List UInt8) (s : Std) : Nat → Std
  | 0 => s
  | k + 1 => pgS l (sK l s k) 2
def s5 (l : List UInt8) (s : Std) : Std := pgS l (sK l s 4) 1
def pend (l : List UInt8) (s : Std) : Int := rvS l (sK l s 4) 1
def tkX (l : List UInt8) (s : Std) : Rn := (rvS l (sK l s 0) 2, rvS l (sK l s 1) 2, rvS l (sK l s 2) 2, pend l s == 1, rvS l (sK l s 3) 2)
def tkE (l : List UInt8) (s : Std) : Int := if (s5 l s).2 = false then 5 else if 1 < pend l s then 3 else 0
def tkR (l : List UInt8) (s : Std) : Rn := if tkE l s = 0 then tkX l s else rn0
def aggRn (x : Rn) : Value := .agg #[.int .i64 x.1, .int .i64 x.2.1, .int .i64 x.2.2.1, .bool x.2.2.2.1, .int .i64 x.2.2.2.2]

def RdS (w : World) (g : Nat) (A : Option Addr) (c : Nat) (l : List UInt8) (s : Std) : Prop := Rdr w g A c l s.1 s.2
def NumS (w : World) (g : Nat) (A : Option Addr) (c : Nat) (l : List UInt8) (s : Std) (k : Int) (e : Ending) (w' : World) : Prop :=
  e = .returned (.int .i64 (rvS l s k)) ∧ RdS w' g A c l (pgS l s k) ∧ w.grownBy w' (some g)
theorem num_s (w : World) (g : Nat) (A : Option Addr) (c : Nat) (l : List UInt8) (s : Std) (h : RdS w g A c l s) (k : Int) : Calls Try.prog 44 #[.pointer (some ⟨g, 0, none⟩), .int .i64 k] w (NumS w g A c l s k) := num_any w g A c l s.1 s.2 h k
theorem bad_s (w : World) (g : Nat) (A : Option Addr) (c : Nat) (l : List UInt8) (s : Std) (h : RdS w g A c l s) : Calls Try.prog 46 #[.pointer (some ⟨g, 0, none⟩)] w fun e w' => e = .returned (.bool (!s.2)) ∧ w = w' := bad_any w g A c l s.1 s.2 h

theorem blk_only {w w' : World} {g r : Nat} {t : TypeId} {cs : Array Value} (h : Blk w r t cs) (hg : w.grownBy w' (some g)) (hne : r ≠ g) : Blk w' r t cs := h.only hg hne
theorem rd_other {w : World} {g : Nat} {A : Option Addr} {c : Nat} {l : List UInt8} {s : Std} (h : RdS w g A c l s) (p : Addr) (u : Value) (hp : g < p.block) : RdS (w.setCell p u) g A c l s :=
  Rdr.below h (B := g + 1) ((Below.refl (g + 1) w).setCell (by omega) u) (by omega)

theorem index4p (a b c d : Value) (W : World) : (Instr.index 102 (.agg #[a, b, c, d]) (.int .i64 0)).run Try.prog W = .ok a W ∧ (Instr.index 102 (.agg #[a, b, c, d]) (.int .i64 1)).run Try.prog W = .ok b W ∧ (Instr.index 102 (.agg #[a, b, c, d]) (.int .i64 2)).run Try.prog W = .ok c W ∧ (Instr.index 102 (.agg #[a, b, c, d]) (.int .i64 3)).run Try.prog W = .ok d W := by
  have ht : Try.prog.underlying 102 = some (.array 4 101) := by kernel_rfl
  have hs : Try.prog.cellsOf 101 = 1 := by kernel_rfl
  refine ⟨?_, ?_, ?_, ?_⟩
  all_goals
    unfold Instr.index
    simp [ht, hs, go_sem]
end Go.Proofs.Ytckpbdphilifoaa.By
