/-
  WALK of layer 9: the document's own Text.
-/
import Derived.Test.YtnplhpbbdgnmiaaDoorLv
namespace Go.Proofs.YtnplhpbbdgnmiaaDoor.Ln
open Go.RowKit
open Mem Go.Lib

def XAns (o a b c n : Int) (w : World) (e : Ending) (w' : World) : Prop := e = .returned (.tuple #[.string (txtV o a b c n).1, .int .i64 (txtV o a b c n).2]) ∧ Below w.heap.size w w'

theorem wrV_k (n : Int) : wrV (((107 : UInt8).toNat : Nat) : Int) n = (Si.textV (wrap64 (1 + n)), Si.isC n) := by unfold wrV; rw [if_pos (by decide)]
theorem wrV_n {x : UInt8} (h : x ≠ 107) (n : Int) : wrV ((x.toNat : Nat) : Int) n = (decB n, true) := by
  unfold wrV
  rw [if_neg fun e => h (UInt8.toNat_inj.1 (by have h2 : (107 : UInt8).toNat = 107 := rfl; omega))]

end Go.Proofs.YtnplhpbbdgnmiaaDoor.Ln
