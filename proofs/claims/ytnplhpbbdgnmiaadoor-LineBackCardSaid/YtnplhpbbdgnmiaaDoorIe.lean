/-
  WALK of layer 8: the document's own Check.
-/
import Derived.Test.YtnplhpbbdgnmiaaDoorIc
namespace Go.Proofs.YtnplhpbbdgnmiaaDoor.By
open Go.ChangeShapes Go.WideShapes Go.ChangeAt Go.RowKit
open Mem

theorem index_at (s : ByteArray) (pos : Nat) (h : pos < s.size) (w : World) : (Instr.index 9 (.string s) (.int .i64 pos)).run Tryd.prog w = .ok (.int .u8 ((s[pos]'h).toNat : Int)) w := by
  rw [run_index_string w 9 s .i64 pos Tryd.underlying9, dif_pos ⟨by omega, by omega⟩]
  simp

end Go.Proofs.YtnplhpbbdgnmiaaDoor.By
