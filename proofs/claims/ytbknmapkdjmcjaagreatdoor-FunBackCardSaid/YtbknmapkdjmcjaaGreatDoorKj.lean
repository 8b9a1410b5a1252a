/-
  WHAT THE ROW of FunBack says of the program, one by one.
-/
import Derived.Test.YtbknmapkdjmcjaaGreatDoorCards
import Derived.Test.YtbknmapkdjmcjaaGreatDoorTie
import Derived.WalkKit
import Derived.ProofKit
import Derived.Stop.LaidErr
namespace Go.Proofs.YtbknmapkdjmcjaaGreatDoor.Bk
open Go.ChangeShapes Go.WideShapes Go.ChangeAt Go.RowKit
set_option maxRecDepth 100000
theorem j1 : (Rows.funBackRow.inPlace == Tryz.pinned.checked.prog.inPlace 5) = true := by kernel_rfl
theorem j2 : (Rows.funBackRow.unfollowed == Tryz.pinned.checked.prog.unfollowed 5) = true := by kernel_rfl
theorem j3 : (Rows.funBackRow.recurses == Tryz.pinned.checked.prog.recurses 5) = true := by kernel_rfl
theorem j4 : (Rows.funBackRow.named == Tryz.pinned.checked.prog.varsNamed 5) = true := by kernel_rfl
theorem jr : joinedFacts Tryz.pinned.checked.prog 5 Tryz.f5 (OpenSpec.ofChange Rows.funBackSpec).bare Rows.funBackRow = true := by
  unfold joinedFacts
  rw [j1, j2, j3, j4]
  kernel_rfl
end Go.Proofs.YtbknmapkdjmcjaaGreatDoor.Bk
