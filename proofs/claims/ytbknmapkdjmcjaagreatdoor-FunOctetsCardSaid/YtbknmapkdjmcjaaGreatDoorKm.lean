/-
  WHAT THE ROW of FunOctets says of the program, one by one.
-/
import Derived.Test.YtbknmapkdjmcjaaGreatDoorCards
import Derived.Test.YtbknmapkdjmcjaaGreatDoorTie
import Derived.WalkKit
import Derived.ProofKit
import Derived.Stop.LaidErr
namespace Go.Proofs.YtbknmapkdjmcjaaGreatDoor.Bo
open Go.ChangeShapes Go.WideShapes Go.ChangeAt Go.RowKit
set_option maxRecDepth 100000
theorem j1 : (Rows.funOctetsRow.inPlace == Tryz.pinned.checked.prog.inPlace 4) = true := by kernel_rfl
theorem j2 : (Rows.funOctetsRow.unfollowed == Tryz.pinned.checked.prog.unfollowed 4) = true := by kernel_rfl
theorem j3 : (Rows.funOctetsRow.recurses == Tryz.pinned.checked.prog.recurses 4) = true := by kernel_rfl
theorem j4 : (Rows.funOctetsRow.named == Tryz.pinned.checked.prog.varsNamed 4) = true := by kernel_rfl
theorem jr : joinedFacts Tryz.pinned.checked.prog 4 Tryz.f4 (OpenSpec.ofChange Rows.funOctetsSpec).bare Rows.funOctetsRow = true := by
  unfold joinedFacts
  rw [j1, j2, j3, j4]
  kernel_rfl
end Go.Proofs.YtbknmapkdjmcjaaGreatDoor.Bo
