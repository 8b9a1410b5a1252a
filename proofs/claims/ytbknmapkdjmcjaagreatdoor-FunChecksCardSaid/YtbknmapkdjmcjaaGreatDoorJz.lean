/-
  WHAT THE ROW of FunChecks says of the program, one by one. WHAT THE ROW of FunChecks says of the program, gathered.
-/
import Derived.Test.YtbknmapkdjmcjaaGreatDoorCards
import Derived.Test.YtbknmapkdjmcjaaGreatDoorTie
import Derived.WalkKit
import Derived.ProofKit
import Derived.Stop.LaidErr
namespace Go.Proofs.YtbknmapkdjmcjaaGreatDoor.By
open Go.ChangeShapes Go.WideShapes Go.ChangeAt Go.RowKit
set_option maxRecDepth 100000
theorem j1 : (Rows.funChecksRow.inPlace == Tryz.pinned.checked.prog.inPlace 3) = true := by kernel_rfl
theorem j2 : (Rows.funChecksRow.unfollowed == Tryz.pinned.checked.prog.unfollowed 3) = true := by kernel_rfl
theorem j3 : (Rows.funChecksRow.recurses == Tryz.pinned.checked.prog.recurses 3) = true := by kernel_rfl
theorem j4 : (Rows.funChecksRow.named == Tryz.pinned.checked.prog.varsNamed 3) = true := by kernel_rfl
end Go.Proofs.YtbknmapkdjmcjaaGreatDoor.By

namespace Go.Proofs.YtbknmapkdjmcjaaGreatDoor.By
open Go.ChangeShapes Go.WideShapes Go.ChangeAt Go.RowKit
set_option maxRecDepth 100000
theorem jr : joinedFacts Tryz.pinned.checked.prog 3 Tryz.f3 (OpenSpec.ofChange Rows.funChecksSpec).bare Rows.funChecksRow = true := by
  unfold joinedFacts
  rw [j1, j2, j3, j4]
  kernel_rfl
end Go.Proofs.YtbknmapkdjmcjaaGreatDoor.By
