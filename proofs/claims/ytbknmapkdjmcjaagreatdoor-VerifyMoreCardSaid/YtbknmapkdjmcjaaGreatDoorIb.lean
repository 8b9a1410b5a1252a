/-
  WALKS of layer 8: With, and the document's own.
-/
import Derived.Test.YtbknmapkdjmcjaaGreatDoorIa
namespace Go.Proofs.YtbknmapkdjmcjaaGreatDoor.By
open Go.ChangeShapes Go.WideShapes Go.ChangeAt Go.RowKit
open Mem

end Go.Proofs.YtbknmapkdjmcjaaGreatDoor.By
