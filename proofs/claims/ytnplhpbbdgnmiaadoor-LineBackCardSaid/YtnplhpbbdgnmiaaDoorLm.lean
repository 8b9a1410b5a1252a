/-
  WALKS of layer 9: the document's Number, walked.
-/
import Derived.Test.YtnplhpbbdgnmiaaDoorLk
namespace Go.Proofs.YtnplhpbbdgnmiaaDoor.Ln
open Go.RowKit
open Mem Go.Lib

theorem frm_le (s : ByteArray) : frm s ≤ 1 := by unfold frm; split <;> omega

end Go.Proofs.YtnplhpbbdgnmiaaDoor.Ln
