/-
  WALKS of layer 7: the document's own Shape, Need, Ends; Find, and the document's own.
-/
import Derived.Test.YtnplhpbbdgnmiaaDoorVa
namespace Go.Proofs.YtnplhpbbdgnmiaaDoor.By
open Go.RowKit

end Go.Proofs.YtnplhpbbdgnmiaaDoor.By
