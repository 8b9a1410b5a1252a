/-
  WALK: the reader's Text (function 30), whatever the reader and the bound; bytes as a text.
-/
import Derived.Test.YtieacapdfeljfaaDoorRm
import Derived.Laws.BytesArg
import Derived.Laws.IdiomStrings
namespace Go.Proofs.YtieacapdfeljfaaDoor.By
open Go.ChangeShapes Go.WideShapes Go.ChangeAt Go.RowKit
open Mem

/-- 'string(b)' of a slice that reads as bytes, nil or not. -/
theorem text_of {w : World} {B : Nat} {v : Value} {l : List UInt8} (h : SlV w B v (u8s l)) : (convert 30 9 v).run Tryd.prog w = .ok (.string ⟨l.toArray⟩) w := by
  generalize hu : u8s l = us at h
  cases h with
  | nil =>
    obtain rfl : l = [] := by simpa [u8s] using hu
    exact run_convert_bytes_nil w 30 5 Tryd.underlying30 Tryd.underlying5 0 0 9 Tryd.underlying9
  | at_ ad cap _ hc hm h =>
    subst hu
    rw [u8s_length]
    exact run_convert_bytes_back w 30 9 5 ad cap l Tryd.underlying30 Tryd.underlying5 Tryd.underlying9 fun j hj => (h j _ (by simp [u8s, hj])).2
end Go.Proofs.YtieacapdfeljfaaDoor.By
