/-
  NARROWER THAN 'FOR EVERY INPUT', by the rows' own cells (each row's printed sentence says how): OpTells: laid · OpBack: laid · InstrTells: laid · InstrGets: laid · InstrBack: laid.
  DERIVED. THE GIVEN ROWS OF THIS SEAT. 5 by the template 'for every input the law returns true; each argument reads behind the call as it read before'; 0 by the template 'total and deterministic' (their statements: YtieacapdfeljfaaDoorTotals.lean).
  GIVEN WITH THE SEED: the statements are not yours to turn. If you find one false, say at which input.
  Laid BY PROGRAM, IN A SANDBOX (cutbox-rows.mjs): the forced cells as the released guide's own fill.sh prints them over the translation ab706ec5d1a2b4e3… (all of the seat's roots in one cut). By AI agents, Wed Nov 11 2026. No macro, syntax, notation, axiom, sorry.
-/
import Derived.Test.YtieacapdfeljfaaDoorChecked
import GoSem.Claim
import GoSem.ClaimJoined
import GoSem.ClaimMapViews
import Derived.JoinedTies
import Derived.KernelRfl
namespace Go.Proofs.YtieacapdfeljfaaDoor
/- THE CELL 'sum', in the pinned program and in every row, IS THE sha256 OF THE DUMP (.gsa) THAT YtieacapdfeljfaaDoorProg.lean LOADS. Nothing in Lean hashes anything: it is a label: what it is worth is what the hold of that sum in a sandbox is worth. -/
noncomputable def Tryd.pinned : Pinned := { name := "ytieacapdfeljfaadoor", sum := "ab706ec5d1a2b4e37da128bef6260200ae0c09c54a7027c562a7fab84521543c", checked := Tryd.checked }
namespace Rows
def none {H : Type} : Left H := { results := [], args := [] }

/- WHAT THE LISTED PACKAGE-LEVEL VARIABLES READ AS WHEN THE CALL BEGINS. Each datum BY PROGRAM (the guide's laid-datum.mjs) off the statement by which the dump's own 'gosem.cut.vars' lays the variable. In a bare row this is a premise. The card (YtieacapdfeljfaaDoorCards.lean) ties it to the program's text. -/
def laid_sheerleg_op_names {H : Type} : DataW H := .agg [.lit (.string []), .lit (.string [110, 111, 112]), .lit (.string [115, 101, 116]), .lit (.string [109, 111, 118, 101]), .lit (.string [97, 100, 100]), .lit (.string [115, 117, 98]), .lit (.string [109, 117, 108]), .lit (.string [100, 105, 118]), .lit (.string [109, 111, 100]), .lit (.string [108, 101, 115, 115]), .lit (.string [115, 97, 109, 101]), .lit (.string [106, 117, 109, 112]), .lit (.string [122, 101, 114, 111]), .lit (.string [105, 110]), .lit (.string [111, 117, 116]), .lit (.string [108, 111, 97, 100]), .lit (.string [115, 116, 111, 114, 101]), .lit (.string [102, 117, 110, 99]), .lit (.string [112, 105, 99, 107]), .lit (.string [99, 97, 108, 108]), .lit (.string [118, 105, 97]), .lit (.string [100, 101, 102, 101, 114]), .lit (.string [112, 97, 110, 105, 99]), .lit (.string [114, 101, 99, 111, 118, 101, 114]), .lit (.string [114, 101, 116, 117, 114, 110]), .lit (.string [99, 104, 101, 99, 107]), .lit (.string [101, 110, 116, 101, 114]), .lit (.string [98, 111, 116, 116, 111, 109]), .lit (.string [100, 114, 105, 118, 101, 114])]
def laid_sheerleg_op_shapes {H : Type} : DataW H := .agg [.lit (.string []), .lit (.string [45, 45, 45, 45]), .lit (.string [119, 45, 45, 110]), .lit (.string [119, 114, 45, 45]), .lit (.string [119, 114, 114, 45]), .lit (.string [119, 114, 114, 45]), .lit (.string [119, 114, 114, 45]), .lit (.string [119, 114, 114, 45]), .lit (.string [119, 114, 114, 45]), .lit (.string [119, 114, 114, 45]), .lit (.string [119, 114, 114, 45]), .lit (.string [45, 45, 45, 116]), .lit (.string [114, 45, 45, 116]), .lit (.string [119, 45, 45, 45]), .lit (.string [114, 45, 45, 45]), .lit (.string [119, 114, 45, 45]), .lit (.string [114, 114, 45, 45]), .lit (.string [103, 45, 45, 45]), .lit (.string [103, 114, 45, 45]), .lit (.string [99, 45, 45, 45]), .lit (.string [99, 102, 107, 45]), .lit (.string [100, 45, 45, 45]), .lit (.string [114, 45, 45, 45]), .lit (.string [119, 119, 45, 45]), .lit (.string [118, 45, 45, 45])]

/-- 'sheerleglaw07.OpTells': WHATEVER THE INPUT: true; the input reads as it did. -/
def opTellsSpec : ChangeSpec := { name := "opTells", fn := fun _ => fun
  | [d1, d2] => { results := [.lit (.bool true)], args := [d1, d2] }
  | _ => none }
def opTellsRow : OpenClaim := { program := "ytieacapdfeljfaadoor", sum := "ab706ec5d1a2b4e37da128bef6260200ae0c09c54a7027c562a7fab84521543c", func := "sheerleg/sheerleglaw07.OpTells", spec := "opTells", named := ["sheerleg/op.names", "sheerleg/op.shapes"], apart := false, laid := [("sheerleg/op.names", laid_sheerleg_op_names), ("sheerleg/op.shapes", laid_sheerleg_op_shapes)] }
def OpTellsSaid : Prop := opTellsRow.holds Tryd.pinned (OpenSpec.ofChange opTellsSpec)

/-- ITS FALSE NEIGHBOUR: 'it returns false'. Refute it at one input. -/
def opTellsWrong : ChangeSpec := { name := "opTells", fn := fun _ => fun
  | [d1, d2] => { results := [.lit (.bool false)], args := [d1, d2] }
  | _ => none }
def OpTellsWrongFalsely : Prop := opTellsRow.holds Tryd.pinned (OpenSpec.ofChange opTellsWrong)

/-- 'sheerleglaw07.OpBack': WHATEVER THE INPUT: true; the input reads as it did. -/
def opBackSpec : ChangeSpec := { name := "opBack", fn := fun _ => fun
  | [d] => { results := [.lit (.bool true)], args := [d] }
  | _ => none }
def opBackRow : OpenClaim := { program := "ytieacapdfeljfaadoor", sum := "ab706ec5d1a2b4e37da128bef6260200ae0c09c54a7027c562a7fab84521543c", func := "sheerleg/sheerleglaw07.OpBack", spec := "opBack", named := ["sheerleg/op.shapes", "sheerleg/op.names"], apart := false, laid := [("sheerleg/op.names", laid_sheerleg_op_names), ("sheerleg/op.shapes", laid_sheerleg_op_shapes)] }
def OpBackSaid : Prop := opBackRow.holds Tryd.pinned (OpenSpec.ofChange opBackSpec)

/-- ITS FALSE NEIGHBOUR: 'it returns false'. Refute it at one input. -/
def opBackWrong : ChangeSpec := { name := "opBack", fn := fun _ => fun
  | [d] => { results := [.lit (.bool false)], args := [d] }
  | _ => none }
def OpBackWrongFalsely : Prop := opBackRow.holds Tryd.pinned (OpenSpec.ofChange opBackWrong)

/-- 'sheerleglaw08.InstrTells': WHATEVER THE INPUT: true; the input reads as it did. -/
def instrTellsSpec : ChangeSpec := { name := "instrTells", fn := fun _ => fun
  | [d1, d2, d3, d4] => { results := [.lit (.bool true)], args := [d1, d2, d3, d4] }
  | _ => none }
def instrTellsRow : OpenClaim := { program := "ytieacapdfeljfaadoor", sum := "ab706ec5d1a2b4e37da128bef6260200ae0c09c54a7027c562a7fab84521543c", func := "sheerleg/sheerleglaw08.InstrTells", spec := "instrTells", unfollowed := true, recurses := true, named := ["sheerleg/op.names", "sheerleg/op.shapes"], apart := false, laid := [("sheerleg/op.names", laid_sheerleg_op_names), ("sheerleg/op.shapes", laid_sheerleg_op_shapes)] }
def InstrTellsSaid : Prop := instrTellsRow.holds Tryd.pinned (OpenSpec.ofChange instrTellsSpec)

/-- ITS FALSE NEIGHBOUR: 'it returns false'. Refute it at one input. -/
def instrTellsWrong : ChangeSpec := { name := "instrTells", fn := fun _ => fun
  | [d1, d2, d3, d4] => { results := [.lit (.bool false)], args := [d1, d2, d3, d4] }
  | _ => none }
def InstrTellsWrongFalsely : Prop := instrTellsRow.holds Tryd.pinned (OpenSpec.ofChange instrTellsWrong)

/-- 'sheerleglaw08.InstrGets': WHATEVER THE INPUT: true; the input reads as it did. -/
def instrGetsSpec : ChangeSpec := { name := "instrGets", fn := fun _ => fun
  | [d1, d2] => { results := [.lit (.bool true)], args := [d1, d2] }
  | _ => none }
def instrGetsRow : OpenClaim := { program := "ytieacapdfeljfaadoor", sum := "ab706ec5d1a2b4e37da128bef6260200ae0c09c54a7027c562a7fab84521543c", func := "sheerleg/sheerleglaw08.InstrGets", spec := "instrGets", unfollowed := true, recurses := true, named := ["sheerleg/op.names", "sheerleg/op.shapes"], apart := false, laid := [("sheerleg/op.names", laid_sheerleg_op_names), ("sheerleg/op.shapes", laid_sheerleg_op_shapes)] }
def InstrGetsSaid : Prop := instrGetsRow.holds Tryd.pinned (OpenSpec.ofChange instrGetsSpec)

/-- ITS FALSE NEIGHBOUR: 'it returns false'. Refute it at one input. -/
def instrGetsWrong : ChangeSpec := { name := "instrGets", fn := fun _ => fun
  | [d1, d2] => { results := [.lit (.bool false)], args := [d1, d2] }
  | _ => none }
def InstrGetsWrongFalsely : Prop := instrGetsRow.holds Tryd.pinned (OpenSpec.ofChange instrGetsWrong)

/-- 'sheerleglaw08.InstrBack': WHATEVER THE INPUT: true; the input reads as it did. -/
def instrBackSpec : ChangeSpec := { name := "instrBack", fn := fun _ => fun
  | [d1, d2, d3] => { results := [.lit (.bool true)], args := [d1, d2, d3] }
  | _ => none }
def instrBackRow : OpenClaim := { program := "ytieacapdfeljfaadoor", sum := "ab706ec5d1a2b4e37da128bef6260200ae0c09c54a7027c562a7fab84521543c", func := "sheerleg/sheerleglaw08.InstrBack", spec := "instrBack", unfollowed := true, recurses := true, named := ["sheerleg/op.names", "sheerleg/op.shapes"], apart := false, laid := [("sheerleg/op.names", laid_sheerleg_op_names), ("sheerleg/op.shapes", laid_sheerleg_op_shapes)] }
def InstrBackSaid : Prop := instrBackRow.holds Tryd.pinned (OpenSpec.ofChange instrBackSpec)

/-- ITS FALSE NEIGHBOUR: 'it returns false'. Refute it at one input. -/
def instrBackWrong : ChangeSpec := { name := "instrBack", fn := fun _ => fun
  | [d1, d2, d3] => { results := [.lit (.bool false)], args := [d1, d2, d3] }
  | _ => none }
def InstrBackWrongFalsely : Prop := instrBackRow.holds Tryd.pinned (OpenSpec.ofChange instrBackWrong)

/- THE SECOND FORM. 'bulk': how many values and letters a reading holds, each counted each time it is reached (what is shared counts as often as it is met; a slice's spare places count too). A statement '..UptoSaid' is the law's where the arguments, and the package variables that the reading takes, are together of bulk at most 1048576: NARROWER than '..Said'. Prove '..Said' where nothing that the law and all that it calls make is longer than what came in: it says more and counts as full. Else prove '..UptoSaid'. A law counts once. -/
mutual
def uptoBulk {H : Type} : DataW H → Nat
  | .lit (.string bytes) => bytes.length + 1
  | .lit _ => 1
  | .nil => 1
  | .ptr d => uptoBulk d + 1
  | .slice elems spare => uptoBulkAll elems + uptoBulkAll spare + 1
  | .agg parts => uptoBulkAll parts + 1
  | .iface _ d => uptoBulk d + 1
  | .map entries => uptoBulkEntries entries + 1
  | .held _ => 1
def uptoBulkAll {H : Type} : List (DataW H) → Nat
  | [] => 0
  | d :: r => uptoBulk d + uptoBulkAll r
def uptoBulkEntries {H : Type} : List (Lit × DataW H) → Nat
  | [] => 0
  | x :: r => uptoBulkEntry x + uptoBulkEntries r
def uptoBulkEntry {H : Type} : Lit × DataW H → Nat
  | (.string bytes, d) => bytes.length + uptoBulk d + 1
  | (_, d) => uptoBulk d + 1
 end
def uptoSmall : (H : Type) → List (DataW H) → Bool := fun _ ds => decide (uptoBulkAll ds ≤ 1048576)
def OpenSpec.upto (s : _root_.Go.ChangeSpec) : _root_.Go.OpenSpec := { _root_.Go.OpenSpec.ofChange s with cond := some uptoSmall }

/-- 'sheerleglaw07.OpTells', WHERE WHAT IT READS IS OF BULK AT MOST 1048576: true; the input reads as it did. -/
def opTellsUptoRow : OpenClaim := { program := "ytieacapdfeljfaadoor", sum := "ab706ec5d1a2b4e37da128bef6260200ae0c09c54a7027c562a7fab84521543c", func := "sheerleg/sheerleglaw07.OpTells", spec := "opTells", named := ["sheerleg/op.names", "sheerleg/op.shapes"], apart := false, laid := [("sheerleg/op.names", laid_sheerleg_op_names), ("sheerleg/op.shapes", laid_sheerleg_op_shapes)], narrowed := true }
def OpTellsUptoSaid : Prop := opTellsUptoRow.holds Tryd.pinned (OpenSpec.upto opTellsSpec)

/-- 'sheerleglaw07.OpBack', WHERE WHAT IT READS IS OF BULK AT MOST 1048576: true; the input reads as it did. -/
def opBackUptoRow : OpenClaim := { program := "ytieacapdfeljfaadoor", sum := "ab706ec5d1a2b4e37da128bef6260200ae0c09c54a7027c562a7fab84521543c", func := "sheerleg/sheerleglaw07.OpBack", spec := "opBack", named := ["sheerleg/op.shapes", "sheerleg/op.names"], apart := false, laid := [("sheerleg/op.names", laid_sheerleg_op_names), ("sheerleg/op.shapes", laid_sheerleg_op_shapes)], narrowed := true }
def OpBackUptoSaid : Prop := opBackUptoRow.holds Tryd.pinned (OpenSpec.upto opBackSpec)

/-- 'sheerleglaw08.InstrTells', WHERE WHAT IT READS IS OF BULK AT MOST 1048576: true; the input reads as it did. -/
def instrTellsUptoRow : OpenClaim := { program := "ytieacapdfeljfaadoor", sum := "ab706ec5d1a2b4e37da128bef6260200ae0c09c54a7027c562a7fab84521543c", func := "sheerleg/sheerleglaw08.InstrTells", spec := "instrTells", unfollowed := true, recurses := true, named := ["sheerleg/op.names", "sheerleg/op.shapes"], apart := false, laid := [("sheerleg/op.names", laid_sheerleg_op_names), ("sheerleg/op.shapes", laid_sheerleg_op_shapes)], narrowed := true }
def InstrTellsUptoSaid : Prop := instrTellsUptoRow.holds Tryd.pinned (OpenSpec.upto instrTellsSpec)

/-- 'sheerleglaw08.InstrGets', WHERE WHAT IT READS IS OF BULK AT MOST 1048576: true; the input reads as it did. -/
def instrGetsUptoRow : OpenClaim := { program := "ytieacapdfeljfaadoor", sum := "ab706ec5d1a2b4e37da128bef6260200ae0c09c54a7027c562a7fab84521543c", func := "sheerleg/sheerleglaw08.InstrGets", spec := "instrGets", unfollowed := true, recurses := true, named := ["sheerleg/op.names", "sheerleg/op.shapes"], apart := false, laid := [("sheerleg/op.names", laid_sheerleg_op_names), ("sheerleg/op.shapes", laid_sheerleg_op_shapes)], narrowed := true }
def InstrGetsUptoSaid : Prop := instrGetsUptoRow.holds Tryd.pinned (OpenSpec.upto instrGetsSpec)

/-- 'sheerleglaw08.InstrBack', WHERE WHAT IT READS IS OF BULK AT MOST 1048576: true; the input reads as it did. -/
def instrBackUptoRow : OpenClaim := { program := "ytieacapdfeljfaadoor", sum := "ab706ec5d1a2b4e37da128bef6260200ae0c09c54a7027c562a7fab84521543c", func := "sheerleg/sheerleglaw08.InstrBack", spec := "instrBack", unfollowed := true, recurses := true, named := ["sheerleg/op.names", "sheerleg/op.shapes"], apart := false, laid := [("sheerleg/op.names", laid_sheerleg_op_names), ("sheerleg/op.shapes", laid_sheerleg_op_shapes)], narrowed := true }
def InstrBackUptoSaid : Prop := instrBackUptoRow.holds Tryd.pinned (OpenSpec.upto instrBackSpec)

end Rows
end Go.Proofs.YtieacapdfeljfaaDoor
