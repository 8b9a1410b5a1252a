/-
  NARROWER THAN 'FOR EVERY INPUT', by the rows' own cells (each row's printed sentence says how): FunChecks: laid · FunOctets: laid · FunBack: laid · VerifyTells: laid · VerifyRefers: laid · VerifyMore: laid · ObjectTells: laid · ObjectPairs: laid · FileTells: laid · FileBack: laid · FileTold: laid.
  DERIVED. THE GIVEN ROWS OF THIS SEAT. 11 by the template 'for every input the law returns true; each argument reads behind the call as it read before'; 0 by the template 'total and deterministic' (their statements: YtbknmapkdjmcjaaGreatDoorTotals.lean).
  GIVEN WITH THE SEED: the statements are not yours to turn. If you find one false, say at which input.
  Laid BY PROGRAM, IN A SANDBOX (cutbox-rows.mjs): the forced cells as the released guide's own fill.sh prints them over the translation 21bf9949180053aa… (all of the seat's roots in one cut). By AI agents, Wed Nov 11 2026. No macro, syntax, notation, axiom, sorry.
-/
import Derived.Test.YtbknmapkdjmcjaaGreatDoorChecked
import GoSem.Claim
import GoSem.ClaimJoined
import GoSem.ClaimMapViews
import Derived.JoinedTies
import Derived.KernelRfl
namespace Go.Proofs.YtbknmapkdjmcjaaGreatDoor
/- THE CELL 'sum', in the pinned program and in every row, IS THE sha256 OF THE DUMP (.gsa) THAT YtbknmapkdjmcjaaGreatDoorProg.lean LOADS. Nothing in Lean hashes anything: it is a label: what it is worth is what the hold of that sum in a sandbox is worth. -/
noncomputable def Tryz.pinned : Pinned := { name := "ytbknmapkdjmcjaagreatdoor", sum := "21bf9949180053aaed4ead470706590942da5161f56490264007be32c6ea703b", checked := Tryz.checked }
namespace Rows
def none {H : Type} : Left H := { results := [], args := [] }

/- WHAT THE LISTED PACKAGE-LEVEL VARIABLES READ AS WHEN THE CALL BEGINS. Each datum BY PROGRAM (the guide's laid-datum.mjs) off the statement by which the dump's own 'gosem.cut.vars' lays the variable. In a bare row this is a premise. The card (YtbknmapkdjmcjaaGreatDoorCards.lean) ties it to the program's text. -/
def laid_sheerleg_op_names {H : Type} : DataW H := .agg [.lit (.string []), .lit (.string [110, 111, 112]), .lit (.string [115, 101, 116]), .lit (.string [109, 111, 118, 101]), .lit (.string [97, 100, 100]), .lit (.string [115, 117, 98]), .lit (.string [109, 117, 108]), .lit (.string [100, 105, 118]), .lit (.string [109, 111, 100]), .lit (.string [108, 101, 115, 115]), .lit (.string [115, 97, 109, 101]), .lit (.string [106, 117, 109, 112]), .lit (.string [122, 101, 114, 111]), .lit (.string [105, 110]), .lit (.string [111, 117, 116]), .lit (.string [108, 111, 97, 100]), .lit (.string [115, 116, 111, 114, 101]), .lit (.string [102, 117, 110, 99]), .lit (.string [112, 105, 99, 107]), .lit (.string [99, 97, 108, 108]), .lit (.string [118, 105, 97]), .lit (.string [100, 101, 102, 101, 114]), .lit (.string [112, 97, 110, 105, 99]), .lit (.string [114, 101, 99, 111, 118, 101, 114]), .lit (.string [114, 101, 116, 117, 114, 110]), .lit (.string [99, 104, 101, 99, 107]), .lit (.string [101, 110, 116, 101, 114]), .lit (.string [98, 111, 116, 116, 111, 109]), .lit (.string [100, 114, 105, 118, 101, 114])]
def laid_sheerleg_op_shapes {H : Type} : DataW H := .agg [.lit (.string []), .lit (.string [45, 45, 45, 45]), .lit (.string [119, 45, 45, 110]), .lit (.string [119, 114, 45, 45]), .lit (.string [119, 114, 114, 45]), .lit (.string [119, 114, 114, 45]), .lit (.string [119, 114, 114, 45]), .lit (.string [119, 114, 114, 45]), .lit (.string [119, 114, 114, 45]), .lit (.string [119, 114, 114, 45]), .lit (.string [119, 114, 114, 45]), .lit (.string [45, 45, 45, 116]), .lit (.string [114, 45, 45, 116]), .lit (.string [119, 45, 45, 45]), .lit (.string [114, 45, 45, 45]), .lit (.string [119, 114, 45, 45]), .lit (.string [114, 114, 45, 45]), .lit (.string [103, 45, 45, 45]), .lit (.string [103, 114, 45, 45]), .lit (.string [99, 45, 45, 45]), .lit (.string [99, 102, 107, 45]), .lit (.string [100, 45, 45, 45]), .lit (.string [114, 45, 45, 45]), .lit (.string [119, 119, 45, 45]), .lit (.string [118, 45, 45, 45])]
def laid_sheerleg_sig_texts {H : Type} : DataW H := .agg [.lit (.string [110]), .lit (.string [102, 48]), .lit (.string [102, 48, 114]), .lit (.string [102, 49]), .lit (.string [102, 49, 114]), .lit (.string [102, 50]), .lit (.string [102, 50, 114]), .lit (.string [102, 51]), .lit (.string [102, 51, 114])]

/-- 'sheerleglaw16.FunChecks': WHATEVER THE INPUT: true; the input reads as it did. -/
def funChecksSpec : ChangeSpec := { name := "funChecks", fn := fun _ => fun
  | [d1, d2] => { results := [.lit (.bool true)], args := [d1, d2] }
  | _ => none }
def funChecksRow : OpenClaim := { program := "ytbknmapkdjmcjaagreatdoor", sum := "21bf9949180053aaed4ead470706590942da5161f56490264007be32c6ea703b", func := "sheerleg/sheerleglaw16.FunChecks", spec := "funChecks", unfollowed := true, recurses := true, named := ["sheerleg/op.names", "sheerleg/op.shapes", "sheerleg/sig.texts"], apart := false, laid := [("sheerleg/op.names", laid_sheerleg_op_names), ("sheerleg/op.shapes", laid_sheerleg_op_shapes), ("sheerleg/sig.texts", laid_sheerleg_sig_texts)] }
def FunChecksSaid : Prop := funChecksRow.holds Tryz.pinned (OpenSpec.ofChange funChecksSpec)

/-- ITS FALSE NEIGHBOUR: 'it returns false'. Refute it at one input. -/
def funChecksWrong : ChangeSpec := { name := "funChecks", fn := fun _ => fun
  | [d1, d2] => { results := [.lit (.bool false)], args := [d1, d2] }
  | _ => none }
def FunChecksWrongFalsely : Prop := funChecksRow.holds Tryz.pinned (OpenSpec.ofChange funChecksWrong)

/-- 'sheerleglaw16.FunOctets': WHATEVER THE INPUT: true; the input reads as it did. -/
def funOctetsSpec : ChangeSpec := { name := "funOctets", fn := fun _ => fun
  | [d1, d2] => { results := [.lit (.bool true)], args := [d1, d2] }
  | _ => none }
def funOctetsRow : OpenClaim := { program := "ytbknmapkdjmcjaagreatdoor", sum := "21bf9949180053aaed4ead470706590942da5161f56490264007be32c6ea703b", func := "sheerleg/sheerleglaw16.FunOctets", spec := "funOctets", unfollowed := true, recurses := true, named := ["sheerleg/op.names", "sheerleg/op.shapes", "sheerleg/sig.texts"], apart := false, laid := [("sheerleg/op.names", laid_sheerleg_op_names), ("sheerleg/op.shapes", laid_sheerleg_op_shapes), ("sheerleg/sig.texts", laid_sheerleg_sig_texts)] }
def FunOctetsSaid : Prop := funOctetsRow.holds Tryz.pinned (OpenSpec.ofChange funOctetsSpec)

/-- ITS FALSE NEIGHBOUR: 'it returns false'. Refute it at one input. -/
def funOctetsWrong : ChangeSpec := { name := "funOctets", fn := fun _ => fun
  | [d1, d2] => { results := [.lit (.bool false)], args := [d1, d2] }
  | _ => none }
def FunOctetsWrongFalsely : Prop := funOctetsRow.holds Tryz.pinned (OpenSpec.ofChange funOctetsWrong)

/-- 'sheerleglaw16.FunBack': WHATEVER THE INPUT: true; the input reads as it did. -/
def funBackSpec : ChangeSpec := { name := "funBack", fn := fun _ => fun
  | [d1, d2, d3] => { results := [.lit (.bool true)], args := [d1, d2, d3] }
  | _ => none }
def funBackRow : OpenClaim := { program := "ytbknmapkdjmcjaagreatdoor", sum := "21bf9949180053aaed4ead470706590942da5161f56490264007be32c6ea703b", func := "sheerleg/sheerleglaw16.FunBack", spec := "funBack", unfollowed := true, recurses := true, named := ["sheerleg/sig.texts", "sheerleg/op.names", "sheerleg/op.shapes"], apart := false, laid := [("sheerleg/op.names", laid_sheerleg_op_names), ("sheerleg/op.shapes", laid_sheerleg_op_shapes), ("sheerleg/sig.texts", laid_sheerleg_sig_texts)] }
def FunBackSaid : Prop := funBackRow.holds Tryz.pinned (OpenSpec.ofChange funBackSpec)

/-- ITS FALSE NEIGHBOUR: 'it returns false'. Refute it at one input. -/
def funBackWrong : ChangeSpec := { name := "funBack", fn := fun _ => fun
  | [d1, d2, d3] => { results := [.lit (.bool false)], args := [d1, d2, d3] }
  | _ => none }
def FunBackWrongFalsely : Prop := funBackRow.holds Tryz.pinned (OpenSpec.ofChange funBackWrong)

/-- 'sheerleglaw17.VerifyTells': WHATEVER THE INPUT: true; the input reads as it did. -/
def verifyTellsSpec : ChangeSpec := { name := "verifyTells", fn := fun _ => fun
  | [d1, d2, d3] => { results := [.lit (.bool true)], args := [d1, d2, d3] }
  | _ => none }
def verifyTellsRow : OpenClaim := { program := "ytbknmapkdjmcjaagreatdoor", sum := "21bf9949180053aaed4ead470706590942da5161f56490264007be32c6ea703b", func := "sheerleg/sheerleglaw17.VerifyTells", spec := "verifyTells", unfollowed := true, recurses := true, named := ["sheerleg/sig.texts", "sheerleg/op.names", "sheerleg/op.shapes"], apart := false, laid := [("sheerleg/op.names", laid_sheerleg_op_names), ("sheerleg/op.shapes", laid_sheerleg_op_shapes), ("sheerleg/sig.texts", laid_sheerleg_sig_texts)] }
def VerifyTellsSaid : Prop := verifyTellsRow.holds Tryz.pinned (OpenSpec.ofChange verifyTellsSpec)

/-- ITS FALSE NEIGHBOUR: 'it returns false'. Refute it at one input. -/
def verifyTellsWrong : ChangeSpec := { name := "verifyTells", fn := fun _ => fun
  | [d1, d2, d3] => { results := [.lit (.bool false)], args := [d1, d2, d3] }
  | _ => none }
def VerifyTellsWrongFalsely : Prop := verifyTellsRow.holds Tryz.pinned (OpenSpec.ofChange verifyTellsWrong)

/-- 'sheerleglaw17.VerifyRefers': WHATEVER THE INPUT: true; the input reads as it did. -/
def verifyRefersSpec : ChangeSpec := { name := "verifyRefers", fn := fun _ => fun
  | [d1, d2, d3] => { results := [.lit (.bool true)], args := [d1, d2, d3] }
  | _ => none }
def verifyRefersRow : OpenClaim := { program := "ytbknmapkdjmcjaagreatdoor", sum := "21bf9949180053aaed4ead470706590942da5161f56490264007be32c6ea703b", func := "sheerleg/sheerleglaw17.VerifyRefers", spec := "verifyRefers", unfollowed := true, recurses := true, named := ["sheerleg/sig.texts", "sheerleg/op.names", "sheerleg/op.shapes"], apart := false, laid := [("sheerleg/op.names", laid_sheerleg_op_names), ("sheerleg/op.shapes", laid_sheerleg_op_shapes), ("sheerleg/sig.texts", laid_sheerleg_sig_texts)] }
def VerifyRefersSaid : Prop := verifyRefersRow.holds Tryz.pinned (OpenSpec.ofChange verifyRefersSpec)

/-- ITS FALSE NEIGHBOUR: 'it returns false'. Refute it at one input. -/
def verifyRefersWrong : ChangeSpec := { name := "verifyRefers", fn := fun _ => fun
  | [d1, d2, d3] => { results := [.lit (.bool false)], args := [d1, d2, d3] }
  | _ => none }
def VerifyRefersWrongFalsely : Prop := verifyRefersRow.holds Tryz.pinned (OpenSpec.ofChange verifyRefersWrong)

/-- 'sheerleglaw17.VerifyMore': WHATEVER THE INPUT: true; the input reads as it did. -/
def verifyMoreSpec : ChangeSpec := { name := "verifyMore", fn := fun _ => fun
  | [d1, d2, d3] => { results := [.lit (.bool true)], args := [d1, d2, d3] }
  | _ => none }
def verifyMoreRow : OpenClaim := { program := "ytbknmapkdjmcjaagreatdoor", sum := "21bf9949180053aaed4ead470706590942da5161f56490264007be32c6ea703b", func := "sheerleg/sheerleglaw17.VerifyMore", spec := "verifyMore", unfollowed := true, recurses := true, named := ["sheerleg/sig.texts", "sheerleg/op.names", "sheerleg/op.shapes"], apart := false, laid := [("sheerleg/op.names", laid_sheerleg_op_names), ("sheerleg/op.shapes", laid_sheerleg_op_shapes), ("sheerleg/sig.texts", laid_sheerleg_sig_texts)] }
def VerifyMoreSaid : Prop := verifyMoreRow.holds Tryz.pinned (OpenSpec.ofChange verifyMoreSpec)

/-- ITS FALSE NEIGHBOUR: 'it returns false'. Refute it at one input. -/
def verifyMoreWrong : ChangeSpec := { name := "verifyMore", fn := fun _ => fun
  | [d1, d2, d3] => { results := [.lit (.bool false)], args := [d1, d2, d3] }
  | _ => none }
def VerifyMoreWrongFalsely : Prop := verifyMoreRow.holds Tryz.pinned (OpenSpec.ofChange verifyMoreWrong)

/-- 'sheerleglaw19.ObjectTells': WHATEVER THE INPUT: true; the input reads as it did. -/
def objectTellsSpec : ChangeSpec := { name := "objectTells", fn := fun _ => fun
  | [d1, d2] => { results := [.lit (.bool true)], args := [d1, d2] }
  | _ => none }
def objectTellsRow : OpenClaim := { program := "ytbknmapkdjmcjaagreatdoor", sum := "21bf9949180053aaed4ead470706590942da5161f56490264007be32c6ea703b", func := "sheerleg/sheerleglaw19.ObjectTells", spec := "objectTells", unfollowed := true, recurses := true, named := ["sheerleg/sig.texts", "sheerleg/op.names", "sheerleg/op.shapes"], apart := false, laid := [("sheerleg/op.names", laid_sheerleg_op_names), ("sheerleg/op.shapes", laid_sheerleg_op_shapes), ("sheerleg/sig.texts", laid_sheerleg_sig_texts)] }
def ObjectTellsSaid : Prop := objectTellsRow.holds Tryz.pinned (OpenSpec.ofChange objectTellsSpec)

/-- ITS FALSE NEIGHBOUR: 'it returns false'. Refute it at one input. -/
def objectTellsWrong : ChangeSpec := { name := "objectTells", fn := fun _ => fun
  | [d1, d2] => { results := [.lit (.bool false)], args := [d1, d2] }
  | _ => none }
def ObjectTellsWrongFalsely : Prop := objectTellsRow.holds Tryz.pinned (OpenSpec.ofChange objectTellsWrong)

/-- 'sheerleglaw19.ObjectPairs': WHATEVER THE INPUT: true; the input reads as it did. -/
def objectPairsSpec : ChangeSpec := { name := "objectPairs", fn := fun _ => fun
  | [d] => { results := [.lit (.bool true)], args := [d] }
  | _ => none }
def objectPairsRow : OpenClaim := { program := "ytbknmapkdjmcjaagreatdoor", sum := "21bf9949180053aaed4ead470706590942da5161f56490264007be32c6ea703b", func := "sheerleg/sheerleglaw19.ObjectPairs", spec := "objectPairs", unfollowed := true, recurses := true, named := ["sheerleg/sig.texts", "sheerleg/op.names", "sheerleg/op.shapes"], apart := false, laid := [("sheerleg/op.names", laid_sheerleg_op_names), ("sheerleg/op.shapes", laid_sheerleg_op_shapes), ("sheerleg/sig.texts", laid_sheerleg_sig_texts)] }
def ObjectPairsSaid : Prop := objectPairsRow.holds Tryz.pinned (OpenSpec.ofChange objectPairsSpec)

/-- ITS FALSE NEIGHBOUR: 'it returns false'. Refute it at one input. -/
def objectPairsWrong : ChangeSpec := { name := "objectPairs", fn := fun _ => fun
  | [d] => { results := [.lit (.bool false)], args := [d] }
  | _ => none }
def ObjectPairsWrongFalsely : Prop := objectPairsRow.holds Tryz.pinned (OpenSpec.ofChange objectPairsWrong)

/-- 'sheerleglaw20.FileTells': WHATEVER THE INPUT: true; the input reads as it did. -/
def fileTellsSpec : ChangeSpec := { name := "fileTells", fn := fun _ => fun
  | [d1, d2] => { results := [.lit (.bool true)], args := [d1, d2] }
  | _ => none }
def fileTellsRow : OpenClaim := { program := "ytbknmapkdjmcjaagreatdoor", sum := "21bf9949180053aaed4ead470706590942da5161f56490264007be32c6ea703b", func := "sheerleg/sheerleglaw20.FileTells", spec := "fileTells", unfollowed := true, recurses := true, named := ["sheerleg/sig.texts", "sheerleg/op.names", "sheerleg/op.shapes"], apart := false, laid := [("sheerleg/op.names", laid_sheerleg_op_names), ("sheerleg/op.shapes", laid_sheerleg_op_shapes), ("sheerleg/sig.texts", laid_sheerleg_sig_texts)] }
def FileTellsSaid : Prop := fileTellsRow.holds Tryz.pinned (OpenSpec.ofChange fileTellsSpec)

/-- ITS FALSE NEIGHBOUR: 'it returns false'. Refute it at one input. -/
def fileTellsWrong : ChangeSpec := { name := "fileTells", fn := fun _ => fun
  | [d1, d2] => { results := [.lit (.bool false)], args := [d1, d2] }
  | _ => none }
def FileTellsWrongFalsely : Prop := fileTellsRow.holds Tryz.pinned (OpenSpec.ofChange fileTellsWrong)

/-- 'sheerleglaw20.FileBack': WHATEVER THE INPUT: true; the input reads as it did. -/
def fileBackSpec : ChangeSpec := { name := "fileBack", fn := fun _ => fun
  | [d1, d2] => { results := [.lit (.bool true)], args := [d1, d2] }
  | _ => none }
def fileBackRow : OpenClaim := { program := "ytbknmapkdjmcjaagreatdoor", sum := "21bf9949180053aaed4ead470706590942da5161f56490264007be32c6ea703b", func := "sheerleg/sheerleglaw20.FileBack", spec := "fileBack", unfollowed := true, recurses := true, named := ["sheerleg/sig.texts", "sheerleg/op.names", "sheerleg/op.shapes"], apart := false, laid := [("sheerleg/op.names", laid_sheerleg_op_names), ("sheerleg/op.shapes", laid_sheerleg_op_shapes), ("sheerleg/sig.texts", laid_sheerleg_sig_texts)] }
def FileBackSaid : Prop := fileBackRow.holds Tryz.pinned (OpenSpec.ofChange fileBackSpec)

/-- ITS FALSE NEIGHBOUR: 'it returns false'. Refute it at one input. -/
def fileBackWrong : ChangeSpec := { name := "fileBack", fn := fun _ => fun
  | [d1, d2] => { results := [.lit (.bool false)], args := [d1, d2] }
  | _ => none }
def FileBackWrongFalsely : Prop := fileBackRow.holds Tryz.pinned (OpenSpec.ofChange fileBackWrong)

/-- 'sheerleglaw20.FileTold': WHATEVER THE INPUT: true; the input reads as it did. -/
def fileToldSpec : ChangeSpec := { name := "fileTold", fn := fun _ => fun
  | [d1, d2, d3] => { results := [.lit (.bool true)], args := [d1, d2, d3] }
  | _ => none }
def fileToldRow : OpenClaim := { program := "ytbknmapkdjmcjaagreatdoor", sum := "21bf9949180053aaed4ead470706590942da5161f56490264007be32c6ea703b", func := "sheerleg/sheerleglaw20.FileTold", spec := "fileTold", unfollowed := true, recurses := true, named := ["sheerleg/sig.texts", "sheerleg/op.names", "sheerleg/op.shapes"], apart := false, laid := [("sheerleg/op.names", laid_sheerleg_op_names), ("sheerleg/op.shapes", laid_sheerleg_op_shapes), ("sheerleg/sig.texts", laid_sheerleg_sig_texts)] }
def FileToldSaid : Prop := fileToldRow.holds Tryz.pinned (OpenSpec.ofChange fileToldSpec)

/-- ITS FALSE NEIGHBOUR: 'it returns false'. Refute it at one input. -/
def fileToldWrong : ChangeSpec := { name := "fileTold", fn := fun _ => fun
  | [d1, d2, d3] => { results := [.lit (.bool false)], args := [d1, d2, d3] }
  | _ => none }
def FileToldWrongFalsely : Prop := fileToldRow.holds Tryz.pinned (OpenSpec.ofChange fileToldWrong)

/- THE SECOND FORM. 'bulk': how many values and letters a reading holds, each counted each time it is reached (what is shared counts as often as it is met; a slice's spare places count too). A statement '..UptoSaid' is the law's where the arguments, and the package variables that the reading takes, are together of bulk at most 1048576: NARROWER than '..Said'. Prove '..Said' where nothing that the law and all that it calls make is longer than what came in: it says more and counts as full. Else prove '..UptoSaid'. A law counts once. -/
mutual
def uptoBulk {H : Type} : DataW H → Nat
  | .lit (.string bytes) => bytes.length + 1
  | .lit _ => 1
  | .nil => 1
  | .ptr d => uptoBulk d + 1
  | .slice elems spare => uptoBulkAll elems + uptoBulkAll spare + 1
  | .agg parts => uptoBulkAll parts + 1
  | .iface _ d => uptoBulk d + 1
  | .map entries => uptoBulkEntries entries + 1
  | .held _ => 1
def uptoBulkAll {H : Type} : List (DataW H) → Nat
  | [] => 0
  | d :: r => uptoBulk d + uptoBulkAll r
def uptoBulkEntries {H : Type} : List (Lit × DataW H) → Nat
  | [] => 0
  | x :: r => uptoBulkEntry x + uptoBulkEntries r
def uptoBulkEntry {H : Type} : Lit × DataW H → Nat
  | (.string bytes, d) => bytes.length + uptoBulk d + 1
  | (_, d) => uptoBulk d + 1
 end
def uptoSmall : (H : Type) → List (DataW H) → Bool := fun _ ds => decide (uptoBulkAll ds ≤ 1048576)
def OpenSpec.upto (s : _root_.Go.ChangeSpec) : _root_.Go.OpenSpec := { _root_.Go.OpenSpec.ofChange s with cond := some uptoSmall }

/-- 'sheerleglaw16.FunChecks', WHERE WHAT IT READS IS OF BULK AT MOST 1048576: true; the input reads as it did. -/
def funChecksUptoRow : OpenClaim := { program := "ytbknmapkdjmcjaagreatdoor", sum := "21bf9949180053aaed4ead470706590942da5161f56490264007be32c6ea703b", func := "sheerleg/sheerleglaw16.FunChecks", spec := "funChecks", unfollowed := true, recurses := true, named := ["sheerleg/op.names", "sheerleg/op.shapes", "sheerleg/sig.texts"], apart := false, laid := [("sheerleg/op.names", laid_sheerleg_op_names), ("sheerleg/op.shapes", laid_sheerleg_op_shapes), ("sheerleg/sig.texts", laid_sheerleg_sig_texts)], narrowed := true }
def FunChecksUptoSaid : Prop := funChecksUptoRow.holds Tryz.pinned (OpenSpec.upto funChecksSpec)

/-- 'sheerleglaw16.FunOctets', WHERE WHAT IT READS IS OF BULK AT MOST 1048576: true; the input reads as it did. -/
def funOctetsUptoRow : OpenClaim := { program := "ytbknmapkdjmcjaagreatdoor", sum := "21bf9949180053aaed4ead470706590942da5161f56490264007be32c6ea703b", func := "sheerleg/sheerleglaw16.FunOctets", spec := "funOctets", unfollowed := true, recurses := true, named := ["sheerleg/op.names", "sheerleg/op.shapes", "sheerleg/sig.texts"], apart := false, laid := [("sheerleg/op.names", laid_sheerleg_op_names), ("sheerleg/op.shapes", laid_sheerleg_op_shapes), ("sheerleg/sig.texts", laid_sheerleg_sig_texts)], narrowed := true }
def FunOctetsUptoSaid : Prop := funOctetsUptoRow.holds Tryz.pinned (OpenSpec.upto funOctetsSpec)

/-- 'sheerleglaw16.FunBack', WHERE WHAT IT READS IS OF BULK AT MOST 1048576: true; the input reads as it did. -/
def funBackUptoRow : OpenClaim := { program := "ytbknmapkdjmcjaagreatdoor", sum := "21bf9949180053aaed4ead470706590942da5161f56490264007be32c6ea703b", func := "sheerleg/sheerleglaw16.FunBack", spec := "funBack", unfollowed := true, recurses := true, named := ["sheerleg/sig.texts", "sheerleg/op.names", "sheerleg/op.shapes"], apart := false, laid := [("sheerleg/op.names", laid_sheerleg_op_names), ("sheerleg/op.shapes", laid_sheerleg_op_shapes), ("sheerleg/sig.texts", laid_sheerleg_sig_texts)], narrowed := true }
def FunBackUptoSaid : Prop := funBackUptoRow.holds Tryz.pinned (OpenSpec.upto funBackSpec)

/-- 'sheerleglaw17.VerifyTells', WHERE WHAT IT READS IS OF BULK AT MOST 1048576: true; the input reads as it did. -/
def verifyTellsUptoRow : OpenClaim := { program := "ytbknmapkdjmcjaagreatdoor", sum := "21bf9949180053aaed4ead470706590942da5161f56490264007be32c6ea703b", func := "sheerleg/sheerleglaw17.VerifyTells", spec := "verifyTells", unfollowed := true, recurses := true, named := ["sheerleg/sig.texts", "sheerleg/op.names", "sheerleg/op.shapes"], apart := false, laid := [("sheerleg/op.names", laid_sheerleg_op_names), ("sheerleg/op.shapes", laid_sheerleg_op_shapes), ("sheerleg/sig.texts", laid_sheerleg_sig_texts)], narrowed := true }
def VerifyTellsUptoSaid : Prop := verifyTellsUptoRow.holds Tryz.pinned (OpenSpec.upto verifyTellsSpec)

/-- 'sheerleglaw17.VerifyRefers', WHERE WHAT IT READS IS OF BULK AT MOST 1048576: true; the input reads as it did. -/
def verifyRefersUptoRow : OpenClaim := { program := "ytbknmapkdjmcjaagreatdoor", sum := "21bf9949180053aaed4ead470706590942da5161f56490264007be32c6ea703b", func := "sheerleg/sheerleglaw17.VerifyRefers", spec := "verifyRefers", unfollowed := true, recurses := true, named := ["sheerleg/sig.texts", "sheerleg/op.names", "sheerleg/op.shapes"], apart := false, laid := [("sheerleg/op.names", laid_sheerleg_op_names), ("sheerleg/op.shapes", laid_sheerleg_op_shapes), ("sheerleg/sig.texts", laid_sheerleg_sig_texts)], narrowed := true }
def VerifyRefersUptoSaid : Prop := verifyRefersUptoRow.holds Tryz.pinned (OpenSpec.upto verifyRefersSpec)

/-- 'sheerleglaw17.VerifyMore', WHERE WHAT IT READS IS OF BULK AT MOST 1048576: true; the input reads as it did. -/
def verifyMoreUptoRow : OpenClaim := { program := "ytbknmapkdjmcjaagreatdoor", sum := "21bf9949180053aaed4ead470706590942da5161f56490264007be32c6ea703b", func := "sheerleg/sheerleglaw17.VerifyMore", spec := "verifyMore", unfollowed := true, recurses := true, named := ["sheerleg/sig.texts", "sheerleg/op.names", "sheerleg/op.shapes"], apart := false, laid := [("sheerleg/op.names", laid_sheerleg_op_names), ("sheerleg/op.shapes", laid_sheerleg_op_shapes), ("sheerleg/sig.texts", laid_sheerleg_sig_texts)], narrowed := true }
def VerifyMoreUptoSaid : Prop := verifyMoreUptoRow.holds Tryz.pinned (OpenSpec.upto verifyMoreSpec)

/-- 'sheerleglaw19.ObjectTells', WHERE WHAT IT READS IS OF BULK AT MOST 1048576: true; the input reads as it did. -/
def objectTellsUptoRow : OpenClaim := { program := "ytbknmapkdjmcjaagreatdoor", sum := "21bf9949180053aaed4ead470706590942da5161f56490264007be32c6ea703b", func := "sheerleg/sheerleglaw19.ObjectTells", spec := "objectTells", unfollowed := true, recurses := true, named := ["sheerleg/sig.texts", "sheerleg/op.names", "sheerleg/op.shapes"], apart := false, laid := [("sheerleg/op.names", laid_sheerleg_op_names), ("sheerleg/op.shapes", laid_sheerleg_op_shapes), ("sheerleg/sig.texts", laid_sheerleg_sig_texts)], narrowed := true }
def ObjectTellsUptoSaid : Prop := objectTellsUptoRow.holds Tryz.pinned (OpenSpec.upto objectTellsSpec)

/-- 'sheerleglaw19.ObjectPairs', WHERE WHAT IT READS IS OF BULK AT MOST 1048576: true; the input reads as it did. -/
def objectPairsUptoRow : OpenClaim := { program := "ytbknmapkdjmcjaagreatdoor", sum := "21bf9949180053aaed4ead470706590942da5161f56490264007be32c6ea703b", func := "sheerleg/sheerleglaw19.ObjectPairs", spec := "objectPairs", unfollowed := true, recurses := true, named := ["sheerleg/sig.texts", "sheerleg/op.names", "sheerleg/op.shapes"], apart := false, laid := [("sheerleg/op.names", laid_sheerleg_op_names), ("sheerleg/op.shapes", laid_sheerleg_op_shapes), ("sheerleg/sig.texts", laid_sheerleg_sig_texts)], narrowed := true }
def ObjectPairsUptoSaid : Prop := objectPairsUptoRow.holds Tryz.pinned (OpenSpec.upto objectPairsSpec)

/-- 'sheerleglaw20.FileTells', WHERE WHAT IT READS IS OF BULK AT MOST 1048576: true; the input reads as it did. -/
def fileTellsUptoRow : OpenClaim := { program := "ytbknmapkdjmcjaagreatdoor", sum := "21bf9949180053aaed4ead470706590942da5161f56490264007be32c6ea703b", func := "sheerleg/sheerleglaw20.FileTells", spec := "fileTells", unfollowed := true, recurses := true, named := ["sheerleg/sig.texts", "sheerleg/op.names", "sheerleg/op.shapes"], apart := false, laid := [("sheerleg/op.names", laid_sheerleg_op_names), ("sheerleg/op.shapes", laid_sheerleg_op_shapes), ("sheerleg/sig.texts", laid_sheerleg_sig_texts)], narrowed := true }
def FileTellsUptoSaid : Prop := fileTellsUptoRow.holds Tryz.pinned (OpenSpec.upto fileTellsSpec)

/-- 'sheerleglaw20.FileBack', WHERE WHAT IT READS IS OF BULK AT MOST 1048576: true; the input reads as it did. -/
def fileBackUptoRow : OpenClaim := { program := "ytbknmapkdjmcjaagreatdoor", sum := "21bf9949180053aaed4ead470706590942da5161f56490264007be32c6ea703b", func := "sheerleg/sheerleglaw20.FileBack", spec := "fileBack", unfollowed := true, recurses := true, named := ["sheerleg/sig.texts", "sheerleg/op.names", "sheerleg/op.shapes"], apart := false, laid := [("sheerleg/op.names", laid_sheerleg_op_names), ("sheerleg/op.shapes", laid_sheerleg_op_shapes), ("sheerleg/sig.texts", laid_sheerleg_sig_texts)], narrowed := true }
def FileBackUptoSaid : Prop := fileBackUptoRow.holds Tryz.pinned (OpenSpec.upto fileBackSpec)

/-- 'sheerleglaw20.FileTold', WHERE WHAT IT READS IS OF BULK AT MOST 1048576: true; the input reads as it did. -/
def fileToldUptoRow : OpenClaim := { program := "ytbknmapkdjmcjaagreatdoor", sum := "21bf9949180053aaed4ead470706590942da5161f56490264007be32c6ea703b", func := "sheerleg/sheerleglaw20.FileTold", spec := "fileTold", unfollowed := true, recurses := true, named := ["sheerleg/sig.texts", "sheerleg/op.names", "sheerleg/op.shapes"], apart := false, laid := [("sheerleg/op.names", laid_sheerleg_op_names), ("sheerleg/op.shapes", laid_sheerleg_op_shapes), ("sheerleg/sig.texts", laid_sheerleg_sig_texts)], narrowed := true }
def FileToldUptoSaid : Prop := fileToldUptoRow.holds Tryz.pinned (OpenSpec.upto fileToldSpec)

end Rows
end Go.Proofs.YtbknmapkdjmcjaaGreatDoor
