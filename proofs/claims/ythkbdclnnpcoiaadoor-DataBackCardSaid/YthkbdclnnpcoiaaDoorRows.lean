/-
  NARROWER THAN 'FOR EVERY INPUT', by the rows' own cells (each row's printed sentence says how): DataChecks: laid · DataOctets: laid · DataBack: laid.
  DERIVED. THE GIVEN ROWS OF THIS SEAT. 3 by the template 'for every input the law returns true; each argument reads behind the call as it read before'; 0 by the template 'total and deterministic' (their statements: YthkbdclnnpcoiaaDoorTotals.lean).
  GIVEN WITH THE SEED: the statements are not yours to turn. If you find one false, say at which input.
  Laid BY PROGRAM, IN A SANDBOX (cutbox-rows.mjs): the forced cells as the released guide's own fill.sh prints them over the translation e4c804afd8e42b6f… (all of the seat's roots in one cut). By AI agents, Wed Nov 11 2026. No macro, syntax, notation, axiom, sorry.
-/
import Derived.Test.YthkbdclnnpcoiaaDoorChecked
import GoSem.Claim
import GoSem.ClaimJoined
import GoSem.ClaimMapViews
import Derived.JoinedTies
import Derived.KernelRfl
namespace Go.Proofs.YthkbdclnnpcoiaaDoor
/- THE CELL 'sum', in the pinned program and in every row, IS THE sha256 OF THE DUMP (.gsa) THAT YthkbdclnnpcoiaaDoorProg.lean LOADS. Nothing in Lean hashes anything: it is a label: what it is worth is what the hold of that sum in a sandbox is worth. -/
noncomputable def Tryd.pinned : Pinned := { name := "ythkbdclnnpcoiaadoor", sum := "e4c804afd8e42b6ff2f67bd9f87202ceb5b1aca4bfeb8c0b7a6c7096961475c5", checked := Tryd.checked }
namespace Rows
def none {H : Type} : Left H := { results := [], args := [] }

/- WHAT THE LISTED PACKAGE-LEVEL VARIABLES READ AS WHEN THE CALL BEGINS. Each datum BY PROGRAM (the guide's laid-datum.mjs) off the statement by which the dump's own 'gosem.cut.vars' lays the variable. In a bare row this is a premise. The card (YthkbdclnnpcoiaaDoorCards.lean) ties it to the program's text. -/
def laid_sheerleg_sig_texts {H : Type} : DataW H := .agg [.lit (.string [110]), .lit (.string [102, 48]), .lit (.string [102, 48, 114]), .lit (.string [102, 49]), .lit (.string [102, 49, 114]), .lit (.string [102, 50]), .lit (.string [102, 50, 114]), .lit (.string [102, 51]), .lit (.string [102, 51, 114])]

/-- 'sheerleglaw15.DataChecks': WHATEVER THE INPUT: true; the input reads as it did. -/
def dataChecksSpec : ChangeSpec := { name := "dataChecks", fn := fun _ => fun
  | [d1, d2, d3] => { results := [.lit (.bool true)], args := [d1, d2, d3] }
  | _ => none }
def dataChecksRow : OpenClaim := { program := "ythkbdclnnpcoiaadoor", sum := "e4c804afd8e42b6ff2f67bd9f87202ceb5b1aca4bfeb8c0b7a6c7096961475c5", func := "sheerleg/sheerleglaw15.DataChecks", spec := "dataChecks", unfollowed := true, recurses := true, named := ["sheerleg/sig.texts"], apart := false, laid := [("sheerleg/sig.texts", laid_sheerleg_sig_texts)] }
def DataChecksSaid : Prop := dataChecksRow.holds Tryd.pinned (OpenSpec.ofChange dataChecksSpec)

/-- ITS FALSE NEIGHBOUR: 'it returns false'. Refute it at one input. -/
def dataChecksWrong : ChangeSpec := { name := "dataChecks", fn := fun _ => fun
  | [d1, d2, d3] => { results := [.lit (.bool false)], args := [d1, d2, d3] }
  | _ => none }
def DataChecksWrongFalsely : Prop := dataChecksRow.holds Tryd.pinned (OpenSpec.ofChange dataChecksWrong)

/-- 'sheerleglaw15.DataOctets': WHATEVER THE INPUT: true; the input reads as it did. -/
def dataOctetsSpec : ChangeSpec := { name := "dataOctets", fn := fun _ => fun
  | [d1, d2] => { results := [.lit (.bool true)], args := [d1, d2] }
  | _ => none }
def dataOctetsRow : OpenClaim := { program := "ythkbdclnnpcoiaadoor", sum := "e4c804afd8e42b6ff2f67bd9f87202ceb5b1aca4bfeb8c0b7a6c7096961475c5", func := "sheerleg/sheerleglaw15.DataOctets", spec := "dataOctets", unfollowed := true, recurses := true, named := ["sheerleg/sig.texts"], apart := false, laid := [("sheerleg/sig.texts", laid_sheerleg_sig_texts)] }
def DataOctetsSaid : Prop := dataOctetsRow.holds Tryd.pinned (OpenSpec.ofChange dataOctetsSpec)

/-- ITS FALSE NEIGHBOUR: 'it returns false'. Refute it at one input. -/
def dataOctetsWrong : ChangeSpec := { name := "dataOctets", fn := fun _ => fun
  | [d1, d2] => { results := [.lit (.bool false)], args := [d1, d2] }
  | _ => none }
def DataOctetsWrongFalsely : Prop := dataOctetsRow.holds Tryd.pinned (OpenSpec.ofChange dataOctetsWrong)

/-- 'sheerleglaw15.DataBack': WHATEVER THE INPUT: true; the input reads as it did. -/
def dataBackSpec : ChangeSpec := { name := "dataBack", fn := fun _ => fun
  | [d1, d2, d3] => { results := [.lit (.bool true)], args := [d1, d2, d3] }
  | _ => none }
def dataBackRow : OpenClaim := { program := "ythkbdclnnpcoiaadoor", sum := "e4c804afd8e42b6ff2f67bd9f87202ceb5b1aca4bfeb8c0b7a6c7096961475c5", func := "sheerleg/sheerleglaw15.DataBack", spec := "dataBack", unfollowed := true, recurses := true, named := ["sheerleg/sig.texts"], apart := false, laid := [("sheerleg/sig.texts", laid_sheerleg_sig_texts)] }
def DataBackSaid : Prop := dataBackRow.holds Tryd.pinned (OpenSpec.ofChange dataBackSpec)

/-- ITS FALSE NEIGHBOUR: 'it returns false'. Refute it at one input. -/
def dataBackWrong : ChangeSpec := { name := "dataBack", fn := fun _ => fun
  | [d1, d2, d3] => { results := [.lit (.bool false)], args := [d1, d2, d3] }
  | _ => none }
def DataBackWrongFalsely : Prop := dataBackRow.holds Tryd.pinned (OpenSpec.ofChange dataBackWrong)

/- THE SECOND FORM. 'bulk': how many values and letters a reading holds, each counted each time it is reached (what is shared counts as often as it is met; a slice's spare places count too). A statement '..UptoSaid' is the law's where the arguments, and the package variables that the reading takes, are together of bulk at most 1048576: NARROWER than '..Said'. Prove '..Said' where nothing that the law and all that it calls make is longer than what came in: it says more and counts as full. Else prove '..UptoSaid'. A law counts once. -/
mutual
def uptoBulk {H : Type} : DataW H → Nat
  | .lit (.string bytes) => bytes.length + 1
  | .lit _ => 1
  | .nil => 1
  | .ptr d => uptoBulk d + 1
  | .slice elems spare => uptoBulkAll elems + uptoBulkAll spare + 1
  | .agg parts => uptoBulkAll parts + 1
  | .iface _ d => uptoBulk d + 1
  | .map entries => uptoBulkEntries entries + 1
  | .held _ => 1
def uptoBulkAll {H : Type} : List (DataW H) → Nat
  | [] => 0
  | d :: r => uptoBulk d + uptoBulkAll r
def uptoBulkEntries {H : Type} : List (Lit × DataW H) → Nat
  | [] => 0
  | x :: r => uptoBulkEntry x + uptoBulkEntries r
def uptoBulkEntry {H : Type} : Lit × DataW H → Nat
  | (.string bytes, d) => bytes.length + uptoBulk d + 1
  | (_, d) => uptoBulk d + 1
 end
def uptoSmall : (H : Type) → List (DataW H) → Bool := fun _ ds => decide (uptoBulkAll ds ≤ 1048576)
def OpenSpec.upto (s : _root_.Go.ChangeSpec) : _root_.Go.OpenSpec := { _root_.Go.OpenSpec.ofChange s with cond := some uptoSmall }

/-- 'sheerleglaw15.DataChecks', WHERE WHAT IT READS IS OF BULK AT MOST 1048576: true; the input reads as it did. -/
def dataChecksUptoRow : OpenClaim := { program := "ythkbdclnnpcoiaadoor", sum := "e4c804afd8e42b6ff2f67bd9f87202ceb5b1aca4bfeb8c0b7a6c7096961475c5", func := "sheerleg/sheerleglaw15.DataChecks", spec := "dataChecks", unfollowed := true, recurses := true, named := ["sheerleg/sig.texts"], apart := false, laid := [("sheerleg/sig.texts", laid_sheerleg_sig_texts)], narrowed := true }
def DataChecksUptoSaid : Prop := dataChecksUptoRow.holds Tryd.pinned (OpenSpec.upto dataChecksSpec)

/-- 'sheerleglaw15.DataOctets', WHERE WHAT IT READS IS OF BULK AT MOST 1048576: true; the input reads as it did. -/
def dataOctetsUptoRow : OpenClaim := { program := "ythkbdclnnpcoiaadoor", sum := "e4c804afd8e42b6ff2f67bd9f87202ceb5b1aca4bfeb8c0b7a6c7096961475c5", func := "sheerleg/sheerleglaw15.DataOctets", spec := "dataOctets", unfollowed := true, recurses := true, named := ["sheerleg/sig.texts"], apart := false, laid := [("sheerleg/sig.texts", laid_sheerleg_sig_texts)], narrowed := true }
def DataOctetsUptoSaid : Prop := dataOctetsUptoRow.holds Tryd.pinned (OpenSpec.upto dataOctetsSpec)

/-- 'sheerleglaw15.DataBack', WHERE WHAT IT READS IS OF BULK AT MOST 1048576: true; the input reads as it did. -/
def dataBackUptoRow : OpenClaim := { program := "ythkbdclnnpcoiaadoor", sum := "e4c804afd8e42b6ff2f67bd9f87202ceb5b1aca4bfeb8c0b7a6c7096961475c5", func := "sheerleg/sheerleglaw15.DataBack", spec := "dataBack", unfollowed := true, recurses := true, named := ["sheerleg/sig.texts"], apart := false, laid := [("sheerleg/sig.texts", laid_sheerleg_sig_texts)], narrowed := true }
def DataBackUptoSaid : Prop := dataBackUptoRow.holds Tryd.pinned (OpenSpec.upto dataBackSpec)

end Rows
end Go.Proofs.YthkbdclnnpcoiaaDoor
