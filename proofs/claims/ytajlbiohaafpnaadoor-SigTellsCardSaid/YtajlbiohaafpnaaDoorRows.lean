/-
  NARROWER THAN 'FOR EVERY INPUT', by the rows' own cells (each row's printed sentence says how): SigTells: laid · SigBack: laid.
  DERIVED. THE GIVEN ROWS OF THIS SEAT. 2 by the template 'for every input the law returns true; each argument reads behind the call as it read before'; 0 by the template 'total and deterministic' (their statements: YtajlbiohaafpnaaDoorTotals.lean).
  GIVEN WITH THE SEED: the statements are not yours to turn. If you find one false, say at which input.
  Laid BY PROGRAM, IN A SANDBOX (cutbox-rows.mjs): the forced cells as the released guide's own fill.sh prints them over the translation 122c9a281ae195ea… (all of the seat's roots in one cut). By AI agents, Wed Nov 11 2026. No macro, syntax, notation, axiom, sorry.
-/
import Derived.Test.YtajlbiohaafpnaaDoorChecked
import GoSem.Claim
import GoSem.ClaimJoined
import GoSem.ClaimMapViews
import Derived.JoinedTies
import Derived.KernelRfl
namespace Go.Proofs.YtajlbiohaafpnaaDoor
/- THE CELL 'sum', in the pinned program and in every row, IS THE sha256 OF THE DUMP (.gsa) THAT YtajlbiohaafpnaaDoorProg.lean LOADS. Nothing in Lean hashes anything: it is a label: what it is worth is what the hold of that sum in a sandbox is worth. -/
noncomputable def Tryd.pinned : Pinned := { name := "ytajlbiohaafpnaadoor", sum := "122c9a281ae195ea80c7ab7d15b0d0d99d3ee4b0385cfff67108a312e7978d69", checked := Tryd.checked }
namespace Rows
def none {H : Type} : Left H := { results := [], args := [] }

/- WHAT THE LISTED PACKAGE-LEVEL VARIABLES READ AS WHEN THE CALL BEGINS. Each datum BY PROGRAM (the guide's laid-datum.mjs) off the statement by which the dump's own 'gosem.cut.vars' lays the variable. In a bare row this is a premise. The card (YtajlbiohaafpnaaDoorCards.lean) ties it to the program's text. -/
def laid_sheerleg_sig_texts {H : Type} : DataW H := .agg [.lit (.string [110]), .lit (.string [102, 48]), .lit (.string [102, 48, 114]), .lit (.string [102, 49]), .lit (.string [102, 49, 114]), .lit (.string [102, 50]), .lit (.string [102, 50, 114]), .lit (.string [102, 51]), .lit (.string [102, 51, 114])]

/-- 'sheerleglaw05.SigTells': WHATEVER THE INPUT: true; the input reads as it did. -/
def sigTellsSpec : ChangeSpec := { name := "sigTells", fn := fun _ => fun
  | [d1, d2, d3] => { results := [.lit (.bool true)], args := [d1, d2, d3] }
  | _ => none }
def sigTellsRow : OpenClaim := { program := "ytajlbiohaafpnaadoor", sum := "122c9a281ae195ea80c7ab7d15b0d0d99d3ee4b0385cfff67108a312e7978d69", func := "sheerleg/sheerleglaw05.SigTells", spec := "sigTells", named := ["sheerleg/sig.texts"], apart := false, laid := [("sheerleg/sig.texts", laid_sheerleg_sig_texts)] }
def SigTellsSaid : Prop := sigTellsRow.holds Tryd.pinned (OpenSpec.ofChange sigTellsSpec)

/-- ITS FALSE NEIGHBOUR: 'it returns false'. Refute it at one input. -/
def sigTellsWrong : ChangeSpec := { name := "sigTells", fn := fun _ => fun
  | [d1, d2, d3] => { results := [.lit (.bool false)], args := [d1, d2, d3] }
  | _ => none }
def SigTellsWrongFalsely : Prop := sigTellsRow.holds Tryd.pinned (OpenSpec.ofChange sigTellsWrong)

/-- 'sheerleglaw05.SigBack': WHATEVER THE INPUT: true; the input reads as it did. -/
def sigBackSpec : ChangeSpec := { name := "sigBack", fn := fun _ => fun
  | [d1, d2] => { results := [.lit (.bool true)], args := [d1, d2] }
  | _ => none }
def sigBackRow : OpenClaim := { program := "ytajlbiohaafpnaadoor", sum := "122c9a281ae195ea80c7ab7d15b0d0d99d3ee4b0385cfff67108a312e7978d69", func := "sheerleg/sheerleglaw05.SigBack", spec := "sigBack", named := ["sheerleg/sig.texts"], apart := false, laid := [("sheerleg/sig.texts", laid_sheerleg_sig_texts)] }
def SigBackSaid : Prop := sigBackRow.holds Tryd.pinned (OpenSpec.ofChange sigBackSpec)

/-- ITS FALSE NEIGHBOUR: 'it returns false'. Refute it at one input. -/
def sigBackWrong : ChangeSpec := { name := "sigBack", fn := fun _ => fun
  | [d1, d2] => { results := [.lit (.bool false)], args := [d1, d2] }
  | _ => none }
def SigBackWrongFalsely : Prop := sigBackRow.holds Tryd.pinned (OpenSpec.ofChange sigBackWrong)

/- THE SECOND FORM. 'bulk': how many values and letters a reading holds, each counted each time it is reached (what is shared counts as often as it is met; a slice's spare places count too). A statement '..UptoSaid' is the law's where the arguments, and the package variables that the reading takes, are together of bulk at most 1048576: NARROWER than '..Said'. Prove '..Said' where nothing that the law and all that it calls make is longer than what came in: it says more and counts as full. Else prove '..UptoSaid'. A law counts once. -/
mutual
def uptoBulk {H : Type} : DataW H → Nat
  | .lit (.string bytes) => bytes.length + 1
  | .lit _ => 1
  | .nil => 1
  | .ptr d => uptoBulk d + 1
  | .slice elems spare => uptoBulkAll elems + uptoBulkAll spare + 1
  | .agg parts => uptoBulkAll parts + 1
  | .iface _ d => uptoBulk d + 1
  | .map entries => uptoBulkEntries entries + 1
  | .held _ => 1
def uptoBulkAll {H : Type} : List (DataW H) → Nat
  | [] => 0
  | d :: r => uptoBulk d + uptoBulkAll r
def uptoBulkEntries {H : Type} : List (Lit × DataW H) → Nat
  | [] => 0
  | x :: r => uptoBulkEntry x + uptoBulkEntries r
def uptoBulkEntry {H : Type} : Lit × DataW H → Nat
  | (.string bytes, d) => bytes.length + uptoBulk d + 1
  | (_, d) => uptoBulk d + 1
 end
def uptoSmall : (H : Type) → List (DataW H) → Bool := fun _ ds => decide (uptoBulkAll ds ≤ 1048576)
def OpenSpec.upto (s : _root_.Go.ChangeSpec) : _root_.Go.OpenSpec := { _root_.Go.OpenSpec.ofChange s with cond := some uptoSmall }

/-- 'sheerleglaw05.SigTells', WHERE WHAT IT READS IS OF BULK AT MOST 1048576: true; the input reads as it did. -/
def sigTellsUptoRow : OpenClaim := { program := "ytajlbiohaafpnaadoor", sum := "122c9a281ae195ea80c7ab7d15b0d0d99d3ee4b0385cfff67108a312e7978d69", func := "sheerleg/sheerleglaw05.SigTells", spec := "sigTells", named := ["sheerleg/sig.texts"], apart := false, laid := [("sheerleg/sig.texts", laid_sheerleg_sig_texts)], narrowed := true }
def SigTellsUptoSaid : Prop := sigTellsUptoRow.holds Tryd.pinned (OpenSpec.upto sigTellsSpec)

/-- 'sheerleglaw05.SigBack', WHERE WHAT IT READS IS OF BULK AT MOST 1048576: true; the input reads as it did. -/
def sigBackUptoRow : OpenClaim := { program := "ytajlbiohaafpnaadoor", sum := "122c9a281ae195ea80c7ab7d15b0d0d99d3ee4b0385cfff67108a312e7978d69", func := "sheerleg/sheerleglaw05.SigBack", spec := "sigBack", named := ["sheerleg/sig.texts"], apart := false, laid := [("sheerleg/sig.texts", laid_sheerleg_sig_texts)], narrowed := true }
def SigBackUptoSaid : Prop := sigBackUptoRow.holds Tryd.pinned (OpenSpec.upto sigBackSpec)

end Rows
end Go.Proofs.YtajlbiohaafpnaaDoor
