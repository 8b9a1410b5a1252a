/-
  No cell of these rows narrows 'for every input' (looked for: loops, veiled, ifaces, maps, wideKeys, modest, calm, conditions, laid).
  DERIVED. THE GIVEN ROWS OF THIS SEAT. 3 by the template 'for every input the law returns true; each argument reads behind the call as it read before'; 0 by the template 'total and deterministic' (their statements: YtfgnlemoodfgoaaTotals.lean).
  GIVEN WITH THE SEED: the statements are not yours to turn. If you find one false, say at which input.
  Laid BY PROGRAM, IN A SANDBOX (cutbox-rows.mjs): the forced cells as the released guide's own fill.sh prints them over the translation 21bf3f3e4dcdfd86… (all of the seat's roots in one cut). By AI agents, Wed Nov 11 2026. No macro, syntax, notation, axiom, sorry.
-/
import Derived.Test.YtfgnlemoodfgoaaChecked
import GoSem.Claim
import GoSem.ClaimJoined
import GoSem.ClaimMapViews
import Derived.JoinedTies
import Derived.KernelRfl
namespace Go.Proofs.Ytfgnlemoodfgoaa
/- THE CELL 'sum', in the pinned program and in every row, IS THE sha256 OF THE DUMP (.gsa) THAT YtfgnlemoodfgoaaProg.lean LOADS. Nothing in Lean hashes anything: it is a label: what it is worth is what the hold of that sum in a sandbox is worth. -/
noncomputable def Try.pinned : Pinned := { name := "ytfgnlemoodfgoaa", sum := "21bf3f3e4dcdfd866429a67939c298d539c927c0d1dd2e60584ed3942d99c198", checked := Try.checked }
namespace Rows
def none {H : Type} : Left H := { results := [], args := [] }

/-- 'sheerleglaw10.DigraphTells': WHATEVER THE INPUT: true; the input reads as it did. -/
def digraphTellsSpec : ChangeSpec := { name := "digraphTells", fn := fun _ => fun
  | [d1, d2, d3, d4] => { results := [.lit (.bool true)], args := [d1, d2, d3, d4] }
  | _ => none }
def digraphTellsRow : OpenClaim := { program := "ytfgnlemoodfgoaa", sum := "21bf3f3e4dcdfd866429a67939c298d539c927c0d1dd2e60584ed3942d99c198", func := "sheerleg/sheerleglaw10.DigraphTells", spec := "digraphTells", unfollowed := true, recurses := true, apart := false }
def DigraphTellsSaid : Prop := digraphTellsRow.holds Try.pinned (OpenSpec.ofChange digraphTellsSpec)

/-- ITS FALSE NEIGHBOUR: 'it returns false'. Refute it at one input. -/
def digraphTellsWrong : ChangeSpec := { name := "digraphTells", fn := fun _ => fun
  | [d1, d2, d3, d4] => { results := [.lit (.bool false)], args := [d1, d2, d3, d4] }
  | _ => none }
def DigraphTellsWrongFalsely : Prop := digraphTellsRow.holds Try.pinned (OpenSpec.ofChange digraphTellsWrong)

/-- 'sheerleglaw10.DigraphTurns': WHATEVER THE INPUT: true; the input reads as it did. -/
def digraphTurnsSpec : ChangeSpec := { name := "digraphTurns", fn := fun _ => fun
  | [d1, d2, d3] => { results := [.lit (.bool true)], args := [d1, d2, d3] }
  | _ => none }
def digraphTurnsRow : OpenClaim := { program := "ytfgnlemoodfgoaa", sum := "21bf3f3e4dcdfd866429a67939c298d539c927c0d1dd2e60584ed3942d99c198", func := "sheerleg/sheerleglaw10.DigraphTurns", spec := "digraphTurns", unfollowed := true, recurses := true, apart := false }
def DigraphTurnsSaid : Prop := digraphTurnsRow.holds Try.pinned (OpenSpec.ofChange digraphTurnsSpec)

/-- ITS FALSE NEIGHBOUR: 'it returns false'. Refute it at one input. -/
def digraphTurnsWrong : ChangeSpec := { name := "digraphTurns", fn := fun _ => fun
  | [d1, d2, d3] => { results := [.lit (.bool false)], args := [d1, d2, d3] }
  | _ => none }
def DigraphTurnsWrongFalsely : Prop := digraphTurnsRow.holds Try.pinned (OpenSpec.ofChange digraphTurnsWrong)

/-- 'sheerleglaw10.DigraphMore': WHATEVER THE INPUT: true; the input reads as it did. -/
def digraphMoreSpec : ChangeSpec := { name := "digraphMore", fn := fun _ => fun
  | [d1, d2, d3] => { results := [.lit (.bool true)], args := [d1, d2, d3] }
  | _ => none }
def digraphMoreRow : OpenClaim := { program := "ytfgnlemoodfgoaa", sum := "21bf3f3e4dcdfd866429a67939c298d539c927c0d1dd2e60584ed3942d99c198", func := "sheerleg/sheerleglaw10.DigraphMore", spec := "digraphMore", unfollowed := true, recurses := true, apart := false }
def DigraphMoreSaid : Prop := digraphMoreRow.holds Try.pinned (OpenSpec.ofChange digraphMoreSpec)

/-- ITS FALSE NEIGHBOUR: 'it returns false'. Refute it at one input. -/
def digraphMoreWrong : ChangeSpec := { name := "digraphMore", fn := fun _ => fun
  | [d1, d2, d3] => { results := [.lit (.bool false)], args := [d1, d2, d3] }
  | _ => none }
def DigraphMoreWrongFalsely : Prop := digraphMoreRow.holds Try.pinned (OpenSpec.ofChange digraphMoreWrong)

/- THE SECOND FORM. 'bulk': how many values and letters a reading holds, each counted each time it is reached (what is shared counts as often as it is met; a slice's spare places count too). A statement '..UptoSaid' is the law's where the arguments, and the package variables that the reading takes, are together of bulk at most 1048576: NARROWER than '..Said'. Prove '..Said' where nothing that the law and all that it calls make is longer than what came in: it says more and counts as full. Else prove '..UptoSaid'. A law counts once. -/
mutual
def uptoBulk {H : Type} : DataW H → Nat
  | .lit (.string bytes) => bytes.length + 1
  | .lit _ => 1
  | .nil => 1
  | .ptr d => uptoBulk d + 1
  | .slice elems spare => uptoBulkAll elems + uptoBulkAll spare + 1
  | .agg parts => uptoBulkAll parts + 1
  | .iface _ d => uptoBulk d + 1
  | .map entries => uptoBulkEntries entries + 1
  | .held _ => 1
def uptoBulkAll {H : Type} : List (DataW H) → Nat
  | [] => 0
  | d :: r => uptoBulk d + uptoBulkAll r
def uptoBulkEntries {H : Type} : List (Lit × DataW H) → Nat
  | [] => 0
  | x :: r => uptoBulkEntry x + uptoBulkEntries r
def uptoBulkEntry {H : Type} : Lit × DataW H → Nat
  | (.string bytes, d) => bytes.length + uptoBulk d + 1
  | (_, d) => uptoBulk d + 1
 end
def uptoSmall : (H : Type) → List (DataW H) → Bool := fun _ ds => decide (uptoBulkAll ds ≤ 1048576)
def OpenSpec.upto (s : _root_.Go.ChangeSpec) : _root_.Go.OpenSpec := { _root_.Go.OpenSpec.ofChange s with cond := some uptoSmall }

/-- 'sheerleglaw10.DigraphTells', WHERE WHAT IT READS IS OF BULK AT MOST 1048576: true; the input reads as it did. -/
def digraphTellsUptoRow : OpenClaim := { program := "ytfgnlemoodfgoaa", sum := "21bf3f3e4dcdfd866429a67939c298d539c927c0d1dd2e60584ed3942d99c198", func := "sheerleg/sheerleglaw10.DigraphTells", spec := "digraphTells", unfollowed := true, recurses := true, apart := false, narrowed := true }
def DigraphTellsUptoSaid : Prop := digraphTellsUptoRow.holds Try.pinned (OpenSpec.upto digraphTellsSpec)

/-- 'sheerleglaw10.DigraphTurns', WHERE WHAT IT READS IS OF BULK AT MOST 1048576: true; the input reads as it did. -/
def digraphTurnsUptoRow : OpenClaim := { program := "ytfgnlemoodfgoaa", sum := "21bf3f3e4dcdfd866429a67939c298d539c927c0d1dd2e60584ed3942d99c198", func := "sheerleg/sheerleglaw10.DigraphTurns", spec := "digraphTurns", unfollowed := true, recurses := true, apart := false, narrowed := true }
def DigraphTurnsUptoSaid : Prop := digraphTurnsUptoRow.holds Try.pinned (OpenSpec.upto digraphTurnsSpec)

/-- 'sheerleglaw10.DigraphMore', WHERE WHAT IT READS IS OF BULK AT MOST 1048576: true; the input reads as it did. -/
def digraphMoreUptoRow : OpenClaim := { program := "ytfgnlemoodfgoaa", sum := "21bf3f3e4dcdfd866429a67939c298d539c927c0d1dd2e60584ed3942d99c198", func := "sheerleg/sheerleglaw10.DigraphMore", spec := "digraphMore", unfollowed := true, recurses := true, apart := false, narrowed := true }
def DigraphMoreUptoSaid : Prop := digraphMoreUptoRow.holds Try.pinned (OpenSpec.upto digraphMoreSpec)

end Rows
end Go.Proofs.Ytfgnlemoodfgoaa
