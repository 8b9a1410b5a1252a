/-
  DERIVED. GIVEN WITH THE SEED: THE CARDS: each row of YtajlbiohaafpnaaDoorRows.lean that lists a variable, with what it lists TIED to the program's text (the seventh form; the later family's looks); each row that meets fmt, with fmt's text TOLD by the authors' own Lean function (tested against real Go, not proved from fmt's source: count such statements apart). THE CARD IS WHAT COUNTS. Prove the row's statement (the work); the ties are given (YtajlbiohaafpnaaDoorTie.lean); close each card by the builder's one call (the guide's Derived/Test/ToyasCard.lean, 'card_holds'). Laid BY PROGRAM, IN A SANDBOX (cutbox-door.mjs). By AI agents, Wed Nov 11 2026. No macro, syntax, notation, axiom, sorry.
-/
import Derived.Test.YtajlbiohaafpnaaDoorRows
import GoSem.ClaimSeven
namespace Go.Proofs.YtajlbiohaafpnaaDoor
namespace Rows

/-- THE TIED CARD OF 'sheerleglaw05.SigTells'. -/
def sigTellsCard : Claim7 := { stood := { row := sigTellsRow, standIns := [], harness := (true, "d61e69e3db6dcca0a583059541016ceeadf17278ab243de4a56725ffc46d24d4"), looks := false }, kinds := [], alts := [], laidByText := true, laidKinds := [.data], laidTests := true, laidLooks := .later }
def SigTellsCardSaid : Prop := Claim7.holds Tryd.pinned (.plain (OpenSpec.ofChange sigTellsSpec)) sigTellsCard

/-- THE TIED CARD OF 'sheerleglaw05.SigBack'. -/
def sigBackCard : Claim7 := { stood := { row := sigBackRow, standIns := [], harness := (true, "d61e69e3db6dcca0a583059541016ceeadf17278ab243de4a56725ffc46d24d4"), looks := false }, kinds := [], alts := [], laidByText := true, laidKinds := [.data], laidTests := true, laidLooks := .later }
def SigBackCardSaid : Prop := Claim7.holds Tryd.pinned (.plain (OpenSpec.ofChange sigBackSpec)) sigBackCard

/-- THE SECOND FORM's CARD OF 'sheerleglaw05.SigTells'. -/
def sigTellsUptoCard : Claim7 := { stood := { row := sigTellsUptoRow, standIns := [], harness := (true, "d61e69e3db6dcca0a583059541016ceeadf17278ab243de4a56725ffc46d24d4"), looks := false }, kinds := [], alts := [], laidByText := true, laidKinds := [.data], laidTests := true, laidLooks := .later }
def SigTellsUptoCardSaid : Prop := Claim7.holds Tryd.pinned (.plain (OpenSpec.upto sigTellsSpec)) sigTellsUptoCard

/-- THE SECOND FORM's CARD OF 'sheerleglaw05.SigBack'. -/
def sigBackUptoCard : Claim7 := { stood := { row := sigBackUptoRow, standIns := [], harness := (true, "d61e69e3db6dcca0a583059541016ceeadf17278ab243de4a56725ffc46d24d4"), looks := false }, kinds := [], alts := [], laidByText := true, laidKinds := [.data], laidTests := true, laidLooks := .later }
def SigBackUptoCardSaid : Prop := Claim7.holds Tryd.pinned (.plain (OpenSpec.upto sigBackSpec)) sigBackUptoCard
end Rows
end Go.Proofs.YtajlbiohaafpnaaDoor
