/-
  DERIVED. GIVEN WITH THE SEED: THE CARDS: each row of YthkbdclnnpcoiaaDoorRows.lean that lists a variable, with what it lists TIED to the program's text (the seventh form; the later family's looks); each row that meets fmt, with fmt's text TOLD by the authors' own Lean function (tested against real Go, not proved from fmt's source: count such statements apart). THE CARD IS WHAT COUNTS. Prove the row's statement (the work); the ties are given (YthkbdclnnpcoiaaDoorTie.lean); close each card by the builder's one call (the guide's Derived/Test/ToyasCard.lean, 'card_holds'). Laid BY PROGRAM, IN A SANDBOX (cutbox-door.mjs). By AI agents, Wed Nov 11 2026. No macro, syntax, notation, axiom, sorry.
-/
import Derived.Test.YthkbdclnnpcoiaaDoorRows
import GoSem.ClaimSeven
namespace Go.Proofs.YthkbdclnnpcoiaaDoor
namespace Rows

/-- THE TIED CARD OF 'sheerleglaw15.DataChecks'. -/
def dataChecksCard : Claim7 := { stood := { row := dataChecksRow, standIns := [], harness := (true, "fb6c5c74952e61b5e72d0609b7a7003a105aefd394dbb5944271496ede3b7db9"), looks := false }, kinds := [], alts := [], laidByText := true, laidKinds := [.data], laidTests := true, laidLooks := .later }
def DataChecksCardSaid : Prop := Claim7.holds Tryd.pinned (.plain (OpenSpec.ofChange dataChecksSpec)) dataChecksCard

/-- THE TIED CARD OF 'sheerleglaw15.DataOctets'. -/
def dataOctetsCard : Claim7 := { stood := { row := dataOctetsRow, standIns := [], harness := (true, "fb6c5c74952e61b5e72d0609b7a7003a105aefd394dbb5944271496ede3b7db9"), looks := false }, kinds := [], alts := [], laidByText := true, laidKinds := [.data], laidTests := true, laidLooks := .later }
def DataOctetsCardSaid : Prop := Claim7.holds Tryd.pinned (.plain (OpenSpec.ofChange dataOctetsSpec)) dataOctetsCard

/-- THE TIED CARD OF 'sheerleglaw15.DataBack'. -/
def dataBackCard : Claim7 := { stood := { row := dataBackRow, standIns := [], harness := (true, "fb6c5c74952e61b5e72d0609b7a7003a105aefd394dbb5944271496ede3b7db9"), looks := false }, kinds := [], alts := [], laidByText := true, laidKinds := [.data], laidTests := true, laidLooks := .later }
def DataBackCardSaid : Prop := Claim7.holds Tryd.pinned (.plain (OpenSpec.ofChange dataBackSpec)) dataBackCard

/-- THE SECOND FORM's CARD OF 'sheerleglaw15.DataChecks'. -/
def dataChecksUptoCard : Claim7 := { stood := { row := dataChecksUptoRow, standIns := [], harness := (true, "fb6c5c74952e61b5e72d0609b7a7003a105aefd394dbb5944271496ede3b7db9"), looks := false }, kinds := [], alts := [], laidByText := true, laidKinds := [.data], laidTests := true, laidLooks := .later }
def DataChecksUptoCardSaid : Prop := Claim7.holds Tryd.pinned (.plain (OpenSpec.upto dataChecksSpec)) dataChecksUptoCard

/-- THE SECOND FORM's CARD OF 'sheerleglaw15.DataOctets'. -/
def dataOctetsUptoCard : Claim7 := { stood := { row := dataOctetsUptoRow, standIns := [], harness := (true, "fb6c5c74952e61b5e72d0609b7a7003a105aefd394dbb5944271496ede3b7db9"), looks := false }, kinds := [], alts := [], laidByText := true, laidKinds := [.data], laidTests := true, laidLooks := .later }
def DataOctetsUptoCardSaid : Prop := Claim7.holds Tryd.pinned (.plain (OpenSpec.upto dataOctetsSpec)) dataOctetsUptoCard

/-- THE SECOND FORM's CARD OF 'sheerleglaw15.DataBack'. -/
def dataBackUptoCard : Claim7 := { stood := { row := dataBackUptoRow, standIns := [], harness := (true, "fb6c5c74952e61b5e72d0609b7a7003a105aefd394dbb5944271496ede3b7db9"), looks := false }, kinds := [], alts := [], laidByText := true, laidKinds := [.data], laidTests := true, laidLooks := .later }
def DataBackUptoCardSaid : Prop := Claim7.holds Tryd.pinned (.plain (OpenSpec.upto dataBackSpec)) dataBackUptoCard
end Rows
end Go.Proofs.YthkbdclnnpcoiaaDoor
