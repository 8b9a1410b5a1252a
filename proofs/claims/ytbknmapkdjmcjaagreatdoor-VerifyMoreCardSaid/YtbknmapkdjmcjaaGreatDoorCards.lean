/-
  DERIVED. GIVEN WITH THE SEED: THE CARDS: each row of YtbknmapkdjmcjaaGreatDoorRows.lean that lists a variable, with what it lists TIED to the program's text (the seventh form; the later family's looks); each row that meets fmt, with fmt's text TOLD by the authors' own Lean function (tested against real Go, not proved from fmt's source: count such statements apart). THE CARD IS WHAT COUNTS. Prove the row's statement (the work); the ties are given (YtbknmapkdjmcjaaGreatDoorTie.lean); close each card by the builder's one call (the guide's Derived/Test/ToyasCard.lean, 'card_holds'). Laid BY PROGRAM, IN A SANDBOX (cutbox-door.mjs). By AI agents, Wed Nov 11 2026. No macro, syntax, notation, axiom, sorry.
-/
import Derived.Test.YtbknmapkdjmcjaaGreatDoorRows
import GoSem.ClaimSeven
namespace Go.Proofs.YtbknmapkdjmcjaaGreatDoor
namespace Rows

/-- THE TIED CARD OF 'sheerleglaw16.FunChecks'. -/
def funChecksCard : Claim7 := { stood := { row := funChecksRow, standIns := [], harness := (true, "8d706b9119e5d2e1cca712214c9720161c9b193a78c9b2be6357bfc183d727b4"), looks := false }, kinds := [], alts := [], laidByText := true, laidKinds := [.data, .data, .data], laidTests := true, laidLooks := .later }
def FunChecksCardSaid : Prop := Claim7.holds Tryz.pinned (.plain (OpenSpec.ofChange funChecksSpec)) funChecksCard

/-- THE TIED CARD OF 'sheerleglaw16.FunOctets'. -/
def funOctetsCard : Claim7 := { stood := { row := funOctetsRow, standIns := [], harness := (true, "8d706b9119e5d2e1cca712214c9720161c9b193a78c9b2be6357bfc183d727b4"), looks := false }, kinds := [], alts := [], laidByText := true, laidKinds := [.data, .data, .data], laidTests := true, laidLooks := .later }
def FunOctetsCardSaid : Prop := Claim7.holds Tryz.pinned (.plain (OpenSpec.ofChange funOctetsSpec)) funOctetsCard

/-- THE TIED CARD OF 'sheerleglaw16.FunBack'. -/
def funBackCard : Claim7 := { stood := { row := funBackRow, standIns := [], harness := (true, "8d706b9119e5d2e1cca712214c9720161c9b193a78c9b2be6357bfc183d727b4"), looks := false }, kinds := [], alts := [], laidByText := true, laidKinds := [.data, .data, .data], laidTests := true, laidLooks := .later }
def FunBackCardSaid : Prop := Claim7.holds Tryz.pinned (.plain (OpenSpec.ofChange funBackSpec)) funBackCard

/-- THE TIED CARD OF 'sheerleglaw17.VerifyTells'. -/
def verifyTellsCard : Claim7 := { stood := { row := verifyTellsRow, standIns := [], harness := (true, "8d706b9119e5d2e1cca712214c9720161c9b193a78c9b2be6357bfc183d727b4"), looks := false }, kinds := [], alts := [], laidByText := true, laidKinds := [.data, .data, .data], laidTests := true, laidLooks := .later }
def VerifyTellsCardSaid : Prop := Claim7.holds Tryz.pinned (.plain (OpenSpec.ofChange verifyTellsSpec)) verifyTellsCard

/-- THE TIED CARD OF 'sheerleglaw17.VerifyRefers'. -/
def verifyRefersCard : Claim7 := { stood := { row := verifyRefersRow, standIns := [], harness := (true, "8d706b9119e5d2e1cca712214c9720161c9b193a78c9b2be6357bfc183d727b4"), looks := false }, kinds := [], alts := [], laidByText := true, laidKinds := [.data, .data, .data], laidTests := true, laidLooks := .later }
def VerifyRefersCardSaid : Prop := Claim7.holds Tryz.pinned (.plain (OpenSpec.ofChange verifyRefersSpec)) verifyRefersCard

/-- THE TIED CARD OF 'sheerleglaw17.VerifyMore'. -/
def verifyMoreCard : Claim7 := { stood := { row := verifyMoreRow, standIns := [], harness := (true, "8d706b9119e5d2e1cca712214c9720161c9b193a78c9b2be6357bfc183d727b4"), looks := false }, kinds := [], alts := [], laidByText := true, laidKinds := [.data, .data, .data], laidTests := true, laidLooks := .later }
def VerifyMoreCardSaid : Prop := Claim7.holds Tryz.pinned (.plain (OpenSpec.ofChange verifyMoreSpec)) verifyMoreCard

/-- THE TIED CARD OF 'sheerleglaw19.ObjectTells'. -/
def objectTellsCard : Claim7 := { stood := { row := objectTellsRow, standIns := [], harness := (true, "8d706b9119e5d2e1cca712214c9720161c9b193a78c9b2be6357bfc183d727b4"), looks := false }, kinds := [], alts := [], laidByText := true, laidKinds := [.data, .data, .data], laidTests := true, laidLooks := .later }
def ObjectTellsCardSaid : Prop := Claim7.holds Tryz.pinned (.plain (OpenSpec.ofChange objectTellsSpec)) objectTellsCard

/-- THE TIED CARD OF 'sheerleglaw19.ObjectPairs'. -/
def objectPairsCard : Claim7 := { stood := { row := objectPairsRow, standIns := [], harness := (true, "8d706b9119e5d2e1cca712214c9720161c9b193a78c9b2be6357bfc183d727b4"), looks := false }, kinds := [], alts := [], laidByText := true, laidKinds := [.data, .data, .data], laidTests := true, laidLooks := .later }
def ObjectPairsCardSaid : Prop := Claim7.holds Tryz.pinned (.plain (OpenSpec.ofChange objectPairsSpec)) objectPairsCard

/-- THE TIED CARD OF 'sheerleglaw20.FileTells'. -/
def fileTellsCard : Claim7 := { stood := { row := fileTellsRow, standIns := [], harness := (true, "8d706b9119e5d2e1cca712214c9720161c9b193a78c9b2be6357bfc183d727b4"), looks := false }, kinds := [], alts := [], laidByText := true, laidKinds := [.data, .data, .data], laidTests := true, laidLooks := .later }
def FileTellsCardSaid : Prop := Claim7.holds Tryz.pinned (.plain (OpenSpec.ofChange fileTellsSpec)) fileTellsCard

/-- THE TIED CARD OF 'sheerleglaw20.FileBack'. -/
def fileBackCard : Claim7 := { stood := { row := fileBackRow, standIns := [], harness := (true, "8d706b9119e5d2e1cca712214c9720161c9b193a78c9b2be6357bfc183d727b4"), looks := false }, kinds := [], alts := [], laidByText := true, laidKinds := [.data, .data, .data], laidTests := true, laidLooks := .later }
def FileBackCardSaid : Prop := Claim7.holds Tryz.pinned (.plain (OpenSpec.ofChange fileBackSpec)) fileBackCard

/-- THE TIED CARD OF 'sheerleglaw20.FileTold'. -/
def fileToldCard : Claim7 := { stood := { row := fileToldRow, standIns := [], harness := (true, "8d706b9119e5d2e1cca712214c9720161c9b193a78c9b2be6357bfc183d727b4"), looks := false }, kinds := [], alts := [], laidByText := true, laidKinds := [.data, .data, .data], laidTests := true, laidLooks := .later }
def FileToldCardSaid : Prop := Claim7.holds Tryz.pinned (.plain (OpenSpec.ofChange fileToldSpec)) fileToldCard

/-- THE SECOND FORM's CARD OF 'sheerleglaw16.FunChecks'. -/
def funChecksUptoCard : Claim7 := { stood := { row := funChecksUptoRow, standIns := [], harness := (true, "8d706b9119e5d2e1cca712214c9720161c9b193a78c9b2be6357bfc183d727b4"), looks := false }, kinds := [], alts := [], laidByText := true, laidKinds := [.data, .data, .data], laidTests := true, laidLooks := .later }
def FunChecksUptoCardSaid : Prop := Claim7.holds Tryz.pinned (.plain (OpenSpec.upto funChecksSpec)) funChecksUptoCard

/-- THE SECOND FORM's CARD OF 'sheerleglaw16.FunOctets'. -/
def funOctetsUptoCard : Claim7 := { stood := { row := funOctetsUptoRow, standIns := [], harness := (true, "8d706b9119e5d2e1cca712214c9720161c9b193a78c9b2be6357bfc183d727b4"), looks := false }, kinds := [], alts := [], laidByText := true, laidKinds := [.data, .data, .data], laidTests := true, laidLooks := .later }
def FunOctetsUptoCardSaid : Prop := Claim7.holds Tryz.pinned (.plain (OpenSpec.upto funOctetsSpec)) funOctetsUptoCard

/-- THE SECOND FORM's CARD OF 'sheerleglaw16.FunBack'. -/
def funBackUptoCard : Claim7 := { stood := { row := funBackUptoRow, standIns := [], harness := (true, "8d706b9119e5d2e1cca712214c9720161c9b193a78c9b2be6357bfc183d727b4"), looks := false }, kinds := [], alts := [], laidByText := true, laidKinds := [.data, .data, .data], laidTests := true, laidLooks := .later }
def FunBackUptoCardSaid : Prop := Claim7.holds Tryz.pinned (.plain (OpenSpec.upto funBackSpec)) funBackUptoCard

/-- THE SECOND FORM's CARD OF 'sheerleglaw17.VerifyTells'. -/
def verifyTellsUptoCard : Claim7 := { stood := { row := verifyTellsUptoRow, standIns := [], harness := (true, "8d706b9119e5d2e1cca712214c9720161c9b193a78c9b2be6357bfc183d727b4"), looks := false }, kinds := [], alts := [], laidByText := true, laidKinds := [.data, .data, .data], laidTests := true, laidLooks := .later }
def VerifyTellsUptoCardSaid : Prop := Claim7.holds Tryz.pinned (.plain (OpenSpec.upto verifyTellsSpec)) verifyTellsUptoCard

/-- THE SECOND FORM's CARD OF 'sheerleglaw17.VerifyRefers'. -/
def verifyRefersUptoCard : Claim7 := { stood := { row := verifyRefersUptoRow, standIns := [], harness := (true, "8d706b9119e5d2e1cca712214c9720161c9b193a78c9b2be6357bfc183d727b4"), looks := false }, kinds := [], alts := [], laidByText := true, laidKinds := [.data, .data, .data], laidTests := true, laidLooks := .later }
def VerifyRefersUptoCardSaid : Prop := Claim7.holds Tryz.pinned (.plain (OpenSpec.upto verifyRefersSpec)) verifyRefersUptoCard

/-- THE SECOND FORM's CARD OF 'sheerleglaw17.VerifyMore'. -/
def verifyMoreUptoCard : Claim7 := { stood := { row := verifyMoreUptoRow, standIns := [], harness := (true, "8d706b9119e5d2e1cca712214c9720161c9b193a78c9b2be6357bfc183d727b4"), looks := false }, kinds := [], alts := [], laidByText := true, laidKinds := [.data, .data, .data], laidTests := true, laidLooks := .later }
def VerifyMoreUptoCardSaid : Prop := Claim7.holds Tryz.pinned (.plain (OpenSpec.upto verifyMoreSpec)) verifyMoreUptoCard

/-- THE SECOND FORM's CARD OF 'sheerleglaw19.ObjectTells'. -/
def objectTellsUptoCard : Claim7 := { stood := { row := objectTellsUptoRow, standIns := [], harness := (true, "8d706b9119e5d2e1cca712214c9720161c9b193a78c9b2be6357bfc183d727b4"), looks := false }, kinds := [], alts := [], laidByText := true, laidKinds := [.data, .data, .data], laidTests := true, laidLooks := .later }
def ObjectTellsUptoCardSaid : Prop := Claim7.holds Tryz.pinned (.plain (OpenSpec.upto objectTellsSpec)) objectTellsUptoCard

/-- THE SECOND FORM's CARD OF 'sheerleglaw19.ObjectPairs'. -/
def objectPairsUptoCard : Claim7 := { stood := { row := objectPairsUptoRow, standIns := [], harness := (true, "8d706b9119e5d2e1cca712214c9720161c9b193a78c9b2be6357bfc183d727b4"), looks := false }, kinds := [], alts := [], laidByText := true, laidKinds := [.data, .data, .data], laidTests := true, laidLooks := .later }
def ObjectPairsUptoCardSaid : Prop := Claim7.holds Tryz.pinned (.plain (OpenSpec.upto objectPairsSpec)) objectPairsUptoCard

/-- THE SECOND FORM's CARD OF 'sheerleglaw20.FileTells'. -/
def fileTellsUptoCard : Claim7 := { stood := { row := fileTellsUptoRow, standIns := [], harness := (true, "8d706b9119e5d2e1cca712214c9720161c9b193a78c9b2be6357bfc183d727b4"), looks := false }, kinds := [], alts := [], laidByText := true, laidKinds := [.data, .data, .data], laidTests := true, laidLooks := .later }
def FileTellsUptoCardSaid : Prop := Claim7.holds Tryz.pinned (.plain (OpenSpec.upto fileTellsSpec)) fileTellsUptoCard

/-- THE SECOND FORM's CARD OF 'sheerleglaw20.FileBack'. -/
def fileBackUptoCard : Claim7 := { stood := { row := fileBackUptoRow, standIns := [], harness := (true, "8d706b9119e5d2e1cca712214c9720161c9b193a78c9b2be6357bfc183d727b4"), looks := false }, kinds := [], alts := [], laidByText := true, laidKinds := [.data, .data, .data], laidTests := true, laidLooks := .later }
def FileBackUptoCardSaid : Prop := Claim7.holds Tryz.pinned (.plain (OpenSpec.upto fileBackSpec)) fileBackUptoCard

/-- THE SECOND FORM's CARD OF 'sheerleglaw20.FileTold'. -/
def fileToldUptoCard : Claim7 := { stood := { row := fileToldUptoRow, standIns := [], harness := (true, "8d706b9119e5d2e1cca712214c9720161c9b193a78c9b2be6357bfc183d727b4"), looks := false }, kinds := [], alts := [], laidByText := true, laidKinds := [.data, .data, .data], laidTests := true, laidLooks := .later }
def FileToldUptoCardSaid : Prop := Claim7.holds Tryz.pinned (.plain (OpenSpec.upto fileToldSpec)) fileToldUptoCard
end Rows
end Go.Proofs.YtbknmapkdjmcjaaGreatDoor
