/-
  DERIVED. GIVEN WITH THE SEED: THE CARDS: each row of YtnplhpbbdgnmiaaGreatDoorRows.lean that lists a variable, with what it lists TIED to the program's text (the seventh form; the later family's looks); each row that meets fmt, with fmt's text TOLD by the authors' own Lean function (tested against real Go, not proved from fmt's source: count such statements apart). THE CARD IS WHAT COUNTS. Prove the row's statement (the work); the ties are given (YtnplhpbbdgnmiaaGreatDoorTie.lean); close each card by the builder's one call (the guide's Derived/Test/ToyasCard.lean, 'card_holds'). Laid BY PROGRAM, IN A SANDBOX (cutbox-door.mjs). By AI agents, Wed Nov 11 2026. No macro, syntax, notation, axiom, sorry.
-/
import Derived.Test.YtnplhpbbdgnmiaaGreatDoorRows
import GoSem.ClaimSeven
namespace Go.Proofs.YtnplhpbbdgnmiaaGreatDoor
namespace Rows

/-- THE TIED CARD OF 'sheerleglaw09.LineTexts'. -/
def lineTextsCard : Claim7 := { stood := { row := lineTextsRow, standIns := [], harness := (true, "a47369d2a1639d7ec2a1137957d795c5fe7ff3802d7248e074946c2d6f78e7af"), looks := true }, kinds := [], alts := [], laidByText := true, laidKinds := [.data, .data, .data, .data, .data, .data, .data, .sentinel, .sentinel, .pinned], laidTests := true, laidLooks := .later }
def LineTextsCardSaid : Prop := Claim7.holds Tryz.pinned (.plain (OpenSpec.ofChange lineTextsSpec)) lineTextsCard

/-- THE TIED CARD OF 'sheerleglaw09.LineInstrs'. -/
def lineInstrsCard : Claim7 := { stood := { row := lineInstrsRow, standIns := [], harness := (true, "a47369d2a1639d7ec2a1137957d795c5fe7ff3802d7248e074946c2d6f78e7af"), looks := true }, kinds := [], alts := [], laidByText := true, laidKinds := [.data, .data, .data, .data, .data, .data, .data, .sentinel, .sentinel, .pinned], laidTests := true, laidLooks := .later }
def LineInstrsCardSaid : Prop := Claim7.holds Tryz.pinned (.plain (OpenSpec.ofChange lineInstrsSpec)) lineInstrsCard

/-- THE SECOND FORM's CARD OF 'sheerleglaw09.LineTexts'. -/
def lineTextsUptoCard : Claim7 := { stood := { row := lineTextsUptoRow, standIns := [], harness := (true, "a47369d2a1639d7ec2a1137957d795c5fe7ff3802d7248e074946c2d6f78e7af"), looks := true }, kinds := [], alts := [], laidByText := true, laidKinds := [.data, .data, .data, .data, .data, .data, .data, .sentinel, .sentinel, .pinned], laidTests := true, laidLooks := .later }
def LineTextsUptoCardSaid : Prop := Claim7.holds Tryz.pinned (.plain (OpenSpec.upto lineTextsSpec)) lineTextsUptoCard

/-- THE SECOND FORM's CARD OF 'sheerleglaw09.LineInstrs'. -/
def lineInstrsUptoCard : Claim7 := { stood := { row := lineInstrsUptoRow, standIns := [], harness := (true, "a47369d2a1639d7ec2a1137957d795c5fe7ff3802d7248e074946c2d6f78e7af"), looks := true }, kinds := [], alts := [], laidByText := true, laidKinds := [.data, .data, .data, .data, .data, .data, .data, .sentinel, .sentinel, .pinned], laidTests := true, laidLooks := .later }
def LineInstrsUptoCardSaid : Prop := Claim7.holds Tryz.pinned (.plain (OpenSpec.upto lineInstrsSpec)) lineInstrsUptoCard
end Rows
end Go.Proofs.YtnplhpbbdgnmiaaGreatDoor
