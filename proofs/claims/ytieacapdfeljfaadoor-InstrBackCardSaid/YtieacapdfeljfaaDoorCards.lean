/-
  DERIVED. GIVEN WITH THE SEED: THE CARDS: each row of YtieacapdfeljfaaDoorRows.lean that lists a variable, with what it lists TIED to the program's text (the seventh form; the later family's looks); each row that meets fmt, with fmt's text TOLD by the authors' own Lean function (tested against real Go, not proved from fmt's source: count such statements apart). THE CARD IS WHAT COUNTS. Prove the row's statement (the work); the ties are given (YtieacapdfeljfaaDoorTie.lean); close each card by the builder's one call (the guide's Derived/Test/ToyasCard.lean, 'card_holds'). Laid BY PROGRAM, IN A SANDBOX (cutbox-door.mjs). By AI agents, Wed Nov 11 2026. No macro, syntax, notation, axiom, sorry.
-/
import Derived.Test.YtieacapdfeljfaaDoorRows
import GoSem.ClaimSeven
namespace Go.Proofs.YtieacapdfeljfaaDoor
namespace Rows

/-- THE TIED CARD OF 'sheerleglaw07.OpTells'. -/
def opTellsCard : Claim7 := { stood := { row := opTellsRow, standIns := [], harness := (true, "9366dfb9d93135a381f9f6da50aa2b53c41520708bd7eee3a5bad43f0bbf9029"), looks := false }, kinds := [], alts := [], laidByText := true, laidKinds := [.data, .data], laidTests := true, laidLooks := .later }
def OpTellsCardSaid : Prop := Claim7.holds Tryd.pinned (.plain (OpenSpec.ofChange opTellsSpec)) opTellsCard

/-- THE TIED CARD OF 'sheerleglaw07.OpBack'. -/
def opBackCard : Claim7 := { stood := { row := opBackRow, standIns := [], harness := (true, "9366dfb9d93135a381f9f6da50aa2b53c41520708bd7eee3a5bad43f0bbf9029"), looks := false }, kinds := [], alts := [], laidByText := true, laidKinds := [.data, .data], laidTests := true, laidLooks := .later }
def OpBackCardSaid : Prop := Claim7.holds Tryd.pinned (.plain (OpenSpec.ofChange opBackSpec)) opBackCard

/-- THE TIED CARD OF 'sheerleglaw08.InstrTells'. -/
def instrTellsCard : Claim7 := { stood := { row := instrTellsRow, standIns := [], harness := (true, "9366dfb9d93135a381f9f6da50aa2b53c41520708bd7eee3a5bad43f0bbf9029"), looks := false }, kinds := [], alts := [], laidByText := true, laidKinds := [.data, .data], laidTests := true, laidLooks := .later }
def InstrTellsCardSaid : Prop := Claim7.holds Tryd.pinned (.plain (OpenSpec.ofChange instrTellsSpec)) instrTellsCard

/-- THE TIED CARD OF 'sheerleglaw08.InstrGets'. -/
def instrGetsCard : Claim7 := { stood := { row := instrGetsRow, standIns := [], harness := (true, "9366dfb9d93135a381f9f6da50aa2b53c41520708bd7eee3a5bad43f0bbf9029"), looks := false }, kinds := [], alts := [], laidByText := true, laidKinds := [.data, .data], laidTests := true, laidLooks := .later }
def InstrGetsCardSaid : Prop := Claim7.holds Tryd.pinned (.plain (OpenSpec.ofChange instrGetsSpec)) instrGetsCard

/-- THE TIED CARD OF 'sheerleglaw08.InstrBack'. -/
def instrBackCard : Claim7 := { stood := { row := instrBackRow, standIns := [], harness := (true, "9366dfb9d93135a381f9f6da50aa2b53c41520708bd7eee3a5bad43f0bbf9029"), looks := false }, kinds := [], alts := [], laidByText := true, laidKinds := [.data, .data], laidTests := true, laidLooks := .later }
def InstrBackCardSaid : Prop := Claim7.holds Tryd.pinned (.plain (OpenSpec.ofChange instrBackSpec)) instrBackCard

/-- THE SECOND FORM's CARD OF 'sheerleglaw07.OpTells'. -/
def opTellsUptoCard : Claim7 := { stood := { row := opTellsUptoRow, standIns := [], harness := (true, "9366dfb9d93135a381f9f6da50aa2b53c41520708bd7eee3a5bad43f0bbf9029"), looks := false }, kinds := [], alts := [], laidByText := true, laidKinds := [.data, .data], laidTests := true, laidLooks := .later }
def OpTellsUptoCardSaid : Prop := Claim7.holds Tryd.pinned (.plain (OpenSpec.upto opTellsSpec)) opTellsUptoCard

/-- THE SECOND FORM's CARD OF 'sheerleglaw07.OpBack'. -/
def opBackUptoCard : Claim7 := { stood := { row := opBackUptoRow, standIns := [], harness := (true, "9366dfb9d93135a381f9f6da50aa2b53c41520708bd7eee3a5bad43f0bbf9029"), looks := false }, kinds := [], alts := [], laidByText := true, laidKinds := [.data, .data], laidTests := true, laidLooks := .later }
def OpBackUptoCardSaid : Prop := Claim7.holds Tryd.pinned (.plain (OpenSpec.upto opBackSpec)) opBackUptoCard

/-- THE SECOND FORM's CARD OF 'sheerleglaw08.InstrTells'. -/
def instrTellsUptoCard : Claim7 := { stood := { row := instrTellsUptoRow, standIns := [], harness := (true, "9366dfb9d93135a381f9f6da50aa2b53c41520708bd7eee3a5bad43f0bbf9029"), looks := false }, kinds := [], alts := [], laidByText := true, laidKinds := [.data, .data], laidTests := true, laidLooks := .later }
def InstrTellsUptoCardSaid : Prop := Claim7.holds Tryd.pinned (.plain (OpenSpec.upto instrTellsSpec)) instrTellsUptoCard

/-- THE SECOND FORM's CARD OF 'sheerleglaw08.InstrGets'. -/
def instrGetsUptoCard : Claim7 := { stood := { row := instrGetsUptoRow, standIns := [], harness := (true, "9366dfb9d93135a381f9f6da50aa2b53c41520708bd7eee3a5bad43f0bbf9029"), looks := false }, kinds := [], alts := [], laidByText := true, laidKinds := [.data, .data], laidTests := true, laidLooks := .later }
def InstrGetsUptoCardSaid : Prop := Claim7.holds Tryd.pinned (.plain (OpenSpec.upto instrGetsSpec)) instrGetsUptoCard

/-- THE SECOND FORM's CARD OF 'sheerleglaw08.InstrBack'. -/
def instrBackUptoCard : Claim7 := { stood := { row := instrBackUptoRow, standIns := [], harness := (true, "9366dfb9d93135a381f9f6da50aa2b53c41520708bd7eee3a5bad43f0bbf9029"), looks := false }, kinds := [], alts := [], laidByText := true, laidKinds := [.data, .data], laidTests := true, laidLooks := .later }
def InstrBackUptoCardSaid : Prop := Claim7.holds Tryd.pinned (.plain (OpenSpec.upto instrBackSpec)) instrBackUptoCard
end Rows
end Go.Proofs.YtieacapdfeljfaaDoor
