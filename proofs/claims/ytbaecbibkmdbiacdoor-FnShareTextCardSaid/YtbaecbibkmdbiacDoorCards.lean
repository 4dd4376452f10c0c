/-
  DERIVED. GIVEN WITH THE SEED: THE CARDS: each row of YtbaecbibkmdbiacDoorRows.lean that lists a variable, with what it lists TIED to the program's text (the seventh form; the later family's looks); each row that meets fmt, with fmt's text TOLD by the authors' own Lean function (tested against real Go, not proved from fmt's source: count such statements apart). THE CARD IS WHAT COUNTS. Prove the row's statement (the work); the ties are given (YtbaecbibkmdbiacDoorTie.lean); close each card by the builder's one call (the guide's Derived/Test/ToyasCard.lean, 'card_holds'). Laid BY PROGRAM, IN A SANDBOX (cutbox-door.mjs). By AI agents, Wed Nov 11 2026. No macro, syntax, notation, axiom, sorry.
-/
import Derived.Test.YtbaecbibkmdbiacDoorRows
import GoSem.ClaimSeven
namespace Go.Proofs.YtbaecbibkmdbiacDoor
namespace Rows

/-- THE TIED CARD OF 'laws.FnFormatShare'. -/
def fnFormatShareCard : Claim7 := { stood := { row := fnFormatShareRow, standIns := [], harness := (true, "845b90f83f34d06ad9bdc509ca009c36f252859fbd316217bd43cc640cbf3c72"), looks := true }, kinds := [], alts := [], laidByText := true, laidKinds := [.data, .data, .data, .sentinel], laidTests := true, laidLooks := .later }
def FnFormatShareCardSaid : Prop := Claim7.holds Tryd.pinned (.plain (OpenSpec.ofChange fnFormatShareSpec)) fnFormatShareCard

/-- THE TIED CARD OF 'laws.FnShareText'. -/
def fnShareTextCard : Claim7 := { stood := { row := fnShareTextRow, standIns := [], harness := (true, "845b90f83f34d06ad9bdc509ca009c36f252859fbd316217bd43cc640cbf3c72"), looks := true }, kinds := [], alts := [], laidByText := true, laidKinds := [.data, .data, .data, .sentinel], laidTests := true, laidLooks := .later }
def FnShareTextCardSaid : Prop := Claim7.holds Tryd.pinned (.plain (OpenSpec.ofChange fnShareTextSpec)) fnShareTextCard

/-- THE TIED CARD OF 'laws.FnExactFormatShare'. -/
def fnExactFormatShareCard : Claim7 := { stood := { row := fnExactFormatShareRow, standIns := [], harness := (true, "845b90f83f34d06ad9bdc509ca009c36f252859fbd316217bd43cc640cbf3c72"), looks := true }, kinds := [], alts := [], laidByText := true, laidKinds := [.data, .data, .data, .sentinel], laidTests := true, laidLooks := .later }
def FnExactFormatShareCardSaid : Prop := Claim7.holds Tryd.pinned (.plain (OpenSpec.ofChange fnExactFormatShareSpec)) fnExactFormatShareCard

/-- THE SECOND FORM's CARD OF 'laws.FnFormatShare'. -/
def fnFormatShareUptoCard : Claim7 := { stood := { row := fnFormatShareUptoRow, standIns := [], harness := (true, "845b90f83f34d06ad9bdc509ca009c36f252859fbd316217bd43cc640cbf3c72"), looks := true }, kinds := [], alts := [], laidByText := true, laidKinds := [.data, .data, .data, .sentinel], laidTests := true, laidLooks := .later }
def FnFormatShareUptoCardSaid : Prop := Claim7.holds Tryd.pinned (.plain (OpenSpec.upto fnFormatShareSpec)) fnFormatShareUptoCard

/-- THE SECOND FORM's CARD OF 'laws.FnShareText'. -/
def fnShareTextUptoCard : Claim7 := { stood := { row := fnShareTextUptoRow, standIns := [], harness := (true, "845b90f83f34d06ad9bdc509ca009c36f252859fbd316217bd43cc640cbf3c72"), looks := true }, kinds := [], alts := [], laidByText := true, laidKinds := [.data, .data, .data, .sentinel], laidTests := true, laidLooks := .later }
def FnShareTextUptoCardSaid : Prop := Claim7.holds Tryd.pinned (.plain (OpenSpec.upto fnShareTextSpec)) fnShareTextUptoCard

/-- THE SECOND FORM's CARD OF 'laws.FnExactFormatShare'. -/
def fnExactFormatShareUptoCard : Claim7 := { stood := { row := fnExactFormatShareUptoRow, standIns := [], harness := (true, "845b90f83f34d06ad9bdc509ca009c36f252859fbd316217bd43cc640cbf3c72"), looks := true }, kinds := [], alts := [], laidByText := true, laidKinds := [.data, .data, .data, .sentinel], laidTests := true, laidLooks := .later }
def FnExactFormatShareUptoCardSaid : Prop := Claim7.holds Tryd.pinned (.plain (OpenSpec.upto fnExactFormatShareSpec)) fnExactFormatShareUptoCard
end Rows
end Go.Proofs.YtbaecbibkmdbiacDoor
