/-
  DERIVED. GIVEN WITH THE SEED: THE CARDS: each row of YtobkbbgllapcoabDoorRows.lean that lists a variable, with what it lists TIED to the program's text (the seventh form; the later family's looks); each row that meets fmt, with fmt's text TOLD by the authors' own Lean function (tested against real Go, not proved from fmt's source: count such statements apart). THE CARD IS WHAT COUNTS. Prove the row's statement (the work); the ties are given (YtobkbbgllapcoabDoorTie.lean); close each card by the builder's one call (the guide's Derived/Test/ToyasCard.lean, 'card_holds'). Laid BY PROGRAM, IN A SANDBOX (cutbox-door.mjs). By AI agents, Wed Nov 11 2026. No macro, syntax, notation, axiom, sorry.
-/
import Derived.Test.YtobkbbgllapcoabDoorRows
import GoSem.ClaimSeven
namespace Go.Proofs.YtobkbbgllapcoabDoor
namespace Rows

/-- THE TIED CARD OF 'laws.FnHoldsLow'. -/
def fnHoldsLowCard : Claim7 := { stood := { row := fnHoldsLowRow, standIns := [], harness := (true, "26ac36575b7c4590b8ba855d5a0257f20c2ff1dec1d258847044a4201c9e74c5"), looks := true }, kinds := [], alts := [], laidByText := true, laidKinds := [.sentinel], laidTests := true, laidLooks := .later }
def FnHoldsLowCardSaid : Prop := Claim7.holds Tryd.pinned (.plain (OpenSpec.ofChange fnHoldsLowSpec)) fnHoldsLowCard

/-- THE TIED CARD OF 'laws.FnBusyShare'. -/
def fnBusyShareCard : Claim7 := { stood := { row := fnBusyShareRow, standIns := [], harness := (true, "26ac36575b7c4590b8ba855d5a0257f20c2ff1dec1d258847044a4201c9e74c5"), looks := true }, kinds := [], alts := [], laidByText := true, laidKinds := [.sentinel], laidTests := true, laidLooks := .later }
def FnBusyShareCardSaid : Prop := Claim7.holds Tryd.pinned (.plain (OpenSpec.ofChange fnBusyShareSpec)) fnBusyShareCard

/-- THE SECOND FORM's CARD OF 'laws.FnHoldsLow'. -/
def fnHoldsLowUptoCard : Claim7 := { stood := { row := fnHoldsLowUptoRow, standIns := [], harness := (true, "26ac36575b7c4590b8ba855d5a0257f20c2ff1dec1d258847044a4201c9e74c5"), looks := true }, kinds := [], alts := [], laidByText := true, laidKinds := [.sentinel], laidTests := true, laidLooks := .later }
def FnHoldsLowUptoCardSaid : Prop := Claim7.holds Tryd.pinned (.plain (OpenSpec.upto fnHoldsLowSpec)) fnHoldsLowUptoCard

/-- THE SECOND FORM's CARD OF 'laws.FnBusyShare'. -/
def fnBusyShareUptoCard : Claim7 := { stood := { row := fnBusyShareUptoRow, standIns := [], harness := (true, "26ac36575b7c4590b8ba855d5a0257f20c2ff1dec1d258847044a4201c9e74c5"), looks := true }, kinds := [], alts := [], laidByText := true, laidKinds := [.sentinel], laidTests := true, laidLooks := .later }
def FnBusyShareUptoCardSaid : Prop := Claim7.holds Tryd.pinned (.plain (OpenSpec.upto fnBusyShareSpec)) fnBusyShareUptoCard
end Rows
end Go.Proofs.YtobkbbgllapcoabDoor
