/-
  DERIVED. GIVEN WITH THE SEED: THE CARDS: each row of YthaflbgkhlggkaaDoorRows.lean that lists a variable, with what it lists TIED to the program's text (the seventh form; the later family's looks); each row that meets fmt, with fmt's text TOLD by the authors' own Lean function (tested against real Go, not proved from fmt's source: count such statements apart). THE CARD IS WHAT COUNTS. Prove the row's statement (the work); the ties are given (YthaflbgkhlggkaaDoorTie.lean); close each card by the builder's one call (the guide's Derived/Test/ToyasCard.lean, 'card_holds'). Laid BY PROGRAM, IN A SANDBOX (cutbox-door.mjs). By AI agents, Wed Nov 11 2026. No macro, syntax, notation, axiom, sorry.
-/
import Derived.Test.YthaflbgkhlggkaaDoorRows
import GoSem.ClaimSeven
namespace Go.Proofs.YthaflbgkhlggkaaDoor
namespace Rows

/-- THE TIED CARD OF 'laws.FnLowShare'. -/
def fnLowShareCard : Claim7 := { stood := { row := fnLowShareRow, standIns := [], harness := (true, "39d74a694431214af1eafcc603cd0dad39040367f47b7f2cc5cc6924557cd6db"), looks := true }, kinds := [], alts := [], laidByText := true, laidKinds := [.sentinel], laidTests := true, laidLooks := .later }
def FnLowShareCardSaid : Prop := Claim7.holds Tryd.pinned (.plain (OpenSpec.ofChange fnLowShareSpec)) fnLowShareCard

/-- THE TIED CARD OF 'laws.FnHighShare'. -/
def fnHighShareCard : Claim7 := { stood := { row := fnHighShareRow, standIns := [], harness := (true, "39d74a694431214af1eafcc603cd0dad39040367f47b7f2cc5cc6924557cd6db"), looks := true }, kinds := [], alts := [], laidByText := true, laidKinds := [.sentinel], laidTests := true, laidLooks := .later }
def FnHighShareCardSaid : Prop := Claim7.holds Tryd.pinned (.plain (OpenSpec.ofChange fnHighShareSpec)) fnHighShareCard

/-- THE TIED CARD OF 'laws.FnLowParts'. -/
def fnLowPartsCard : Claim7 := { stood := { row := fnLowPartsRow, standIns := [], harness := (true, "39d74a694431214af1eafcc603cd0dad39040367f47b7f2cc5cc6924557cd6db"), looks := true }, kinds := [], alts := [], laidByText := true, laidKinds := [.sentinel], laidTests := true, laidLooks := .later }
def FnLowPartsCardSaid : Prop := Claim7.holds Tryd.pinned (.plain (OpenSpec.ofChange fnLowPartsSpec)) fnLowPartsCard

/-- THE TIED CARD OF 'laws.FnHighParts'. -/
def fnHighPartsCard : Claim7 := { stood := { row := fnHighPartsRow, standIns := [], harness := (true, "39d74a694431214af1eafcc603cd0dad39040367f47b7f2cc5cc6924557cd6db"), looks := true }, kinds := [], alts := [], laidByText := true, laidKinds := [.sentinel], laidTests := true, laidLooks := .later }
def FnHighPartsCardSaid : Prop := Claim7.holds Tryd.pinned (.plain (OpenSpec.ofChange fnHighPartsSpec)) fnHighPartsCard

/-- THE TIED CARD OF 'laws.FnShareSort'. -/
def fnShareSortCard : Claim7 := { stood := { row := fnShareSortRow, standIns := [], harness := (true, "39d74a694431214af1eafcc603cd0dad39040367f47b7f2cc5cc6924557cd6db"), looks := true }, kinds := [], alts := [], laidByText := true, laidKinds := [.sentinel], laidTests := true, laidLooks := .later }
def FnShareSortCardSaid : Prop := Claim7.holds Tryd.pinned (.plain (OpenSpec.ofChange fnShareSortSpec)) fnShareSortCard

/-- THE TIED CARD OF 'laws.FnShareHyper'. -/
def fnShareHyperCard : Claim7 := { stood := { row := fnShareHyperRow, standIns := [], harness := (true, "39d74a694431214af1eafcc603cd0dad39040367f47b7f2cc5cc6924557cd6db"), looks := true }, kinds := [], alts := [], laidByText := true, laidKinds := [.sentinel], laidTests := true, laidLooks := .later }
def FnShareHyperCardSaid : Prop := Claim7.holds Tryd.pinned (.plain (OpenSpec.ofChange fnShareHyperSpec)) fnShareHyperCard

/-- THE TIED CARD OF 'laws.FnShareOne'. -/
def fnShareOneCard : Claim7 := { stood := { row := fnShareOneRow, standIns := [], harness := (true, "39d74a694431214af1eafcc603cd0dad39040367f47b7f2cc5cc6924557cd6db"), looks := true }, kinds := [], alts := [], laidByText := true, laidKinds := [.sentinel], laidTests := true, laidLooks := .later }
def FnShareOneCardSaid : Prop := Claim7.holds Tryd.pinned (.plain (OpenSpec.ofChange fnShareOneSpec)) fnShareOneCard

/-- THE TIED CARD OF 'laws.FnExactLowShare'. -/
def fnExactLowShareCard : Claim7 := { stood := { row := fnExactLowShareRow, standIns := [], harness := (true, "39d74a694431214af1eafcc603cd0dad39040367f47b7f2cc5cc6924557cd6db"), looks := true }, kinds := [], alts := [], laidByText := true, laidKinds := [.sentinel], laidTests := true, laidLooks := .later }
def FnExactLowShareCardSaid : Prop := Claim7.holds Tryd.pinned (.plain (OpenSpec.ofChange fnExactLowShareSpec)) fnExactLowShareCard

/-- THE TIED CARD OF 'laws.FnExactHighShare'. -/
def fnExactHighShareCard : Claim7 := { stood := { row := fnExactHighShareRow, standIns := [], harness := (true, "39d74a694431214af1eafcc603cd0dad39040367f47b7f2cc5cc6924557cd6db"), looks := true }, kinds := [], alts := [], laidByText := true, laidKinds := [.sentinel], laidTests := true, laidLooks := .later }
def FnExactHighShareCardSaid : Prop := Claim7.holds Tryd.pinned (.plain (OpenSpec.ofChange fnExactHighShareSpec)) fnExactHighShareCard

/-- THE TIED CARD OF 'laws.FnHoldsLow'. -/
def fnHoldsLowCard : Claim7 := { stood := { row := fnHoldsLowRow, standIns := [], harness := (true, "39d74a694431214af1eafcc603cd0dad39040367f47b7f2cc5cc6924557cd6db"), looks := true }, kinds := [], alts := [], laidByText := true, laidKinds := [.sentinel], laidTests := true, laidLooks := .later }
def FnHoldsLowCardSaid : Prop := Claim7.holds Tryd.pinned (.plain (OpenSpec.ofChange fnHoldsLowSpec)) fnHoldsLowCard

/-- THE TIED CARD OF 'laws.FnBusyShare'. -/
def fnBusyShareCard : Claim7 := { stood := { row := fnBusyShareRow, standIns := [], harness := (true, "39d74a694431214af1eafcc603cd0dad39040367f47b7f2cc5cc6924557cd6db"), looks := true }, kinds := [], alts := [], laidByText := true, laidKinds := [.sentinel], laidTests := true, laidLooks := .later }
def FnBusyShareCardSaid : Prop := Claim7.holds Tryd.pinned (.plain (OpenSpec.ofChange fnBusyShareSpec)) fnBusyShareCard

/-- THE SECOND FORM's CARD OF 'laws.FnLowShare'. -/
def fnLowShareUptoCard : Claim7 := { stood := { row := fnLowShareUptoRow, standIns := [], harness := (true, "39d74a694431214af1eafcc603cd0dad39040367f47b7f2cc5cc6924557cd6db"), looks := true }, kinds := [], alts := [], laidByText := true, laidKinds := [.sentinel], laidTests := true, laidLooks := .later }
def FnLowShareUptoCardSaid : Prop := Claim7.holds Tryd.pinned (.plain (OpenSpec.upto fnLowShareSpec)) fnLowShareUptoCard

/-- THE SECOND FORM's CARD OF 'laws.FnHighShare'. -/
def fnHighShareUptoCard : Claim7 := { stood := { row := fnHighShareUptoRow, standIns := [], harness := (true, "39d74a694431214af1eafcc603cd0dad39040367f47b7f2cc5cc6924557cd6db"), looks := true }, kinds := [], alts := [], laidByText := true, laidKinds := [.sentinel], laidTests := true, laidLooks := .later }
def FnHighShareUptoCardSaid : Prop := Claim7.holds Tryd.pinned (.plain (OpenSpec.upto fnHighShareSpec)) fnHighShareUptoCard

/-- THE SECOND FORM's CARD OF 'laws.FnLowParts'. -/
def fnLowPartsUptoCard : Claim7 := { stood := { row := fnLowPartsUptoRow, standIns := [], harness := (true, "39d74a694431214af1eafcc603cd0dad39040367f47b7f2cc5cc6924557cd6db"), looks := true }, kinds := [], alts := [], laidByText := true, laidKinds := [.sentinel], laidTests := true, laidLooks := .later }
def FnLowPartsUptoCardSaid : Prop := Claim7.holds Tryd.pinned (.plain (OpenSpec.upto fnLowPartsSpec)) fnLowPartsUptoCard

/-- THE SECOND FORM's CARD OF 'laws.FnHighParts'. -/
def fnHighPartsUptoCard : Claim7 := { stood := { row := fnHighPartsUptoRow, standIns := [], harness := (true, "39d74a694431214af1eafcc603cd0dad39040367f47b7f2cc5cc6924557cd6db"), looks := true }, kinds := [], alts := [], laidByText := true, laidKinds := [.sentinel], laidTests := true, laidLooks := .later }
def FnHighPartsUptoCardSaid : Prop := Claim7.holds Tryd.pinned (.plain (OpenSpec.upto fnHighPartsSpec)) fnHighPartsUptoCard

/-- THE SECOND FORM's CARD OF 'laws.FnShareSort'. -/
def fnShareSortUptoCard : Claim7 := { stood := { row := fnShareSortUptoRow, standIns := [], harness := (true, "39d74a694431214af1eafcc603cd0dad39040367f47b7f2cc5cc6924557cd6db"), looks := true }, kinds := [], alts := [], laidByText := true, laidKinds := [.sentinel], laidTests := true, laidLooks := .later }
def FnShareSortUptoCardSaid : Prop := Claim7.holds Tryd.pinned (.plain (OpenSpec.upto fnShareSortSpec)) fnShareSortUptoCard

/-- THE SECOND FORM's CARD OF 'laws.FnShareHyper'. -/
def fnShareHyperUptoCard : Claim7 := { stood := { row := fnShareHyperUptoRow, standIns := [], harness := (true, "39d74a694431214af1eafcc603cd0dad39040367f47b7f2cc5cc6924557cd6db"), looks := true }, kinds := [], alts := [], laidByText := true, laidKinds := [.sentinel], laidTests := true, laidLooks := .later }
def FnShareHyperUptoCardSaid : Prop := Claim7.holds Tryd.pinned (.plain (OpenSpec.upto fnShareHyperSpec)) fnShareHyperUptoCard

/-- THE SECOND FORM's CARD OF 'laws.FnShareOne'. -/
def fnShareOneUptoCard : Claim7 := { stood := { row := fnShareOneUptoRow, standIns := [], harness := (true, "39d74a694431214af1eafcc603cd0dad39040367f47b7f2cc5cc6924557cd6db"), looks := true }, kinds := [], alts := [], laidByText := true, laidKinds := [.sentinel], laidTests := true, laidLooks := .later }
def FnShareOneUptoCardSaid : Prop := Claim7.holds Tryd.pinned (.plain (OpenSpec.upto fnShareOneSpec)) fnShareOneUptoCard

/-- THE SECOND FORM's CARD OF 'laws.FnExactLowShare'. -/
def fnExactLowShareUptoCard : Claim7 := { stood := { row := fnExactLowShareUptoRow, standIns := [], harness := (true, "39d74a694431214af1eafcc603cd0dad39040367f47b7f2cc5cc6924557cd6db"), looks := true }, kinds := [], alts := [], laidByText := true, laidKinds := [.sentinel], laidTests := true, laidLooks := .later }
def FnExactLowShareUptoCardSaid : Prop := Claim7.holds Tryd.pinned (.plain (OpenSpec.upto fnExactLowShareSpec)) fnExactLowShareUptoCard

/-- THE SECOND FORM's CARD OF 'laws.FnExactHighShare'. -/
def fnExactHighShareUptoCard : Claim7 := { stood := { row := fnExactHighShareUptoRow, standIns := [], harness := (true, "39d74a694431214af1eafcc603cd0dad39040367f47b7f2cc5cc6924557cd6db"), looks := true }, kinds := [], alts := [], laidByText := true, laidKinds := [.sentinel], laidTests := true, laidLooks := .later }
def FnExactHighShareUptoCardSaid : Prop := Claim7.holds Tryd.pinned (.plain (OpenSpec.upto fnExactHighShareSpec)) fnExactHighShareUptoCard

/-- THE SECOND FORM's CARD OF 'laws.FnHoldsLow'. -/
def fnHoldsLowUptoCard : Claim7 := { stood := { row := fnHoldsLowUptoRow, standIns := [], harness := (true, "39d74a694431214af1eafcc603cd0dad39040367f47b7f2cc5cc6924557cd6db"), looks := true }, kinds := [], alts := [], laidByText := true, laidKinds := [.sentinel], laidTests := true, laidLooks := .later }
def FnHoldsLowUptoCardSaid : Prop := Claim7.holds Tryd.pinned (.plain (OpenSpec.upto fnHoldsLowSpec)) fnHoldsLowUptoCard

/-- THE SECOND FORM's CARD OF 'laws.FnBusyShare'. -/
def fnBusyShareUptoCard : Claim7 := { stood := { row := fnBusyShareUptoRow, standIns := [], harness := (true, "39d74a694431214af1eafcc603cd0dad39040367f47b7f2cc5cc6924557cd6db"), looks := true }, kinds := [], alts := [], laidByText := true, laidKinds := [.sentinel], laidTests := true, laidLooks := .later }
def FnBusyShareUptoCardSaid : Prop := Claim7.holds Tryd.pinned (.plain (OpenSpec.upto fnBusyShareSpec)) fnBusyShareUptoCard
end Rows
end Go.Proofs.YthaflbgkhlggkaaDoor
