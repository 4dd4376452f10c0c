/-
  DERIVED. GIVEN WITH THE SEED: THE CARDS: each row of YtbaecbibkmdbiaaDoorRows.lean that lists a variable, with what it lists TIED to the program's text (the seventh form; the later family's looks); each row that meets fmt, with fmt's text TOLD by the authors' own Lean function (tested against real Go, not proved from fmt's source: count such statements apart). THE CARD IS WHAT COUNTS. Prove the row's statement (the work); the ties are given (YtbaecbibkmdbiaaDoorTie.lean); close each card by the builder's one call (the guide's Derived/Test/ToyasCard.lean, 'card_holds'). Laid BY PROGRAM, IN A SANDBOX (cutbox-door.mjs). By AI agents, Wed Nov 11 2026. No macro, syntax, notation, axiom, sorry.
-/
import Derived.Test.YtbaecbibkmdbiaaDoorRows
import GoSem.ClaimSeven
namespace Go.Proofs.YtbaecbibkmdbiaaDoor
namespace Rows

/-- THE TIED CARD OF 'laws.FnLowShare'. -/
def fnLowShareCard : Claim7 := { stood := { row := fnLowShareRow, standIns := [], harness := (true, "73d3c41b3d91d066ce148ac365cd5f9c49eea09a1b18f329d2dbd3fb7dafcf0b"), looks := true }, kinds := [], alts := [], laidByText := true, laidKinds := [.sentinel], laidTests := true, laidLooks := .later }
def FnLowShareCardSaid : Prop := Claim7.holds Tryd.pinned (.plain (OpenSpec.ofChange fnLowShareSpec)) fnLowShareCard

/-- THE TIED CARD OF 'laws.FnHighShare'. -/
def fnHighShareCard : Claim7 := { stood := { row := fnHighShareRow, standIns := [], harness := (true, "73d3c41b3d91d066ce148ac365cd5f9c49eea09a1b18f329d2dbd3fb7dafcf0b"), looks := true }, kinds := [], alts := [], laidByText := true, laidKinds := [.sentinel], laidTests := true, laidLooks := .later }
def FnHighShareCardSaid : Prop := Claim7.holds Tryd.pinned (.plain (OpenSpec.ofChange fnHighShareSpec)) fnHighShareCard

/-- THE TIED CARD OF 'laws.FnLowParts'. -/
def fnLowPartsCard : Claim7 := { stood := { row := fnLowPartsRow, standIns := [], harness := (true, "73d3c41b3d91d066ce148ac365cd5f9c49eea09a1b18f329d2dbd3fb7dafcf0b"), looks := true }, kinds := [], alts := [], laidByText := true, laidKinds := [.sentinel], laidTests := true, laidLooks := .later }
def FnLowPartsCardSaid : Prop := Claim7.holds Tryd.pinned (.plain (OpenSpec.ofChange fnLowPartsSpec)) fnLowPartsCard

/-- THE TIED CARD OF 'laws.FnHighParts'. -/
def fnHighPartsCard : Claim7 := { stood := { row := fnHighPartsRow, standIns := [], harness := (true, "73d3c41b3d91d066ce148ac365cd5f9c49eea09a1b18f329d2dbd3fb7dafcf0b"), looks := true }, kinds := [], alts := [], laidByText := true, laidKinds := [.sentinel], laidTests := true, laidLooks := .later }
def FnHighPartsCardSaid : Prop := Claim7.holds Tryd.pinned (.plain (OpenSpec.ofChange fnHighPartsSpec)) fnHighPartsCard

/-- THE TIED CARD OF 'laws.FnShareSort'. -/
def fnShareSortCard : Claim7 := { stood := { row := fnShareSortRow, standIns := [], harness := (true, "73d3c41b3d91d066ce148ac365cd5f9c49eea09a1b18f329d2dbd3fb7dafcf0b"), looks := true }, kinds := [], alts := [], laidByText := true, laidKinds := [.sentinel], laidTests := true, laidLooks := .later }
def FnShareSortCardSaid : Prop := Claim7.holds Tryd.pinned (.plain (OpenSpec.ofChange fnShareSortSpec)) fnShareSortCard

/-- THE TIED CARD OF 'laws.FnShareHyper'. -/
def fnShareHyperCard : Claim7 := { stood := { row := fnShareHyperRow, standIns := [], harness := (true, "73d3c41b3d91d066ce148ac365cd5f9c49eea09a1b18f329d2dbd3fb7dafcf0b"), looks := true }, kinds := [], alts := [], laidByText := true, laidKinds := [.sentinel], laidTests := true, laidLooks := .later }
def FnShareHyperCardSaid : Prop := Claim7.holds Tryd.pinned (.plain (OpenSpec.ofChange fnShareHyperSpec)) fnShareHyperCard

/-- THE TIED CARD OF 'laws.FnShareOne'. -/
def fnShareOneCard : Claim7 := { stood := { row := fnShareOneRow, standIns := [], harness := (true, "73d3c41b3d91d066ce148ac365cd5f9c49eea09a1b18f329d2dbd3fb7dafcf0b"), looks := true }, kinds := [], alts := [], laidByText := true, laidKinds := [.sentinel], laidTests := true, laidLooks := .later }
def FnShareOneCardSaid : Prop := Claim7.holds Tryd.pinned (.plain (OpenSpec.ofChange fnShareOneSpec)) fnShareOneCard

/-- THE TIED CARD OF 'laws.FnExactLowShare'. -/
def fnExactLowShareCard : Claim7 := { stood := { row := fnExactLowShareRow, standIns := [], harness := (true, "73d3c41b3d91d066ce148ac365cd5f9c49eea09a1b18f329d2dbd3fb7dafcf0b"), looks := true }, kinds := [], alts := [], laidByText := true, laidKinds := [.sentinel], laidTests := true, laidLooks := .later }
def FnExactLowShareCardSaid : Prop := Claim7.holds Tryd.pinned (.plain (OpenSpec.ofChange fnExactLowShareSpec)) fnExactLowShareCard

/-- THE TIED CARD OF 'laws.FnExactHighShare'. -/
def fnExactHighShareCard : Claim7 := { stood := { row := fnExactHighShareRow, standIns := [], harness := (true, "73d3c41b3d91d066ce148ac365cd5f9c49eea09a1b18f329d2dbd3fb7dafcf0b"), looks := true }, kinds := [], alts := [], laidByText := true, laidKinds := [.sentinel], laidTests := true, laidLooks := .later }
def FnExactHighShareCardSaid : Prop := Claim7.holds Tryd.pinned (.plain (OpenSpec.ofChange fnExactHighShareSpec)) fnExactHighShareCard

/-- THE SECOND FORM's CARD OF 'laws.FnLowShare'. -/
def fnLowShareUptoCard : Claim7 := { stood := { row := fnLowShareUptoRow, standIns := [], harness := (true, "73d3c41b3d91d066ce148ac365cd5f9c49eea09a1b18f329d2dbd3fb7dafcf0b"), looks := true }, kinds := [], alts := [], laidByText := true, laidKinds := [.sentinel], laidTests := true, laidLooks := .later }
def FnLowShareUptoCardSaid : Prop := Claim7.holds Tryd.pinned (.plain (OpenSpec.upto fnLowShareSpec)) fnLowShareUptoCard

/-- THE SECOND FORM's CARD OF 'laws.FnHighShare'. -/
def fnHighShareUptoCard : Claim7 := { stood := { row := fnHighShareUptoRow, standIns := [], harness := (true, "73d3c41b3d91d066ce148ac365cd5f9c49eea09a1b18f329d2dbd3fb7dafcf0b"), looks := true }, kinds := [], alts := [], laidByText := true, laidKinds := [.sentinel], laidTests := true, laidLooks := .later }
def FnHighShareUptoCardSaid : Prop := Claim7.holds Tryd.pinned (.plain (OpenSpec.upto fnHighShareSpec)) fnHighShareUptoCard

/-- THE SECOND FORM's CARD OF 'laws.FnLowParts'. -/
def fnLowPartsUptoCard : Claim7 := { stood := { row := fnLowPartsUptoRow, standIns := [], harness := (true, "73d3c41b3d91d066ce148ac365cd5f9c49eea09a1b18f329d2dbd3fb7dafcf0b"), looks := true }, kinds := [], alts := [], laidByText := true, laidKinds := [.sentinel], laidTests := true, laidLooks := .later }
def FnLowPartsUptoCardSaid : Prop := Claim7.holds Tryd.pinned (.plain (OpenSpec.upto fnLowPartsSpec)) fnLowPartsUptoCard

/-- THE SECOND FORM's CARD OF 'laws.FnHighParts'. -/
def fnHighPartsUptoCard : Claim7 := { stood := { row := fnHighPartsUptoRow, standIns := [], harness := (true, "73d3c41b3d91d066ce148ac365cd5f9c49eea09a1b18f329d2dbd3fb7dafcf0b"), looks := true }, kinds := [], alts := [], laidByText := true, laidKinds := [.sentinel], laidTests := true, laidLooks := .later }
def FnHighPartsUptoCardSaid : Prop := Claim7.holds Tryd.pinned (.plain (OpenSpec.upto fnHighPartsSpec)) fnHighPartsUptoCard

/-- THE SECOND FORM's CARD OF 'laws.FnShareSort'. -/
def fnShareSortUptoCard : Claim7 := { stood := { row := fnShareSortUptoRow, standIns := [], harness := (true, "73d3c41b3d91d066ce148ac365cd5f9c49eea09a1b18f329d2dbd3fb7dafcf0b"), looks := true }, kinds := [], alts := [], laidByText := true, laidKinds := [.sentinel], laidTests := true, laidLooks := .later }
def FnShareSortUptoCardSaid : Prop := Claim7.holds Tryd.pinned (.plain (OpenSpec.upto fnShareSortSpec)) fnShareSortUptoCard

/-- THE SECOND FORM's CARD OF 'laws.FnShareHyper'. -/
def fnShareHyperUptoCard : Claim7 := { stood := { row := fnShareHyperUptoRow, standIns := [], harness := (true, "73d3c41b3d91d066ce148ac365cd5f9c49eea09a1b18f329d2dbd3fb7dafcf0b"), looks := true }, kinds := [], alts := [], laidByText := true, laidKinds := [.sentinel], laidTests := true, laidLooks := .later }
def FnShareHyperUptoCardSaid : Prop := Claim7.holds Tryd.pinned (.plain (OpenSpec.upto fnShareHyperSpec)) fnShareHyperUptoCard

/-- THE SECOND FORM's CARD OF 'laws.FnShareOne'. -/
def fnShareOneUptoCard : Claim7 := { stood := { row := fnShareOneUptoRow, standIns := [], harness := (true, "73d3c41b3d91d066ce148ac365cd5f9c49eea09a1b18f329d2dbd3fb7dafcf0b"), looks := true }, kinds := [], alts := [], laidByText := true, laidKinds := [.sentinel], laidTests := true, laidLooks := .later }
def FnShareOneUptoCardSaid : Prop := Claim7.holds Tryd.pinned (.plain (OpenSpec.upto fnShareOneSpec)) fnShareOneUptoCard

/-- THE SECOND FORM's CARD OF 'laws.FnExactLowShare'. -/
def fnExactLowShareUptoCard : Claim7 := { stood := { row := fnExactLowShareUptoRow, standIns := [], harness := (true, "73d3c41b3d91d066ce148ac365cd5f9c49eea09a1b18f329d2dbd3fb7dafcf0b"), looks := true }, kinds := [], alts := [], laidByText := true, laidKinds := [.sentinel], laidTests := true, laidLooks := .later }
def FnExactLowShareUptoCardSaid : Prop := Claim7.holds Tryd.pinned (.plain (OpenSpec.upto fnExactLowShareSpec)) fnExactLowShareUptoCard

/-- THE SECOND FORM's CARD OF 'laws.FnExactHighShare'. -/
def fnExactHighShareUptoCard : Claim7 := { stood := { row := fnExactHighShareUptoRow, standIns := [], harness := (true, "73d3c41b3d91d066ce148ac365cd5f9c49eea09a1b18f329d2dbd3fb7dafcf0b"), looks := true }, kinds := [], alts := [], laidByText := true, laidKinds := [.sentinel], laidTests := true, laidLooks := .later }
def FnExactHighShareUptoCardSaid : Prop := Claim7.holds Tryd.pinned (.plain (OpenSpec.upto fnExactHighShareSpec)) fnExactHighShareUptoCard
end Rows
end Go.Proofs.YtbaecbibkmdbiaaDoor
