/-
  DERIVED. GIVEN WITH THE SEED: THE CARDS: each row of YtfjbkblodgdcnaaDoorRows.lean that lists a variable, with what it lists TIED to the program's text (the seventh form; the later family's looks); each row that meets fmt, with fmt's text TOLD by the authors' own Lean function (tested against real Go, not proved from fmt's source: count such statements apart). THE CARD IS WHAT COUNTS. Prove the row's statement (the work); the ties are given (YtfjbkblodgdcnaaDoorTie.lean); close each card by the builder's one call (the guide's Derived/Test/ToyasCard.lean, 'card_holds'). Laid BY PROGRAM, IN A SANDBOX (cutbox-door.mjs). By AI agents, Wed Nov 11 2026. No macro, syntax, notation, axiom, sorry.
-/
import Derived.Test.YtfjbkblodgdcnaaDoorRows
import GoSem.ClaimSeven
namespace Go.Proofs.YtfjbkblodgdcnaaDoor
namespace Rows

/-- THE TIED CARD OF 'laws.FnLeaveTask'. -/
def fnLeaveTaskCard : Claim7 := { stood := { row := fnLeaveTaskRow, standIns := [], harness := (true, "e1f33437e524f674aac657f84c351f05eb09e70c61a7c6734ccafac5d67445c6"), looks := true }, kinds := [], alts := [], laidByText := true, laidKinds := [.sentinel], laidTests := true, laidLooks := .later }
def FnLeaveTaskCardSaid : Prop := Claim7.holds Tryd.pinned (.plain (OpenSpec.ofChange fnLeaveTaskSpec)) fnLeaveTaskCard

/-- THE TIED CARD OF 'laws.FnMostHigh'. -/
def fnMostHighCard : Claim7 := { stood := { row := fnMostHighRow, standIns := [], harness := (true, "e1f33437e524f674aac657f84c351f05eb09e70c61a7c6734ccafac5d67445c6"), looks := true }, kinds := [], alts := [], laidByText := true, laidKinds := [.sentinel], laidTests := true, laidLooks := .later }
def FnMostHighCardSaid : Prop := Claim7.holds Tryd.pinned (.plain (OpenSpec.ofChange fnMostHighSpec)) fnMostHighCard

/-- THE TIED CARD OF 'laws.FnMostLow'. -/
def fnMostLowCard : Claim7 := { stood := { row := fnMostLowRow, standIns := [], harness := (true, "e1f33437e524f674aac657f84c351f05eb09e70c61a7c6734ccafac5d67445c6"), looks := true }, kinds := [], alts := [], laidByText := true, laidKinds := [.sentinel], laidTests := true, laidLooks := .later }
def FnMostLowCardSaid : Prop := Claim7.holds Tryd.pinned (.plain (OpenSpec.ofChange fnMostLowSpec)) fnMostLowCard

/-- THE TIED CARD OF 'laws.FnMostLast'. -/
def fnMostLastCard : Claim7 := { stood := { row := fnMostLastRow, standIns := [], harness := (true, "e1f33437e524f674aac657f84c351f05eb09e70c61a7c6734ccafac5d67445c6"), looks := true }, kinds := [], alts := [], laidByText := true, laidKinds := [.sentinel], laidTests := true, laidLooks := .later }
def FnMostLastCardSaid : Prop := Claim7.holds Tryd.pinned (.plain (OpenSpec.ofChange fnMostLastSpec)) fnMostLastCard

/-- THE TIED CARD OF 'laws.FnRaiseShare'. -/
def fnRaiseShareCard : Claim7 := { stood := { row := fnRaiseShareRow, standIns := [], harness := (true, "e1f33437e524f674aac657f84c351f05eb09e70c61a7c6734ccafac5d67445c6"), looks := true }, kinds := [], alts := [], laidByText := true, laidKinds := [.sentinel], laidTests := true, laidLooks := .later }
def FnRaiseShareCardSaid : Prop := Claim7.holds Tryd.pinned (.plain (OpenSpec.ofChange fnRaiseShareSpec)) fnRaiseShareCard

/-- THE TIED CARD OF 'laws.FnGroupShare'. -/
def fnGroupShareCard : Claim7 := { stood := { row := fnGroupShareRow, standIns := [], harness := (true, "e1f33437e524f674aac657f84c351f05eb09e70c61a7c6734ccafac5d67445c6"), looks := true }, kinds := [], alts := [], laidByText := true, laidKinds := [.sentinel], laidTests := true, laidLooks := .later }
def FnGroupShareCardSaid : Prop := Claim7.holds Tryd.pinned (.plain (OpenSpec.ofChange fnGroupShareSpec)) fnGroupShareCard

/-- THE TIED CARD OF 'laws.FnExactHoldsBy'. -/
def fnExactHoldsByCard : Claim7 := { stood := { row := fnExactHoldsByRow, standIns := [], harness := (true, "e1f33437e524f674aac657f84c351f05eb09e70c61a7c6734ccafac5d67445c6"), looks := true }, kinds := [], alts := [], laidByText := true, laidKinds := [.sentinel], laidTests := true, laidLooks := .later }
def FnExactHoldsByCardSaid : Prop := Claim7.holds Tryd.pinned (.plain (OpenSpec.ofChange fnExactHoldsBySpec)) fnExactHoldsByCard

/-- THE TIED CARD OF 'laws.FnExactMostHigh'. -/
def fnExactMostHighCard : Claim7 := { stood := { row := fnExactMostHighRow, standIns := [], harness := (true, "e1f33437e524f674aac657f84c351f05eb09e70c61a7c6734ccafac5d67445c6"), looks := true }, kinds := [], alts := [], laidByText := true, laidKinds := [.sentinel], laidTests := true, laidLooks := .later }
def FnExactMostHighCardSaid : Prop := Claim7.holds Tryd.pinned (.plain (OpenSpec.ofChange fnExactMostHighSpec)) fnExactMostHighCard

/-- THE TIED CARD OF 'laws.FnExactMostLow'. -/
def fnExactMostLowCard : Claim7 := { stood := { row := fnExactMostLowRow, standIns := [], harness := (true, "e1f33437e524f674aac657f84c351f05eb09e70c61a7c6734ccafac5d67445c6"), looks := true }, kinds := [], alts := [], laidByText := true, laidKinds := [.sentinel], laidTests := true, laidLooks := .later }
def FnExactMostLowCardSaid : Prop := Claim7.holds Tryd.pinned (.plain (OpenSpec.ofChange fnExactMostLowSpec)) fnExactMostLowCard

/-- THE TIED CARD OF 'laws.FnExactCanHold'. -/
def fnExactCanHoldCard : Claim7 := { stood := { row := fnExactCanHoldRow, standIns := [], harness := (true, "e1f33437e524f674aac657f84c351f05eb09e70c61a7c6734ccafac5d67445c6"), looks := true }, kinds := [], alts := [], laidByText := true, laidKinds := [.sentinel], laidTests := true, laidLooks := .later }
def FnExactCanHoldCardSaid : Prop := Claim7.holds Tryd.pinned (.plain (OpenSpec.ofChange fnExactCanHoldSpec)) fnExactCanHoldCard

/-- THE SECOND FORM's CARD OF 'laws.FnLeaveTask'. -/
def fnLeaveTaskUptoCard : Claim7 := { stood := { row := fnLeaveTaskUptoRow, standIns := [], harness := (true, "e1f33437e524f674aac657f84c351f05eb09e70c61a7c6734ccafac5d67445c6"), looks := true }, kinds := [], alts := [], laidByText := true, laidKinds := [.sentinel], laidTests := true, laidLooks := .later }
def FnLeaveTaskUptoCardSaid : Prop := Claim7.holds Tryd.pinned (.plain (OpenSpec.upto fnLeaveTaskSpec)) fnLeaveTaskUptoCard

/-- THE SECOND FORM's CARD OF 'laws.FnMostHigh'. -/
def fnMostHighUptoCard : Claim7 := { stood := { row := fnMostHighUptoRow, standIns := [], harness := (true, "e1f33437e524f674aac657f84c351f05eb09e70c61a7c6734ccafac5d67445c6"), looks := true }, kinds := [], alts := [], laidByText := true, laidKinds := [.sentinel], laidTests := true, laidLooks := .later }
def FnMostHighUptoCardSaid : Prop := Claim7.holds Tryd.pinned (.plain (OpenSpec.upto fnMostHighSpec)) fnMostHighUptoCard

/-- THE SECOND FORM's CARD OF 'laws.FnMostLow'. -/
def fnMostLowUptoCard : Claim7 := { stood := { row := fnMostLowUptoRow, standIns := [], harness := (true, "e1f33437e524f674aac657f84c351f05eb09e70c61a7c6734ccafac5d67445c6"), looks := true }, kinds := [], alts := [], laidByText := true, laidKinds := [.sentinel], laidTests := true, laidLooks := .later }
def FnMostLowUptoCardSaid : Prop := Claim7.holds Tryd.pinned (.plain (OpenSpec.upto fnMostLowSpec)) fnMostLowUptoCard

/-- THE SECOND FORM's CARD OF 'laws.FnMostLast'. -/
def fnMostLastUptoCard : Claim7 := { stood := { row := fnMostLastUptoRow, standIns := [], harness := (true, "e1f33437e524f674aac657f84c351f05eb09e70c61a7c6734ccafac5d67445c6"), looks := true }, kinds := [], alts := [], laidByText := true, laidKinds := [.sentinel], laidTests := true, laidLooks := .later }
def FnMostLastUptoCardSaid : Prop := Claim7.holds Tryd.pinned (.plain (OpenSpec.upto fnMostLastSpec)) fnMostLastUptoCard

/-- THE SECOND FORM's CARD OF 'laws.FnRaiseShare'. -/
def fnRaiseShareUptoCard : Claim7 := { stood := { row := fnRaiseShareUptoRow, standIns := [], harness := (true, "e1f33437e524f674aac657f84c351f05eb09e70c61a7c6734ccafac5d67445c6"), looks := true }, kinds := [], alts := [], laidByText := true, laidKinds := [.sentinel], laidTests := true, laidLooks := .later }
def FnRaiseShareUptoCardSaid : Prop := Claim7.holds Tryd.pinned (.plain (OpenSpec.upto fnRaiseShareSpec)) fnRaiseShareUptoCard

/-- THE SECOND FORM's CARD OF 'laws.FnGroupShare'. -/
def fnGroupShareUptoCard : Claim7 := { stood := { row := fnGroupShareUptoRow, standIns := [], harness := (true, "e1f33437e524f674aac657f84c351f05eb09e70c61a7c6734ccafac5d67445c6"), looks := true }, kinds := [], alts := [], laidByText := true, laidKinds := [.sentinel], laidTests := true, laidLooks := .later }
def FnGroupShareUptoCardSaid : Prop := Claim7.holds Tryd.pinned (.plain (OpenSpec.upto fnGroupShareSpec)) fnGroupShareUptoCard

/-- THE SECOND FORM's CARD OF 'laws.FnExactHoldsBy'. -/
def fnExactHoldsByUptoCard : Claim7 := { stood := { row := fnExactHoldsByUptoRow, standIns := [], harness := (true, "e1f33437e524f674aac657f84c351f05eb09e70c61a7c6734ccafac5d67445c6"), looks := true }, kinds := [], alts := [], laidByText := true, laidKinds := [.sentinel], laidTests := true, laidLooks := .later }
def FnExactHoldsByUptoCardSaid : Prop := Claim7.holds Tryd.pinned (.plain (OpenSpec.upto fnExactHoldsBySpec)) fnExactHoldsByUptoCard

/-- THE SECOND FORM's CARD OF 'laws.FnExactMostHigh'. -/
def fnExactMostHighUptoCard : Claim7 := { stood := { row := fnExactMostHighUptoRow, standIns := [], harness := (true, "e1f33437e524f674aac657f84c351f05eb09e70c61a7c6734ccafac5d67445c6"), looks := true }, kinds := [], alts := [], laidByText := true, laidKinds := [.sentinel], laidTests := true, laidLooks := .later }
def FnExactMostHighUptoCardSaid : Prop := Claim7.holds Tryd.pinned (.plain (OpenSpec.upto fnExactMostHighSpec)) fnExactMostHighUptoCard

/-- THE SECOND FORM's CARD OF 'laws.FnExactMostLow'. -/
def fnExactMostLowUptoCard : Claim7 := { stood := { row := fnExactMostLowUptoRow, standIns := [], harness := (true, "e1f33437e524f674aac657f84c351f05eb09e70c61a7c6734ccafac5d67445c6"), looks := true }, kinds := [], alts := [], laidByText := true, laidKinds := [.sentinel], laidTests := true, laidLooks := .later }
def FnExactMostLowUptoCardSaid : Prop := Claim7.holds Tryd.pinned (.plain (OpenSpec.upto fnExactMostLowSpec)) fnExactMostLowUptoCard

/-- THE SECOND FORM's CARD OF 'laws.FnExactCanHold'. -/
def fnExactCanHoldUptoCard : Claim7 := { stood := { row := fnExactCanHoldUptoRow, standIns := [], harness := (true, "e1f33437e524f674aac657f84c351f05eb09e70c61a7c6734ccafac5d67445c6"), looks := true }, kinds := [], alts := [], laidByText := true, laidKinds := [.sentinel], laidTests := true, laidLooks := .later }
def FnExactCanHoldUptoCardSaid : Prop := Claim7.holds Tryd.pinned (.plain (OpenSpec.upto fnExactCanHoldSpec)) fnExactCanHoldUptoCard
end Rows
end Go.Proofs.YtfjbkblodgdcnaaDoor
