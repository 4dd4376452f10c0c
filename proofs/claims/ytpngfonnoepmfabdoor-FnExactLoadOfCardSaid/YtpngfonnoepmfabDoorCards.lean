/-
  DERIVED. GIVEN WITH THE SEED: THE CARDS: each row of YtpngfonnoepmfabDoorRows.lean that lists a variable, with what it lists TIED to the program's text (the seventh form; the later family's looks); each row that meets fmt, with fmt's text TOLD by the authors' own Lean function (tested against real Go, not proved from fmt's source: count such statements apart). THE CARD IS WHAT COUNTS. Prove the row's statement (the work); the ties are given (YtpngfonnoepmfabDoorTie.lean); close each card by the builder's one call (the guide's Derived/Test/ToyasCard.lean, 'card_holds'). Laid BY PROGRAM, IN A SANDBOX (cutbox-door.mjs). By AI agents, Wed Nov 11 2026. No macro, syntax, notation, axiom, sorry.
-/
import Derived.Test.YtpngfonnoepmfabDoorRows
import GoSem.ClaimSeven
namespace Go.Proofs.YtpngfonnoepmfabDoor
namespace Rows

/-- THE TIED CARD OF 'laws.FnPlainHigh'. -/
def fnPlainHighCard : Claim7 := { stood := { row := fnPlainHighRow, standIns := [], harness := (true, "b9adb4593652c122a7a31ef48482e3a22ff9b336b566b91d09d6a9a29d76915f"), looks := true }, kinds := [], alts := [], laidByText := true, laidKinds := [.sentinel], laidTests := true, laidLooks := .later }
def FnPlainHighCardSaid : Prop := Claim7.holds Tryd.pinned (.plain (OpenSpec.ofChange fnPlainHighSpec)) fnPlainHighCard

/-- THE TIED CARD OF 'laws.FnLoadParts'. -/
def fnLoadPartsCard : Claim7 := { stood := { row := fnLoadPartsRow, standIns := [], harness := (true, "b9adb4593652c122a7a31ef48482e3a22ff9b336b566b91d09d6a9a29d76915f"), looks := true }, kinds := [], alts := [], laidByText := true, laidKinds := [.sentinel], laidTests := true, laidLooks := .later }
def FnLoadPartsCardSaid : Prop := Claim7.holds Tryd.pinned (.plain (OpenSpec.ofChange fnLoadPartsSpec)) fnLoadPartsCard

/-- THE TIED CARD OF 'laws.FnLoadHigh'. -/
def fnLoadHighCard : Claim7 := { stood := { row := fnLoadHighRow, standIns := [], harness := (true, "b9adb4593652c122a7a31ef48482e3a22ff9b336b566b91d09d6a9a29d76915f"), looks := true }, kinds := [], alts := [], laidByText := true, laidKinds := [.sentinel], laidTests := true, laidLooks := .later }
def FnLoadHighCardSaid : Prop := Claim7.holds Tryd.pinned (.plain (OpenSpec.ofChange fnLoadHighSpec)) fnLoadHighCard

/-- THE TIED CARD OF 'laws.FnVirtualOne'. -/
def fnVirtualOneCard : Claim7 := { stood := { row := fnVirtualOneRow, standIns := [], harness := (true, "b9adb4593652c122a7a31ef48482e3a22ff9b336b566b91d09d6a9a29d76915f"), looks := true }, kinds := [], alts := [], laidByText := true, laidKinds := [.sentinel], laidTests := true, laidLooks := .later }
def FnVirtualOneCardSaid : Prop := Claim7.holds Tryd.pinned (.plain (OpenSpec.ofChange fnVirtualOneSpec)) fnVirtualOneCard

/-- THE TIED CARD OF 'laws.FnExactFactorOf'. -/
def fnExactFactorOfCard : Claim7 := { stood := { row := fnExactFactorOfRow, standIns := [], harness := (true, "b9adb4593652c122a7a31ef48482e3a22ff9b336b566b91d09d6a9a29d76915f"), looks := true }, kinds := [], alts := [], laidByText := true, laidKinds := [.sentinel], laidTests := true, laidLooks := .later }
def FnExactFactorOfCardSaid : Prop := Claim7.holds Tryd.pinned (.plain (OpenSpec.ofChange fnExactFactorOfSpec)) fnExactFactorOfCard

/-- THE TIED CARD OF 'laws.FnExactHoldsVirtual'. -/
def fnExactHoldsVirtualCard : Claim7 := { stood := { row := fnExactHoldsVirtualRow, standIns := [], harness := (true, "b9adb4593652c122a7a31ef48482e3a22ff9b336b566b91d09d6a9a29d76915f"), looks := true }, kinds := [], alts := [], laidByText := true, laidKinds := [.sentinel], laidTests := true, laidLooks := .later }
def FnExactHoldsVirtualCardSaid : Prop := Claim7.holds Tryd.pinned (.plain (OpenSpec.ofChange fnExactHoldsVirtualSpec)) fnExactHoldsVirtualCard

/-- THE TIED CARD OF 'laws.FnExactHoldsPlain'. -/
def fnExactHoldsPlainCard : Claim7 := { stood := { row := fnExactHoldsPlainRow, standIns := [], harness := (true, "b9adb4593652c122a7a31ef48482e3a22ff9b336b566b91d09d6a9a29d76915f"), looks := true }, kinds := [], alts := [], laidByText := true, laidKinds := [.sentinel], laidTests := true, laidLooks := .later }
def FnExactHoldsPlainCardSaid : Prop := Claim7.holds Tryd.pinned (.plain (OpenSpec.ofChange fnExactHoldsPlainSpec)) fnExactHoldsPlainCard

/-- THE TIED CARD OF 'laws.FnExactVirtualDue'. -/
def fnExactVirtualDueCard : Claim7 := { stood := { row := fnExactVirtualDueRow, standIns := [], harness := (true, "b9adb4593652c122a7a31ef48482e3a22ff9b336b566b91d09d6a9a29d76915f"), looks := true }, kinds := [], alts := [], laidByText := true, laidKinds := [.sentinel], laidTests := true, laidLooks := .later }
def FnExactVirtualDueCardSaid : Prop := Claim7.holds Tryd.pinned (.plain (OpenSpec.ofChange fnExactVirtualDueSpec)) fnExactVirtualDueCard

/-- THE TIED CARD OF 'laws.FnExactLoadOf'. -/
def fnExactLoadOfCard : Claim7 := { stood := { row := fnExactLoadOfRow, standIns := [], harness := (true, "b9adb4593652c122a7a31ef48482e3a22ff9b336b566b91d09d6a9a29d76915f"), looks := true }, kinds := [], alts := [], laidByText := true, laidKinds := [.sentinel], laidTests := true, laidLooks := .later }
def FnExactLoadOfCardSaid : Prop := Claim7.holds Tryd.pinned (.plain (OpenSpec.ofChange fnExactLoadOfSpec)) fnExactLoadOfCard

/-- THE SECOND FORM's CARD OF 'laws.FnPlainHigh'. -/
def fnPlainHighUptoCard : Claim7 := { stood := { row := fnPlainHighUptoRow, standIns := [], harness := (true, "b9adb4593652c122a7a31ef48482e3a22ff9b336b566b91d09d6a9a29d76915f"), looks := true }, kinds := [], alts := [], laidByText := true, laidKinds := [.sentinel], laidTests := true, laidLooks := .later }
def FnPlainHighUptoCardSaid : Prop := Claim7.holds Tryd.pinned (.plain (OpenSpec.upto fnPlainHighSpec)) fnPlainHighUptoCard

/-- THE SECOND FORM's CARD OF 'laws.FnLoadParts'. -/
def fnLoadPartsUptoCard : Claim7 := { stood := { row := fnLoadPartsUptoRow, standIns := [], harness := (true, "b9adb4593652c122a7a31ef48482e3a22ff9b336b566b91d09d6a9a29d76915f"), looks := true }, kinds := [], alts := [], laidByText := true, laidKinds := [.sentinel], laidTests := true, laidLooks := .later }
def FnLoadPartsUptoCardSaid : Prop := Claim7.holds Tryd.pinned (.plain (OpenSpec.upto fnLoadPartsSpec)) fnLoadPartsUptoCard

/-- THE SECOND FORM's CARD OF 'laws.FnLoadHigh'. -/
def fnLoadHighUptoCard : Claim7 := { stood := { row := fnLoadHighUptoRow, standIns := [], harness := (true, "b9adb4593652c122a7a31ef48482e3a22ff9b336b566b91d09d6a9a29d76915f"), looks := true }, kinds := [], alts := [], laidByText := true, laidKinds := [.sentinel], laidTests := true, laidLooks := .later }
def FnLoadHighUptoCardSaid : Prop := Claim7.holds Tryd.pinned (.plain (OpenSpec.upto fnLoadHighSpec)) fnLoadHighUptoCard

/-- THE SECOND FORM's CARD OF 'laws.FnVirtualOne'. -/
def fnVirtualOneUptoCard : Claim7 := { stood := { row := fnVirtualOneUptoRow, standIns := [], harness := (true, "b9adb4593652c122a7a31ef48482e3a22ff9b336b566b91d09d6a9a29d76915f"), looks := true }, kinds := [], alts := [], laidByText := true, laidKinds := [.sentinel], laidTests := true, laidLooks := .later }
def FnVirtualOneUptoCardSaid : Prop := Claim7.holds Tryd.pinned (.plain (OpenSpec.upto fnVirtualOneSpec)) fnVirtualOneUptoCard

/-- THE SECOND FORM's CARD OF 'laws.FnExactFactorOf'. -/
def fnExactFactorOfUptoCard : Claim7 := { stood := { row := fnExactFactorOfUptoRow, standIns := [], harness := (true, "b9adb4593652c122a7a31ef48482e3a22ff9b336b566b91d09d6a9a29d76915f"), looks := true }, kinds := [], alts := [], laidByText := true, laidKinds := [.sentinel], laidTests := true, laidLooks := .later }
def FnExactFactorOfUptoCardSaid : Prop := Claim7.holds Tryd.pinned (.plain (OpenSpec.upto fnExactFactorOfSpec)) fnExactFactorOfUptoCard

/-- THE SECOND FORM's CARD OF 'laws.FnExactHoldsVirtual'. -/
def fnExactHoldsVirtualUptoCard : Claim7 := { stood := { row := fnExactHoldsVirtualUptoRow, standIns := [], harness := (true, "b9adb4593652c122a7a31ef48482e3a22ff9b336b566b91d09d6a9a29d76915f"), looks := true }, kinds := [], alts := [], laidByText := true, laidKinds := [.sentinel], laidTests := true, laidLooks := .later }
def FnExactHoldsVirtualUptoCardSaid : Prop := Claim7.holds Tryd.pinned (.plain (OpenSpec.upto fnExactHoldsVirtualSpec)) fnExactHoldsVirtualUptoCard

/-- THE SECOND FORM's CARD OF 'laws.FnExactHoldsPlain'. -/
def fnExactHoldsPlainUptoCard : Claim7 := { stood := { row := fnExactHoldsPlainUptoRow, standIns := [], harness := (true, "b9adb4593652c122a7a31ef48482e3a22ff9b336b566b91d09d6a9a29d76915f"), looks := true }, kinds := [], alts := [], laidByText := true, laidKinds := [.sentinel], laidTests := true, laidLooks := .later }
def FnExactHoldsPlainUptoCardSaid : Prop := Claim7.holds Tryd.pinned (.plain (OpenSpec.upto fnExactHoldsPlainSpec)) fnExactHoldsPlainUptoCard

/-- THE SECOND FORM's CARD OF 'laws.FnExactVirtualDue'. -/
def fnExactVirtualDueUptoCard : Claim7 := { stood := { row := fnExactVirtualDueUptoRow, standIns := [], harness := (true, "b9adb4593652c122a7a31ef48482e3a22ff9b336b566b91d09d6a9a29d76915f"), looks := true }, kinds := [], alts := [], laidByText := true, laidKinds := [.sentinel], laidTests := true, laidLooks := .later }
def FnExactVirtualDueUptoCardSaid : Prop := Claim7.holds Tryd.pinned (.plain (OpenSpec.upto fnExactVirtualDueSpec)) fnExactVirtualDueUptoCard

/-- THE SECOND FORM's CARD OF 'laws.FnExactLoadOf'. -/
def fnExactLoadOfUptoCard : Claim7 := { stood := { row := fnExactLoadOfUptoRow, standIns := [], harness := (true, "b9adb4593652c122a7a31ef48482e3a22ff9b336b566b91d09d6a9a29d76915f"), looks := true }, kinds := [], alts := [], laidByText := true, laidKinds := [.sentinel], laidTests := true, laidLooks := .later }
def FnExactLoadOfUptoCardSaid : Prop := Claim7.holds Tryd.pinned (.plain (OpenSpec.upto fnExactLoadOfSpec)) fnExactLoadOfUptoCard
end Rows
end Go.Proofs.YtpngfonnoepmfabDoor
