/-
  DERIVED. GIVEN WITH THE SEED: THE CARDS: each row of YtgponahmkjohiabGreatDoorRows.lean that lists a variable, with what it lists TIED to the program's text (the seventh form; the later family's looks); each row that meets fmt, with fmt's text TOLD by the authors' own Lean function (tested against real Go, not proved from fmt's source: count such statements apart). THE CARD IS WHAT COUNTS. Prove the row's statement (the work); the ties are given (YtgponahmkjohiabGreatDoorTie.lean); close each card by the builder's one call (the guide's Derived/Test/ToyasCard.lean, 'card_holds'). Laid BY PROGRAM, IN A SANDBOX (cutbox-door.mjs). By AI agents, Wed Nov 11 2026. No macro, syntax, notation, axiom, sorry.
-/
import Derived.Test.YtgponahmkjohiabGreatDoorRows
import GoSem.ClaimSeven
namespace Go.Proofs.YtgponahmkjohiabGreatDoor
namespace Rows

/-- THE TIED CARD OF 'laws.FnRunWorstLow'. -/
def fnRunWorstLowCard : Claim7 := { stood := { row := fnRunWorstLowRow, standIns := [], harness := (true, "0b5ef02336ecb6ef04b7e4345899b03d136116dff6b5193792f692ce1a050d89"), looks := true }, kinds := [], alts := [], laidByText := true, laidKinds := [.sentinel], laidTests := true, laidLooks := .later }
def FnRunWorstLowCardSaid : Prop := Claim7.holds Tryz.pinned (.plain (OpenSpec.ofChange fnRunWorstLowSpec)) fnRunWorstLowCard

/-- THE TIED CARD OF 'laws.FnRunResponse'. -/
def fnRunResponseCard : Claim7 := { stood := { row := fnRunResponseRow, standIns := [], harness := (true, "0b5ef02336ecb6ef04b7e4345899b03d136116dff6b5193792f692ce1a050d89"), looks := true }, kinds := [], alts := [], laidByText := true, laidKinds := [.sentinel], laidTests := true, laidLooks := .later }
def FnRunResponseCardSaid : Prop := Claim7.holds Tryz.pinned (.plain (OpenSpec.ofChange fnRunResponseSpec)) fnRunResponseCard

/-- THE TIED CARD OF 'laws.FnRunSwitchBound'. -/
def fnRunSwitchBoundCard : Claim7 := { stood := { row := fnRunSwitchBoundRow, standIns := [], harness := (true, "0b5ef02336ecb6ef04b7e4345899b03d136116dff6b5193792f692ce1a050d89"), looks := true }, kinds := [], alts := [], laidByText := true, laidKinds := [.sentinel], laidTests := true, laidLooks := .later }
def FnRunSwitchBoundCardSaid : Prop := Claim7.holds Tryz.pinned (.plain (OpenSpec.ofChange fnRunSwitchBoundSpec)) fnRunSwitchBoundCard

/-- THE TIED CARD OF 'laws.FnDropLow'. -/
def fnDropLowCard : Claim7 := { stood := { row := fnDropLowRow, standIns := [], harness := (true, "0b5ef02336ecb6ef04b7e4345899b03d136116dff6b5193792f692ce1a050d89"), looks := true }, kinds := [], alts := [], laidByText := true, laidKinds := [.sentinel], laidTests := true, laidLooks := .later }
def FnDropLowCardSaid : Prop := Claim7.holds Tryz.pinned (.plain (OpenSpec.ofChange fnDropLowSpec)) fnDropLowCard

/-- THE TIED CARD OF 'laws.FnMissesLater'. -/
def fnMissesLaterCard : Claim7 := { stood := { row := fnMissesLaterRow, standIns := [], harness := (true, "0b5ef02336ecb6ef04b7e4345899b03d136116dff6b5193792f692ce1a050d89"), looks := true }, kinds := [], alts := [], laidByText := true, laidKinds := [.sentinel], laidTests := true, laidLooks := .later }
def FnMissesLaterCardSaid : Prop := Claim7.holds Tryz.pinned (.plain (OpenSpec.ofChange fnMissesLaterSpec)) fnMissesLaterCard

/-- THE TIED CARD OF 'laws.FnRanEnds'. -/
def fnRanEndsCard : Claim7 := { stood := { row := fnRanEndsRow, standIns := [], harness := (true, "0b5ef02336ecb6ef04b7e4345899b03d136116dff6b5193792f692ce1a050d89"), looks := true }, kinds := [], alts := [], laidByText := true, laidKinds := [.sentinel], laidTests := true, laidLooks := .later }
def FnRanEndsCardSaid : Prop := Claim7.holds Tryz.pinned (.plain (OpenSpec.ofChange fnRanEndsSpec)) fnRanEndsCard

/-- THE TIED CARD OF 'laws.FnTraceSize'. -/
def fnTraceSizeCard : Claim7 := { stood := { row := fnTraceSizeRow, standIns := [], harness := (true, "0b5ef02336ecb6ef04b7e4345899b03d136116dff6b5193792f692ce1a050d89"), looks := true }, kinds := [], alts := [], laidByText := true, laidKinds := [.sentinel], laidTests := true, laidLooks := .later }
def FnTraceSizeCardSaid : Prop := Claim7.holds Tryz.pinned (.plain (OpenSpec.ofChange fnTraceSizeSpec)) fnTraceSizeCard

/-- THE TIED CARD OF 'laws.FnHoldsSafe'. -/
def fnHoldsSafeCard : Claim7 := { stood := { row := fnHoldsSafeRow, standIns := [], harness := (true, "0b5ef02336ecb6ef04b7e4345899b03d136116dff6b5193792f692ce1a050d89"), looks := true }, kinds := [], alts := [], laidByText := true, laidKinds := [.sentinel], laidTests := true, laidLooks := .later }
def FnHoldsSafeCardSaid : Prop := Claim7.holds Tryz.pinned (.plain (OpenSpec.ofChange fnHoldsSafeSpec)) fnHoldsSafeCard

/-- THE TIED CARD OF 'laws.FnExactRunJobs'. -/
def fnExactRunJobsCard : Claim7 := { stood := { row := fnExactRunJobsRow, standIns := [], harness := (true, "0b5ef02336ecb6ef04b7e4345899b03d136116dff6b5193792f692ce1a050d89"), looks := true }, kinds := [], alts := [], laidByText := true, laidKinds := [.sentinel], laidTests := true, laidLooks := .later }
def FnExactRunJobsCardSaid : Prop := Claim7.holds Tryz.pinned (.plain (OpenSpec.ofChange fnExactRunJobsSpec)) fnExactRunJobsCard

/-- THE SECOND FORM's CARD OF 'laws.FnRunWorstLow'. -/
def fnRunWorstLowUptoCard : Claim7 := { stood := { row := fnRunWorstLowUptoRow, standIns := [], harness := (true, "0b5ef02336ecb6ef04b7e4345899b03d136116dff6b5193792f692ce1a050d89"), looks := true }, kinds := [], alts := [], laidByText := true, laidKinds := [.sentinel], laidTests := true, laidLooks := .later }
def FnRunWorstLowUptoCardSaid : Prop := Claim7.holds Tryz.pinned (.plain (OpenSpec.upto fnRunWorstLowSpec)) fnRunWorstLowUptoCard

/-- THE SECOND FORM's CARD OF 'laws.FnRunResponse'. -/
def fnRunResponseUptoCard : Claim7 := { stood := { row := fnRunResponseUptoRow, standIns := [], harness := (true, "0b5ef02336ecb6ef04b7e4345899b03d136116dff6b5193792f692ce1a050d89"), looks := true }, kinds := [], alts := [], laidByText := true, laidKinds := [.sentinel], laidTests := true, laidLooks := .later }
def FnRunResponseUptoCardSaid : Prop := Claim7.holds Tryz.pinned (.plain (OpenSpec.upto fnRunResponseSpec)) fnRunResponseUptoCard

/-- THE SECOND FORM's CARD OF 'laws.FnRunSwitchBound'. -/
def fnRunSwitchBoundUptoCard : Claim7 := { stood := { row := fnRunSwitchBoundUptoRow, standIns := [], harness := (true, "0b5ef02336ecb6ef04b7e4345899b03d136116dff6b5193792f692ce1a050d89"), looks := true }, kinds := [], alts := [], laidByText := true, laidKinds := [.sentinel], laidTests := true, laidLooks := .later }
def FnRunSwitchBoundUptoCardSaid : Prop := Claim7.holds Tryz.pinned (.plain (OpenSpec.upto fnRunSwitchBoundSpec)) fnRunSwitchBoundUptoCard

/-- THE SECOND FORM's CARD OF 'laws.FnDropLow'. -/
def fnDropLowUptoCard : Claim7 := { stood := { row := fnDropLowUptoRow, standIns := [], harness := (true, "0b5ef02336ecb6ef04b7e4345899b03d136116dff6b5193792f692ce1a050d89"), looks := true }, kinds := [], alts := [], laidByText := true, laidKinds := [.sentinel], laidTests := true, laidLooks := .later }
def FnDropLowUptoCardSaid : Prop := Claim7.holds Tryz.pinned (.plain (OpenSpec.upto fnDropLowSpec)) fnDropLowUptoCard

/-- THE SECOND FORM's CARD OF 'laws.FnMissesLater'. -/
def fnMissesLaterUptoCard : Claim7 := { stood := { row := fnMissesLaterUptoRow, standIns := [], harness := (true, "0b5ef02336ecb6ef04b7e4345899b03d136116dff6b5193792f692ce1a050d89"), looks := true }, kinds := [], alts := [], laidByText := true, laidKinds := [.sentinel], laidTests := true, laidLooks := .later }
def FnMissesLaterUptoCardSaid : Prop := Claim7.holds Tryz.pinned (.plain (OpenSpec.upto fnMissesLaterSpec)) fnMissesLaterUptoCard

/-- THE SECOND FORM's CARD OF 'laws.FnRanEnds'. -/
def fnRanEndsUptoCard : Claim7 := { stood := { row := fnRanEndsUptoRow, standIns := [], harness := (true, "0b5ef02336ecb6ef04b7e4345899b03d136116dff6b5193792f692ce1a050d89"), looks := true }, kinds := [], alts := [], laidByText := true, laidKinds := [.sentinel], laidTests := true, laidLooks := .later }
def FnRanEndsUptoCardSaid : Prop := Claim7.holds Tryz.pinned (.plain (OpenSpec.upto fnRanEndsSpec)) fnRanEndsUptoCard

/-- THE SECOND FORM's CARD OF 'laws.FnTraceSize'. -/
def fnTraceSizeUptoCard : Claim7 := { stood := { row := fnTraceSizeUptoRow, standIns := [], harness := (true, "0b5ef02336ecb6ef04b7e4345899b03d136116dff6b5193792f692ce1a050d89"), looks := true }, kinds := [], alts := [], laidByText := true, laidKinds := [.sentinel], laidTests := true, laidLooks := .later }
def FnTraceSizeUptoCardSaid : Prop := Claim7.holds Tryz.pinned (.plain (OpenSpec.upto fnTraceSizeSpec)) fnTraceSizeUptoCard

/-- THE SECOND FORM's CARD OF 'laws.FnHoldsSafe'. -/
def fnHoldsSafeUptoCard : Claim7 := { stood := { row := fnHoldsSafeUptoRow, standIns := [], harness := (true, "0b5ef02336ecb6ef04b7e4345899b03d136116dff6b5193792f692ce1a050d89"), looks := true }, kinds := [], alts := [], laidByText := true, laidKinds := [.sentinel], laidTests := true, laidLooks := .later }
def FnHoldsSafeUptoCardSaid : Prop := Claim7.holds Tryz.pinned (.plain (OpenSpec.upto fnHoldsSafeSpec)) fnHoldsSafeUptoCard

/-- THE SECOND FORM's CARD OF 'laws.FnExactRunJobs'. -/
def fnExactRunJobsUptoCard : Claim7 := { stood := { row := fnExactRunJobsUptoRow, standIns := [], harness := (true, "0b5ef02336ecb6ef04b7e4345899b03d136116dff6b5193792f692ce1a050d89"), looks := true }, kinds := [], alts := [], laidByText := true, laidKinds := [.sentinel], laidTests := true, laidLooks := .later }
def FnExactRunJobsUptoCardSaid : Prop := Claim7.holds Tryz.pinned (.plain (OpenSpec.upto fnExactRunJobsSpec)) fnExactRunJobsUptoCard
end Rows
end Go.Proofs.YtgponahmkjohiabGreatDoor
