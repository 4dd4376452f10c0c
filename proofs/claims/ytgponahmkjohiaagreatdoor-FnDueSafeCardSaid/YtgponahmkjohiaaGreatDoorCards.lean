/-
  DERIVED. GIVEN WITH THE SEED: THE CARDS: each row of YtgponahmkjohiaaGreatDoorRows.lean that lists a variable, with what it lists TIED to the program's text (the seventh form; the later family's looks); each row that meets fmt, with fmt's text TOLD by the authors' own Lean function (tested against real Go, not proved from fmt's source: count such statements apart). THE CARD IS WHAT COUNTS. Prove the row's statement (the work); the ties are given (YtgponahmkjohiaaGreatDoorTie.lean); close each card by the builder's one call (the guide's Derived/Test/ToyasCard.lean, 'card_holds'). Laid BY PROGRAM, IN A SANDBOX (cutbox-door.mjs). By AI agents, Wed Nov 11 2026. No macro, syntax, notation, axiom, sorry.
-/
import Derived.Test.YtgponahmkjohiaaGreatDoorRows
import GoSem.ClaimSeven
namespace Go.Proofs.YtgponahmkjohiaaGreatDoor
namespace Rows

/-- THE TIED CARD OF 'laws.FnPlaceSafe'. -/
def fnPlaceSafeCard : Claim7 := { stood := { row := fnPlaceSafeRow, standIns := [], harness := (true, "04fdd532c633b02d4a54539719f01d5005fb3457b0627919b188dd91e609b451"), looks := true }, kinds := [], alts := [], laidByText := true, laidKinds := [.sentinel], laidTests := true, laidLooks := .later }
def FnPlaceSafeCardSaid : Prop := Claim7.holds Tryz.pinned (.plain (OpenSpec.ofChange fnPlaceSafeSpec)) fnPlaceSafeCard

/-- THE TIED CARD OF 'laws.FnDueSafe'. -/
def fnDueSafeCard : Claim7 := { stood := { row := fnDueSafeRow, standIns := [], harness := (true, "04fdd532c633b02d4a54539719f01d5005fb3457b0627919b188dd91e609b451"), looks := true }, kinds := [], alts := [], laidByText := true, laidKinds := [.sentinel], laidTests := true, laidLooks := .later }
def FnDueSafeCardSaid : Prop := Claim7.holds Tryz.pinned (.plain (OpenSpec.ofChange fnDueSafeSpec)) fnDueSafeCard

/-- THE TIED CARD OF 'laws.FnRunTicks'. -/
def fnRunTicksCard : Claim7 := { stood := { row := fnRunTicksRow, standIns := [], harness := (true, "04fdd532c633b02d4a54539719f01d5005fb3457b0627919b188dd91e609b451"), looks := true }, kinds := [], alts := [], laidByText := true, laidKinds := [.sentinel], laidTests := true, laidLooks := .later }
def FnRunTicksCardSaid : Prop := Claim7.holds Tryz.pinned (.plain (OpenSpec.ofChange fnRunTicksSpec)) fnRunTicksCard

/-- THE TIED CARD OF 'laws.FnRunEnds'. -/
def fnRunEndsCard : Claim7 := { stood := { row := fnRunEndsRow, standIns := [], harness := (true, "04fdd532c633b02d4a54539719f01d5005fb3457b0627919b188dd91e609b451"), looks := true }, kinds := [], alts := [], laidByText := true, laidKinds := [.sentinel], laidTests := true, laidLooks := .later }
def FnRunEndsCardSaid : Prop := Claim7.holds Tryz.pinned (.plain (OpenSpec.ofChange fnRunEndsSpec)) fnRunEndsCard

/-- THE TIED CARD OF 'laws.FnRunPart'. -/
def fnRunPartCard : Claim7 := { stood := { row := fnRunPartRow, standIns := [], harness := (true, "04fdd532c633b02d4a54539719f01d5005fb3457b0627919b188dd91e609b451"), looks := true }, kinds := [], alts := [], laidByText := true, laidKinds := [.sentinel], laidTests := true, laidLooks := .later }
def FnRunPartCardSaid : Prop := Claim7.holds Tryz.pinned (.plain (OpenSpec.ofChange fnRunPartSpec)) fnRunPartCard

/-- THE TIED CARD OF 'laws.FnRunLow'. -/
def fnRunLowCard : Claim7 := { stood := { row := fnRunLowRow, standIns := [], harness := (true, "04fdd532c633b02d4a54539719f01d5005fb3457b0627919b188dd91e609b451"), looks := true }, kinds := [], alts := [], laidByText := true, laidKinds := [.sentinel], laidTests := true, laidLooks := .later }
def FnRunLowCardSaid : Prop := Claim7.holds Tryz.pinned (.plain (OpenSpec.ofChange fnRunLowSpec)) fnRunLowCard

/-- THE TIED CARD OF 'laws.FnRunWork'. -/
def fnRunWorkCard : Claim7 := { stood := { row := fnRunWorkRow, standIns := [], harness := (true, "04fdd532c633b02d4a54539719f01d5005fb3457b0627919b188dd91e609b451"), looks := true }, kinds := [], alts := [], laidByText := true, laidKinds := [.sentinel], laidTests := true, laidLooks := .later }
def FnRunWorkCardSaid : Prop := Claim7.holds Tryz.pinned (.plain (OpenSpec.ofChange fnRunWorkSpec)) fnRunWorkCard

/-- THE TIED CARD OF 'laws.FnRunOwn'. -/
def fnRunOwnCard : Claim7 := { stood := { row := fnRunOwnRow, standIns := [], harness := (true, "04fdd532c633b02d4a54539719f01d5005fb3457b0627919b188dd91e609b451"), looks := true }, kinds := [], alts := [], laidByText := true, laidKinds := [.sentinel], laidTests := true, laidLooks := .later }
def FnRunOwnCardSaid : Prop := Claim7.holds Tryz.pinned (.plain (OpenSpec.ofChange fnRunOwnSpec)) fnRunOwnCard

/-- THE TIED CARD OF 'laws.FnRunFirst'. -/
def fnRunFirstCard : Claim7 := { stood := { row := fnRunFirstRow, standIns := [], harness := (true, "04fdd532c633b02d4a54539719f01d5005fb3457b0627919b188dd91e609b451"), looks := true }, kinds := [], alts := [], laidByText := true, laidKinds := [.sentinel], laidTests := true, laidLooks := .later }
def FnRunFirstCardSaid : Prop := Claim7.holds Tryz.pinned (.plain (OpenSpec.ofChange fnRunFirstSpec)) fnRunFirstCard

/-- THE TIED CARD OF 'laws.FnRunSwitch'. -/
def fnRunSwitchCard : Claim7 := { stood := { row := fnRunSwitchRow, standIns := [], harness := (true, "04fdd532c633b02d4a54539719f01d5005fb3457b0627919b188dd91e609b451"), looks := true }, kinds := [], alts := [], laidByText := true, laidKinds := [.sentinel], laidTests := true, laidLooks := .later }
def FnRunSwitchCardSaid : Prop := Claim7.holds Tryz.pinned (.plain (OpenSpec.ofChange fnRunSwitchSpec)) fnRunSwitchCard

/-- THE TIED CARD OF 'laws.FnRunIdleLow'. -/
def fnRunIdleLowCard : Claim7 := { stood := { row := fnRunIdleLowRow, standIns := [], harness := (true, "04fdd532c633b02d4a54539719f01d5005fb3457b0627919b188dd91e609b451"), looks := true }, kinds := [], alts := [], laidByText := true, laidKinds := [.sentinel], laidTests := true, laidLooks := .later }
def FnRunIdleLowCardSaid : Prop := Claim7.holds Tryz.pinned (.plain (OpenSpec.ofChange fnRunIdleLowSpec)) fnRunIdleLowCard

/-- THE TIED CARD OF 'laws.FnRunNoJobs'. -/
def fnRunNoJobsCard : Claim7 := { stood := { row := fnRunNoJobsRow, standIns := [], harness := (true, "04fdd532c633b02d4a54539719f01d5005fb3457b0627919b188dd91e609b451"), looks := true }, kinds := [], alts := [], laidByText := true, laidKinds := [.sentinel], laidTests := true, laidLooks := .later }
def FnRunNoJobsCardSaid : Prop := Claim7.holds Tryz.pinned (.plain (OpenSpec.ofChange fnRunNoJobsSpec)) fnRunNoJobsCard

/-- THE SECOND FORM's CARD OF 'laws.FnPlaceSafe'. -/
def fnPlaceSafeUptoCard : Claim7 := { stood := { row := fnPlaceSafeUptoRow, standIns := [], harness := (true, "04fdd532c633b02d4a54539719f01d5005fb3457b0627919b188dd91e609b451"), looks := true }, kinds := [], alts := [], laidByText := true, laidKinds := [.sentinel], laidTests := true, laidLooks := .later }
def FnPlaceSafeUptoCardSaid : Prop := Claim7.holds Tryz.pinned (.plain (OpenSpec.upto fnPlaceSafeSpec)) fnPlaceSafeUptoCard

/-- THE SECOND FORM's CARD OF 'laws.FnDueSafe'. -/
def fnDueSafeUptoCard : Claim7 := { stood := { row := fnDueSafeUptoRow, standIns := [], harness := (true, "04fdd532c633b02d4a54539719f01d5005fb3457b0627919b188dd91e609b451"), looks := true }, kinds := [], alts := [], laidByText := true, laidKinds := [.sentinel], laidTests := true, laidLooks := .later }
def FnDueSafeUptoCardSaid : Prop := Claim7.holds Tryz.pinned (.plain (OpenSpec.upto fnDueSafeSpec)) fnDueSafeUptoCard

/-- THE SECOND FORM's CARD OF 'laws.FnRunTicks'. -/
def fnRunTicksUptoCard : Claim7 := { stood := { row := fnRunTicksUptoRow, standIns := [], harness := (true, "04fdd532c633b02d4a54539719f01d5005fb3457b0627919b188dd91e609b451"), looks := true }, kinds := [], alts := [], laidByText := true, laidKinds := [.sentinel], laidTests := true, laidLooks := .later }
def FnRunTicksUptoCardSaid : Prop := Claim7.holds Tryz.pinned (.plain (OpenSpec.upto fnRunTicksSpec)) fnRunTicksUptoCard

/-- THE SECOND FORM's CARD OF 'laws.FnRunEnds'. -/
def fnRunEndsUptoCard : Claim7 := { stood := { row := fnRunEndsUptoRow, standIns := [], harness := (true, "04fdd532c633b02d4a54539719f01d5005fb3457b0627919b188dd91e609b451"), looks := true }, kinds := [], alts := [], laidByText := true, laidKinds := [.sentinel], laidTests := true, laidLooks := .later }
def FnRunEndsUptoCardSaid : Prop := Claim7.holds Tryz.pinned (.plain (OpenSpec.upto fnRunEndsSpec)) fnRunEndsUptoCard

/-- THE SECOND FORM's CARD OF 'laws.FnRunPart'. -/
def fnRunPartUptoCard : Claim7 := { stood := { row := fnRunPartUptoRow, standIns := [], harness := (true, "04fdd532c633b02d4a54539719f01d5005fb3457b0627919b188dd91e609b451"), looks := true }, kinds := [], alts := [], laidByText := true, laidKinds := [.sentinel], laidTests := true, laidLooks := .later }
def FnRunPartUptoCardSaid : Prop := Claim7.holds Tryz.pinned (.plain (OpenSpec.upto fnRunPartSpec)) fnRunPartUptoCard

/-- THE SECOND FORM's CARD OF 'laws.FnRunLow'. -/
def fnRunLowUptoCard : Claim7 := { stood := { row := fnRunLowUptoRow, standIns := [], harness := (true, "04fdd532c633b02d4a54539719f01d5005fb3457b0627919b188dd91e609b451"), looks := true }, kinds := [], alts := [], laidByText := true, laidKinds := [.sentinel], laidTests := true, laidLooks := .later }
def FnRunLowUptoCardSaid : Prop := Claim7.holds Tryz.pinned (.plain (OpenSpec.upto fnRunLowSpec)) fnRunLowUptoCard

/-- THE SECOND FORM's CARD OF 'laws.FnRunWork'. -/
def fnRunWorkUptoCard : Claim7 := { stood := { row := fnRunWorkUptoRow, standIns := [], harness := (true, "04fdd532c633b02d4a54539719f01d5005fb3457b0627919b188dd91e609b451"), looks := true }, kinds := [], alts := [], laidByText := true, laidKinds := [.sentinel], laidTests := true, laidLooks := .later }
def FnRunWorkUptoCardSaid : Prop := Claim7.holds Tryz.pinned (.plain (OpenSpec.upto fnRunWorkSpec)) fnRunWorkUptoCard

/-- THE SECOND FORM's CARD OF 'laws.FnRunOwn'. -/
def fnRunOwnUptoCard : Claim7 := { stood := { row := fnRunOwnUptoRow, standIns := [], harness := (true, "04fdd532c633b02d4a54539719f01d5005fb3457b0627919b188dd91e609b451"), looks := true }, kinds := [], alts := [], laidByText := true, laidKinds := [.sentinel], laidTests := true, laidLooks := .later }
def FnRunOwnUptoCardSaid : Prop := Claim7.holds Tryz.pinned (.plain (OpenSpec.upto fnRunOwnSpec)) fnRunOwnUptoCard

/-- THE SECOND FORM's CARD OF 'laws.FnRunFirst'. -/
def fnRunFirstUptoCard : Claim7 := { stood := { row := fnRunFirstUptoRow, standIns := [], harness := (true, "04fdd532c633b02d4a54539719f01d5005fb3457b0627919b188dd91e609b451"), looks := true }, kinds := [], alts := [], laidByText := true, laidKinds := [.sentinel], laidTests := true, laidLooks := .later }
def FnRunFirstUptoCardSaid : Prop := Claim7.holds Tryz.pinned (.plain (OpenSpec.upto fnRunFirstSpec)) fnRunFirstUptoCard

/-- THE SECOND FORM's CARD OF 'laws.FnRunSwitch'. -/
def fnRunSwitchUptoCard : Claim7 := { stood := { row := fnRunSwitchUptoRow, standIns := [], harness := (true, "04fdd532c633b02d4a54539719f01d5005fb3457b0627919b188dd91e609b451"), looks := true }, kinds := [], alts := [], laidByText := true, laidKinds := [.sentinel], laidTests := true, laidLooks := .later }
def FnRunSwitchUptoCardSaid : Prop := Claim7.holds Tryz.pinned (.plain (OpenSpec.upto fnRunSwitchSpec)) fnRunSwitchUptoCard

/-- THE SECOND FORM's CARD OF 'laws.FnRunIdleLow'. -/
def fnRunIdleLowUptoCard : Claim7 := { stood := { row := fnRunIdleLowUptoRow, standIns := [], harness := (true, "04fdd532c633b02d4a54539719f01d5005fb3457b0627919b188dd91e609b451"), looks := true }, kinds := [], alts := [], laidByText := true, laidKinds := [.sentinel], laidTests := true, laidLooks := .later }
def FnRunIdleLowUptoCardSaid : Prop := Claim7.holds Tryz.pinned (.plain (OpenSpec.upto fnRunIdleLowSpec)) fnRunIdleLowUptoCard

/-- THE SECOND FORM's CARD OF 'laws.FnRunNoJobs'. -/
def fnRunNoJobsUptoCard : Claim7 := { stood := { row := fnRunNoJobsUptoRow, standIns := [], harness := (true, "04fdd532c633b02d4a54539719f01d5005fb3457b0627919b188dd91e609b451"), looks := true }, kinds := [], alts := [], laidByText := true, laidKinds := [.sentinel], laidTests := true, laidLooks := .later }
def FnRunNoJobsUptoCardSaid : Prop := Claim7.holds Tryz.pinned (.plain (OpenSpec.upto fnRunNoJobsSpec)) fnRunNoJobsUptoCard
end Rows
end Go.Proofs.YtgponahmkjohiaaGreatDoor
