/-
  DERIVED. GIVEN WITH THE SEED: THE CARDS: each row of YtgfnlfjaekkdfaaGreatDoorRows.lean that lists a variable, with what it lists TIED to the program's text (the seventh form; the later family's looks); each row that meets fmt, with fmt's text TOLD by the authors' own Lean function (tested against real Go, not proved from fmt's source: count such statements apart). THE CARD IS WHAT COUNTS. Prove the row's statement (the work); the ties are given (YtgfnlfjaekkdfaaGreatDoorTie.lean); close each card by the builder's one call (the guide's Derived/Test/ToyasCard.lean, 'card_holds'). Laid BY PROGRAM, IN A SANDBOX (cutbox-door.mjs). By AI agents, Wed Nov 11 2026. No macro, syntax, notation, axiom, sorry.
-/
import Derived.Test.YtgfnlfjaekkdfaaGreatDoorRows
import GoSem.ClaimSeven
namespace Go.Proofs.YtgfnlfjaekkdfaaGreatDoor
namespace Rows

/-- THE TIED CARD OF 'laws.FnAdmitAgain'. -/
def fnAdmitAgainCard : Claim7 := { stood := { row := fnAdmitAgainRow, standIns := [], harness := (true, "c5a1d523c5a5d6fcafc01f8dda4e7b600793674e4f0b52753c3be6ca0d61b714"), looks := true }, kinds := [], alts := [], laidByText := true, laidKinds := [.sentinel], laidTests := true, laidLooks := .later }
def FnAdmitAgainCardSaid : Prop := Claim7.holds Tryz.pinned (.plain (OpenSpec.ofChange fnAdmitAgainSpec)) fnAdmitAgainCard

/-- THE TIED CARD OF 'laws.FnAdmitLeave'. -/
def fnAdmitLeaveCard : Claim7 := { stood := { row := fnAdmitLeaveRow, standIns := [], harness := (true, "c5a1d523c5a5d6fcafc01f8dda4e7b600793674e4f0b52753c3be6ca0d61b714"), looks := true }, kinds := [], alts := [], laidByText := true, laidKinds := [.sentinel], laidTests := true, laidLooks := .later }
def FnAdmitLeaveCardSaid : Prop := Claim7.holds Tryz.pinned (.plain (OpenSpec.ofChange fnAdmitLeaveSpec)) fnAdmitLeaveCard

/-- THE TIED CARD OF 'laws.FnAdmitAll'. -/
def fnAdmitAllCard : Claim7 := { stood := { row := fnAdmitAllRow, standIns := [], harness := (true, "c5a1d523c5a5d6fcafc01f8dda4e7b600793674e4f0b52753c3be6ca0d61b714"), looks := true }, kinds := [], alts := [], laidByText := true, laidKinds := [.sentinel], laidTests := true, laidLooks := .later }
def FnAdmitAllCardSaid : Prop := Claim7.holds Tryz.pinned (.plain (OpenSpec.ofChange fnAdmitAllSpec)) fnAdmitAllCard

/-- THE TIED CARD OF 'laws.FnAdmitNone'. -/
def fnAdmitNoneCard : Claim7 := { stood := { row := fnAdmitNoneRow, standIns := [], harness := (true, "c5a1d523c5a5d6fcafc01f8dda4e7b600793674e4f0b52753c3be6ca0d61b714"), looks := true }, kinds := [], alts := [], laidByText := true, laidKinds := [.sentinel], laidTests := true, laidLooks := .later }
def FnAdmitNoneCardSaid : Prop := Claim7.holds Tryz.pinned (.plain (OpenSpec.ofChange fnAdmitNoneSpec)) fnAdmitNoneCard

/-- THE TIED CARD OF 'laws.FnAdmitRefused'. -/
def fnAdmitRefusedCard : Claim7 := { stood := { row := fnAdmitRefusedRow, standIns := [], harness := (true, "c5a1d523c5a5d6fcafc01f8dda4e7b600793674e4f0b52753c3be6ca0d61b714"), looks := true }, kinds := [], alts := [], laidByText := true, laidKinds := [.sentinel], laidTests := true, laidLooks := .later }
def FnAdmitRefusedCardSaid : Prop := Claim7.holds Tryz.pinned (.plain (OpenSpec.ofChange fnAdmitRefusedSpec)) fnAdmitRefusedCard

/-- THE TIED CARD OF 'laws.FnExactAdmitAll'. -/
def fnExactAdmitAllCard : Claim7 := { stood := { row := fnExactAdmitAllRow, standIns := [], harness := (true, "c5a1d523c5a5d6fcafc01f8dda4e7b600793674e4f0b52753c3be6ca0d61b714"), looks := true }, kinds := [], alts := [], laidByText := true, laidKinds := [.sentinel], laidTests := true, laidLooks := .later }
def FnExactAdmitAllCardSaid : Prop := Claim7.holds Tryz.pinned (.plain (OpenSpec.ofChange fnExactAdmitAllSpec)) fnExactAdmitAllCard

/-- THE SECOND FORM's CARD OF 'laws.FnAdmitAgain'. -/
def fnAdmitAgainUptoCard : Claim7 := { stood := { row := fnAdmitAgainUptoRow, standIns := [], harness := (true, "c5a1d523c5a5d6fcafc01f8dda4e7b600793674e4f0b52753c3be6ca0d61b714"), looks := true }, kinds := [], alts := [], laidByText := true, laidKinds := [.sentinel], laidTests := true, laidLooks := .later }
def FnAdmitAgainUptoCardSaid : Prop := Claim7.holds Tryz.pinned (.plain (OpenSpec.upto fnAdmitAgainSpec)) fnAdmitAgainUptoCard

/-- THE SECOND FORM's CARD OF 'laws.FnAdmitLeave'. -/
def fnAdmitLeaveUptoCard : Claim7 := { stood := { row := fnAdmitLeaveUptoRow, standIns := [], harness := (true, "c5a1d523c5a5d6fcafc01f8dda4e7b600793674e4f0b52753c3be6ca0d61b714"), looks := true }, kinds := [], alts := [], laidByText := true, laidKinds := [.sentinel], laidTests := true, laidLooks := .later }
def FnAdmitLeaveUptoCardSaid : Prop := Claim7.holds Tryz.pinned (.plain (OpenSpec.upto fnAdmitLeaveSpec)) fnAdmitLeaveUptoCard

/-- THE SECOND FORM's CARD OF 'laws.FnAdmitAll'. -/
def fnAdmitAllUptoCard : Claim7 := { stood := { row := fnAdmitAllUptoRow, standIns := [], harness := (true, "c5a1d523c5a5d6fcafc01f8dda4e7b600793674e4f0b52753c3be6ca0d61b714"), looks := true }, kinds := [], alts := [], laidByText := true, laidKinds := [.sentinel], laidTests := true, laidLooks := .later }
def FnAdmitAllUptoCardSaid : Prop := Claim7.holds Tryz.pinned (.plain (OpenSpec.upto fnAdmitAllSpec)) fnAdmitAllUptoCard

/-- THE SECOND FORM's CARD OF 'laws.FnAdmitNone'. -/
def fnAdmitNoneUptoCard : Claim7 := { stood := { row := fnAdmitNoneUptoRow, standIns := [], harness := (true, "c5a1d523c5a5d6fcafc01f8dda4e7b600793674e4f0b52753c3be6ca0d61b714"), looks := true }, kinds := [], alts := [], laidByText := true, laidKinds := [.sentinel], laidTests := true, laidLooks := .later }
def FnAdmitNoneUptoCardSaid : Prop := Claim7.holds Tryz.pinned (.plain (OpenSpec.upto fnAdmitNoneSpec)) fnAdmitNoneUptoCard

/-- THE SECOND FORM's CARD OF 'laws.FnAdmitRefused'. -/
def fnAdmitRefusedUptoCard : Claim7 := { stood := { row := fnAdmitRefusedUptoRow, standIns := [], harness := (true, "c5a1d523c5a5d6fcafc01f8dda4e7b600793674e4f0b52753c3be6ca0d61b714"), looks := true }, kinds := [], alts := [], laidByText := true, laidKinds := [.sentinel], laidTests := true, laidLooks := .later }
def FnAdmitRefusedUptoCardSaid : Prop := Claim7.holds Tryz.pinned (.plain (OpenSpec.upto fnAdmitRefusedSpec)) fnAdmitRefusedUptoCard

/-- THE SECOND FORM's CARD OF 'laws.FnExactAdmitAll'. -/
def fnExactAdmitAllUptoCard : Claim7 := { stood := { row := fnExactAdmitAllUptoRow, standIns := [], harness := (true, "c5a1d523c5a5d6fcafc01f8dda4e7b600793674e4f0b52753c3be6ca0d61b714"), looks := true }, kinds := [], alts := [], laidByText := true, laidKinds := [.sentinel], laidTests := true, laidLooks := .later }
def FnExactAdmitAllUptoCardSaid : Prop := Claim7.holds Tryz.pinned (.plain (OpenSpec.upto fnExactAdmitAllSpec)) fnExactAdmitAllUptoCard
end Rows
end Go.Proofs.YtgfnlfjaekkdfaaGreatDoor
