/-
  DERIVED. GIVEN WITH THE SEED: THE CARDS: each row of YtfjbkblodgdcnaaGreatDoorRows.lean that lists a variable, with what it lists TIED to the program's text (the seventh form; the later family's looks); each row that meets fmt, with fmt's text TOLD by the authors' own Lean function (tested against real Go, not proved from fmt's source: count such statements apart). THE CARD IS WHAT COUNTS. Prove the row's statement (the work); the ties are given (YtfjbkblodgdcnaaGreatDoorTie.lean); close each card by the builder's one call (the guide's Derived/Test/ToyasCard.lean, 'card_holds'). Laid BY PROGRAM, IN A SANDBOX (cutbox-door.mjs). By AI agents, Wed Nov 11 2026. No macro, syntax, notation, axiom, sorry.
-/
import Derived.Test.YtfjbkblodgdcnaaGreatDoorRows
import GoSem.ClaimSeven
namespace Go.Proofs.YtfjbkblodgdcnaaGreatDoor
namespace Rows

/-- THE TIED CARD OF 'laws.FnAdmitTask'. -/
def fnAdmitTaskCard : Claim7 := { stood := { row := fnAdmitTaskRow, standIns := [], harness := (true, "1c6cdf2fdc4114158d99aeb92d5dc47e2840c6a567e04200364b95a21dc6780c"), looks := true }, kinds := [], alts := [], laidByText := true, laidKinds := [.sentinel], laidTests := true, laidLooks := .later }
def FnAdmitTaskCardSaid : Prop := Claim7.holds Tryz.pinned (.plain (OpenSpec.ofChange fnAdmitTaskSpec)) fnAdmitTaskCard

/-- THE TIED CARD OF 'laws.FnHoldsBy'. -/
def fnHoldsByCard : Claim7 := { stood := { row := fnHoldsByRow, standIns := [], harness := (true, "1c6cdf2fdc4114158d99aeb92d5dc47e2840c6a567e04200364b95a21dc6780c"), looks := true }, kinds := [], alts := [], laidByText := true, laidKinds := [.sentinel], laidTests := true, laidLooks := .later }
def FnHoldsByCardSaid : Prop := Claim7.holds Tryz.pinned (.plain (OpenSpec.ofChange fnHoldsBySpec)) fnHoldsByCard

/-- THE TIED CARD OF 'laws.FnAdmitPolicy'. -/
def fnAdmitPolicyCard : Claim7 := { stood := { row := fnAdmitPolicyRow, standIns := [], harness := (true, "1c6cdf2fdc4114158d99aeb92d5dc47e2840c6a567e04200364b95a21dc6780c"), looks := true }, kinds := [], alts := [], laidByText := true, laidKinds := [.sentinel], laidTests := true, laidLooks := .later }
def FnAdmitPolicyCardSaid : Prop := Claim7.holds Tryz.pinned (.plain (OpenSpec.ofChange fnAdmitPolicySpec)) fnAdmitPolicyCard

/-- THE TIED CARD OF 'laws.FnCanHold'. -/
def fnCanHoldCard : Claim7 := { stood := { row := fnCanHoldRow, standIns := [], harness := (true, "1c6cdf2fdc4114158d99aeb92d5dc47e2840c6a567e04200364b95a21dc6780c"), looks := true }, kinds := [], alts := [], laidByText := true, laidKinds := [.sentinel], laidTests := true, laidLooks := .later }
def FnCanHoldCardSaid : Prop := Claim7.holds Tryz.pinned (.plain (OpenSpec.ofChange fnCanHoldSpec)) fnCanHoldCard

/-- THE TIED CARD OF 'laws.FnExactAdmitTask'. -/
def fnExactAdmitTaskCard : Claim7 := { stood := { row := fnExactAdmitTaskRow, standIns := [], harness := (true, "1c6cdf2fdc4114158d99aeb92d5dc47e2840c6a567e04200364b95a21dc6780c"), looks := true }, kinds := [], alts := [], laidByText := true, laidKinds := [.sentinel], laidTests := true, laidLooks := .later }
def FnExactAdmitTaskCardSaid : Prop := Claim7.holds Tryz.pinned (.plain (OpenSpec.ofChange fnExactAdmitTaskSpec)) fnExactAdmitTaskCard

/-- THE SECOND FORM's CARD OF 'laws.FnAdmitTask'. -/
def fnAdmitTaskUptoCard : Claim7 := { stood := { row := fnAdmitTaskUptoRow, standIns := [], harness := (true, "1c6cdf2fdc4114158d99aeb92d5dc47e2840c6a567e04200364b95a21dc6780c"), looks := true }, kinds := [], alts := [], laidByText := true, laidKinds := [.sentinel], laidTests := true, laidLooks := .later }
def FnAdmitTaskUptoCardSaid : Prop := Claim7.holds Tryz.pinned (.plain (OpenSpec.upto fnAdmitTaskSpec)) fnAdmitTaskUptoCard

/-- THE SECOND FORM's CARD OF 'laws.FnHoldsBy'. -/
def fnHoldsByUptoCard : Claim7 := { stood := { row := fnHoldsByUptoRow, standIns := [], harness := (true, "1c6cdf2fdc4114158d99aeb92d5dc47e2840c6a567e04200364b95a21dc6780c"), looks := true }, kinds := [], alts := [], laidByText := true, laidKinds := [.sentinel], laidTests := true, laidLooks := .later }
def FnHoldsByUptoCardSaid : Prop := Claim7.holds Tryz.pinned (.plain (OpenSpec.upto fnHoldsBySpec)) fnHoldsByUptoCard

/-- THE SECOND FORM's CARD OF 'laws.FnAdmitPolicy'. -/
def fnAdmitPolicyUptoCard : Claim7 := { stood := { row := fnAdmitPolicyUptoRow, standIns := [], harness := (true, "1c6cdf2fdc4114158d99aeb92d5dc47e2840c6a567e04200364b95a21dc6780c"), looks := true }, kinds := [], alts := [], laidByText := true, laidKinds := [.sentinel], laidTests := true, laidLooks := .later }
def FnAdmitPolicyUptoCardSaid : Prop := Claim7.holds Tryz.pinned (.plain (OpenSpec.upto fnAdmitPolicySpec)) fnAdmitPolicyUptoCard

/-- THE SECOND FORM's CARD OF 'laws.FnCanHold'. -/
def fnCanHoldUptoCard : Claim7 := { stood := { row := fnCanHoldUptoRow, standIns := [], harness := (true, "1c6cdf2fdc4114158d99aeb92d5dc47e2840c6a567e04200364b95a21dc6780c"), looks := true }, kinds := [], alts := [], laidByText := true, laidKinds := [.sentinel], laidTests := true, laidLooks := .later }
def FnCanHoldUptoCardSaid : Prop := Claim7.holds Tryz.pinned (.plain (OpenSpec.upto fnCanHoldSpec)) fnCanHoldUptoCard

/-- THE SECOND FORM's CARD OF 'laws.FnExactAdmitTask'. -/
def fnExactAdmitTaskUptoCard : Claim7 := { stood := { row := fnExactAdmitTaskUptoRow, standIns := [], harness := (true, "1c6cdf2fdc4114158d99aeb92d5dc47e2840c6a567e04200364b95a21dc6780c"), looks := true }, kinds := [], alts := [], laidByText := true, laidKinds := [.sentinel], laidTests := true, laidLooks := .later }
def FnExactAdmitTaskUptoCardSaid : Prop := Claim7.holds Tryz.pinned (.plain (OpenSpec.upto fnExactAdmitTaskSpec)) fnExactAdmitTaskUptoCard
end Rows
end Go.Proofs.YtfjbkblodgdcnaaGreatDoor
