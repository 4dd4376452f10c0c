/-
  DERIVED. GIVEN WITH THE SEED: THE CARDS: each row of YtpngfonnoepmfaaDoorRows.lean that lists a variable, with what it lists TIED to the program's text (the seventh form; the later family's looks); each row that meets fmt, with fmt's text TOLD by the authors' own Lean function (tested against real Go, not proved from fmt's source: count such statements apart). THE CARD IS WHAT COUNTS. Prove the row's statement (the work); the ties are given (YtpngfonnoepmfaaDoorTie.lean); close each card by the builder's one call (the guide's Derived/Test/ToyasCard.lean, 'card_holds'). Laid BY PROGRAM, IN A SANDBOX (cutbox-door.mjs). By AI agents, Wed Nov 11 2026. No macro, syntax, notation, axiom, sorry.
-/
import Derived.Test.YtpngfonnoepmfaaDoorRows
import GoSem.ClaimSeven
namespace Go.Proofs.YtpngfonnoepmfaaDoor
namespace Rows

/-- THE TIED CARD OF 'laws.FnHoldsVirtual'. -/
def fnHoldsVirtualCard : Claim7 := { stood := { row := fnHoldsVirtualRow, standIns := [], harness := (true, "f9d2424bfb2dee1fa4328e8d5fa46a41a35fe17102981abc529ca784e984bb9c"), looks := true }, kinds := [], alts := [], laidByText := true, laidKinds := [.sentinel], laidTests := true, laidLooks := .later }
def FnHoldsVirtualCardSaid : Prop := Claim7.holds Tryd.pinned (.plain (OpenSpec.ofChange fnHoldsVirtualSpec)) fnHoldsVirtualCard

/-- THE TIED CARD OF 'laws.FnFactorOf'. -/
def fnFactorOfCard : Claim7 := { stood := { row := fnFactorOfRow, standIns := [], harness := (true, "f9d2424bfb2dee1fa4328e8d5fa46a41a35fe17102981abc529ca784e984bb9c"), looks := true }, kinds := [], alts := [], laidByText := true, laidKinds := [.sentinel], laidTests := true, laidLooks := .later }
def FnFactorOfCardSaid : Prop := Claim7.holds Tryd.pinned (.plain (OpenSpec.ofChange fnFactorOfSpec)) fnFactorOfCard

/-- THE TIED CARD OF 'laws.FnVirtualDue'. -/
def fnVirtualDueCard : Claim7 := { stood := { row := fnVirtualDueRow, standIns := [], harness := (true, "f9d2424bfb2dee1fa4328e8d5fa46a41a35fe17102981abc529ca784e984bb9c"), looks := true }, kinds := [], alts := [], laidByText := true, laidKinds := [.sentinel], laidTests := true, laidLooks := .later }
def FnVirtualDueCardSaid : Prop := Claim7.holds Tryd.pinned (.plain (OpenSpec.ofChange fnVirtualDueSpec)) fnVirtualDueCard

/-- THE TIED CARD OF 'laws.FnHoldsPlain'. -/
def fnHoldsPlainCard : Claim7 := { stood := { row := fnHoldsPlainRow, standIns := [], harness := (true, "f9d2424bfb2dee1fa4328e8d5fa46a41a35fe17102981abc529ca784e984bb9c"), looks := true }, kinds := [], alts := [], laidByText := true, laidKinds := [.sentinel], laidTests := true, laidLooks := .later }
def FnHoldsPlainCardSaid : Prop := Claim7.holds Tryd.pinned (.plain (OpenSpec.ofChange fnHoldsPlainSpec)) fnHoldsPlainCard

/-- THE TIED CARD OF 'laws.FnLoadOf'. -/
def fnLoadOfCard : Claim7 := { stood := { row := fnLoadOfRow, standIns := [], harness := (true, "f9d2424bfb2dee1fa4328e8d5fa46a41a35fe17102981abc529ca784e984bb9c"), looks := true }, kinds := [], alts := [], laidByText := true, laidKinds := [.sentinel], laidTests := true, laidLooks := .later }
def FnLoadOfCardSaid : Prop := Claim7.holds Tryd.pinned (.plain (OpenSpec.ofChange fnLoadOfSpec)) fnLoadOfCard

/-- THE TIED CARD OF 'laws.FnImplicit'. -/
def fnImplicitCard : Claim7 := { stood := { row := fnImplicitRow, standIns := [], harness := (true, "f9d2424bfb2dee1fa4328e8d5fa46a41a35fe17102981abc529ca784e984bb9c"), looks := true }, kinds := [], alts := [], laidByText := true, laidKinds := [.sentinel], laidTests := true, laidLooks := .later }
def FnImplicitCardSaid : Prop := Claim7.holds Tryd.pinned (.plain (OpenSpec.ofChange fnImplicitSpec)) fnImplicitCard

/-- THE TIED CARD OF 'laws.FnPlainFactor'. -/
def fnPlainFactorCard : Claim7 := { stood := { row := fnPlainFactorRow, standIns := [], harness := (true, "f9d2424bfb2dee1fa4328e8d5fa46a41a35fe17102981abc529ca784e984bb9c"), looks := true }, kinds := [], alts := [], laidByText := true, laidKinds := [.sentinel], laidTests := true, laidLooks := .later }
def FnPlainFactorCardSaid : Prop := Claim7.holds Tryd.pinned (.plain (OpenSpec.ofChange fnPlainFactorSpec)) fnPlainFactorCard

/-- THE TIED CARD OF 'laws.FnVirtualSort'. -/
def fnVirtualSortCard : Claim7 := { stood := { row := fnVirtualSortRow, standIns := [], harness := (true, "f9d2424bfb2dee1fa4328e8d5fa46a41a35fe17102981abc529ca784e984bb9c"), looks := true }, kinds := [], alts := [], laidByText := true, laidKinds := [.sentinel], laidTests := true, laidLooks := .later }
def FnVirtualSortCardSaid : Prop := Claim7.holds Tryd.pinned (.plain (OpenSpec.ofChange fnVirtualSortSpec)) fnVirtualSortCard

/-- THE TIED CARD OF 'laws.FnVirtualLow'. -/
def fnVirtualLowCard : Claim7 := { stood := { row := fnVirtualLowRow, standIns := [], harness := (true, "f9d2424bfb2dee1fa4328e8d5fa46a41a35fe17102981abc529ca784e984bb9c"), looks := true }, kinds := [], alts := [], laidByText := true, laidKinds := [.sentinel], laidTests := true, laidLooks := .later }
def FnVirtualLowCardSaid : Prop := Claim7.holds Tryd.pinned (.plain (OpenSpec.ofChange fnVirtualLowSpec)) fnVirtualLowCard

/-- THE TIED CARD OF 'laws.FnFactorLow'. -/
def fnFactorLowCard : Claim7 := { stood := { row := fnFactorLowRow, standIns := [], harness := (true, "f9d2424bfb2dee1fa4328e8d5fa46a41a35fe17102981abc529ca784e984bb9c"), looks := true }, kinds := [], alts := [], laidByText := true, laidKinds := [.sentinel], laidTests := true, laidLooks := .later }
def FnFactorLowCardSaid : Prop := Claim7.holds Tryd.pinned (.plain (OpenSpec.ofChange fnFactorLowSpec)) fnFactorLowCard

/-- THE TIED CARD OF 'laws.FnFactorExact'. -/
def fnFactorExactCard : Claim7 := { stood := { row := fnFactorExactRow, standIns := [], harness := (true, "f9d2424bfb2dee1fa4328e8d5fa46a41a35fe17102981abc529ca784e984bb9c"), looks := true }, kinds := [], alts := [], laidByText := true, laidKinds := [.sentinel], laidTests := true, laidLooks := .later }
def FnFactorExactCardSaid : Prop := Claim7.holds Tryd.pinned (.plain (OpenSpec.ofChange fnFactorExactSpec)) fnFactorExactCard

/-- THE TIED CARD OF 'laws.FnVirtualOrder'. -/
def fnVirtualOrderCard : Claim7 := { stood := { row := fnVirtualOrderRow, standIns := [], harness := (true, "f9d2424bfb2dee1fa4328e8d5fa46a41a35fe17102981abc529ca784e984bb9c"), looks := true }, kinds := [], alts := [], laidByText := true, laidKinds := [.sentinel], laidTests := true, laidLooks := .later }
def FnVirtualOrderCardSaid : Prop := Claim7.holds Tryd.pinned (.plain (OpenSpec.ofChange fnVirtualOrderSpec)) fnVirtualOrderCard

/-- THE SECOND FORM's CARD OF 'laws.FnHoldsVirtual'. -/
def fnHoldsVirtualUptoCard : Claim7 := { stood := { row := fnHoldsVirtualUptoRow, standIns := [], harness := (true, "f9d2424bfb2dee1fa4328e8d5fa46a41a35fe17102981abc529ca784e984bb9c"), looks := true }, kinds := [], alts := [], laidByText := true, laidKinds := [.sentinel], laidTests := true, laidLooks := .later }
def FnHoldsVirtualUptoCardSaid : Prop := Claim7.holds Tryd.pinned (.plain (OpenSpec.upto fnHoldsVirtualSpec)) fnHoldsVirtualUptoCard

/-- THE SECOND FORM's CARD OF 'laws.FnFactorOf'. -/
def fnFactorOfUptoCard : Claim7 := { stood := { row := fnFactorOfUptoRow, standIns := [], harness := (true, "f9d2424bfb2dee1fa4328e8d5fa46a41a35fe17102981abc529ca784e984bb9c"), looks := true }, kinds := [], alts := [], laidByText := true, laidKinds := [.sentinel], laidTests := true, laidLooks := .later }
def FnFactorOfUptoCardSaid : Prop := Claim7.holds Tryd.pinned (.plain (OpenSpec.upto fnFactorOfSpec)) fnFactorOfUptoCard

/-- THE SECOND FORM's CARD OF 'laws.FnVirtualDue'. -/
def fnVirtualDueUptoCard : Claim7 := { stood := { row := fnVirtualDueUptoRow, standIns := [], harness := (true, "f9d2424bfb2dee1fa4328e8d5fa46a41a35fe17102981abc529ca784e984bb9c"), looks := true }, kinds := [], alts := [], laidByText := true, laidKinds := [.sentinel], laidTests := true, laidLooks := .later }
def FnVirtualDueUptoCardSaid : Prop := Claim7.holds Tryd.pinned (.plain (OpenSpec.upto fnVirtualDueSpec)) fnVirtualDueUptoCard

/-- THE SECOND FORM's CARD OF 'laws.FnHoldsPlain'. -/
def fnHoldsPlainUptoCard : Claim7 := { stood := { row := fnHoldsPlainUptoRow, standIns := [], harness := (true, "f9d2424bfb2dee1fa4328e8d5fa46a41a35fe17102981abc529ca784e984bb9c"), looks := true }, kinds := [], alts := [], laidByText := true, laidKinds := [.sentinel], laidTests := true, laidLooks := .later }
def FnHoldsPlainUptoCardSaid : Prop := Claim7.holds Tryd.pinned (.plain (OpenSpec.upto fnHoldsPlainSpec)) fnHoldsPlainUptoCard

/-- THE SECOND FORM's CARD OF 'laws.FnLoadOf'. -/
def fnLoadOfUptoCard : Claim7 := { stood := { row := fnLoadOfUptoRow, standIns := [], harness := (true, "f9d2424bfb2dee1fa4328e8d5fa46a41a35fe17102981abc529ca784e984bb9c"), looks := true }, kinds := [], alts := [], laidByText := true, laidKinds := [.sentinel], laidTests := true, laidLooks := .later }
def FnLoadOfUptoCardSaid : Prop := Claim7.holds Tryd.pinned (.plain (OpenSpec.upto fnLoadOfSpec)) fnLoadOfUptoCard

/-- THE SECOND FORM's CARD OF 'laws.FnImplicit'. -/
def fnImplicitUptoCard : Claim7 := { stood := { row := fnImplicitUptoRow, standIns := [], harness := (true, "f9d2424bfb2dee1fa4328e8d5fa46a41a35fe17102981abc529ca784e984bb9c"), looks := true }, kinds := [], alts := [], laidByText := true, laidKinds := [.sentinel], laidTests := true, laidLooks := .later }
def FnImplicitUptoCardSaid : Prop := Claim7.holds Tryd.pinned (.plain (OpenSpec.upto fnImplicitSpec)) fnImplicitUptoCard

/-- THE SECOND FORM's CARD OF 'laws.FnPlainFactor'. -/
def fnPlainFactorUptoCard : Claim7 := { stood := { row := fnPlainFactorUptoRow, standIns := [], harness := (true, "f9d2424bfb2dee1fa4328e8d5fa46a41a35fe17102981abc529ca784e984bb9c"), looks := true }, kinds := [], alts := [], laidByText := true, laidKinds := [.sentinel], laidTests := true, laidLooks := .later }
def FnPlainFactorUptoCardSaid : Prop := Claim7.holds Tryd.pinned (.plain (OpenSpec.upto fnPlainFactorSpec)) fnPlainFactorUptoCard

/-- THE SECOND FORM's CARD OF 'laws.FnVirtualSort'. -/
def fnVirtualSortUptoCard : Claim7 := { stood := { row := fnVirtualSortUptoRow, standIns := [], harness := (true, "f9d2424bfb2dee1fa4328e8d5fa46a41a35fe17102981abc529ca784e984bb9c"), looks := true }, kinds := [], alts := [], laidByText := true, laidKinds := [.sentinel], laidTests := true, laidLooks := .later }
def FnVirtualSortUptoCardSaid : Prop := Claim7.holds Tryd.pinned (.plain (OpenSpec.upto fnVirtualSortSpec)) fnVirtualSortUptoCard

/-- THE SECOND FORM's CARD OF 'laws.FnVirtualLow'. -/
def fnVirtualLowUptoCard : Claim7 := { stood := { row := fnVirtualLowUptoRow, standIns := [], harness := (true, "f9d2424bfb2dee1fa4328e8d5fa46a41a35fe17102981abc529ca784e984bb9c"), looks := true }, kinds := [], alts := [], laidByText := true, laidKinds := [.sentinel], laidTests := true, laidLooks := .later }
def FnVirtualLowUptoCardSaid : Prop := Claim7.holds Tryd.pinned (.plain (OpenSpec.upto fnVirtualLowSpec)) fnVirtualLowUptoCard

/-- THE SECOND FORM's CARD OF 'laws.FnFactorLow'. -/
def fnFactorLowUptoCard : Claim7 := { stood := { row := fnFactorLowUptoRow, standIns := [], harness := (true, "f9d2424bfb2dee1fa4328e8d5fa46a41a35fe17102981abc529ca784e984bb9c"), looks := true }, kinds := [], alts := [], laidByText := true, laidKinds := [.sentinel], laidTests := true, laidLooks := .later }
def FnFactorLowUptoCardSaid : Prop := Claim7.holds Tryd.pinned (.plain (OpenSpec.upto fnFactorLowSpec)) fnFactorLowUptoCard

/-- THE SECOND FORM's CARD OF 'laws.FnFactorExact'. -/
def fnFactorExactUptoCard : Claim7 := { stood := { row := fnFactorExactUptoRow, standIns := [], harness := (true, "f9d2424bfb2dee1fa4328e8d5fa46a41a35fe17102981abc529ca784e984bb9c"), looks := true }, kinds := [], alts := [], laidByText := true, laidKinds := [.sentinel], laidTests := true, laidLooks := .later }
def FnFactorExactUptoCardSaid : Prop := Claim7.holds Tryd.pinned (.plain (OpenSpec.upto fnFactorExactSpec)) fnFactorExactUptoCard

/-- THE SECOND FORM's CARD OF 'laws.FnVirtualOrder'. -/
def fnVirtualOrderUptoCard : Claim7 := { stood := { row := fnVirtualOrderUptoRow, standIns := [], harness := (true, "f9d2424bfb2dee1fa4328e8d5fa46a41a35fe17102981abc529ca784e984bb9c"), looks := true }, kinds := [], alts := [], laidByText := true, laidKinds := [.sentinel], laidTests := true, laidLooks := .later }
def FnVirtualOrderUptoCardSaid : Prop := Claim7.holds Tryd.pinned (.plain (OpenSpec.upto fnVirtualOrderSpec)) fnVirtualOrderUptoCard
end Rows
end Go.Proofs.YtpngfonnoepmfaaDoor
