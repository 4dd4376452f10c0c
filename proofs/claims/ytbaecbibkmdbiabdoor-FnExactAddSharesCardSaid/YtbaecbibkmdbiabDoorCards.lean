/-
  DERIVED. GIVEN WITH THE SEED: THE CARDS: each row of YtbaecbibkmdbiabDoorRows.lean that lists a variable, with what it lists TIED to the program's text (the seventh form; the later family's looks); each row that meets fmt, with fmt's text TOLD by the authors' own Lean function (tested against real Go, not proved from fmt's source: count such statements apart). THE CARD IS WHAT COUNTS. Prove the row's statement (the work); the ties are given (YtbaecbibkmdbiabDoorTie.lean); close each card by the builder's one call (the guide's Derived/Test/ToyasCard.lean, 'card_holds'). Laid BY PROGRAM, IN A SANDBOX (cutbox-door.mjs). By AI agents, Wed Nov 11 2026. No macro, syntax, notation, axiom, sorry.
-/
import Derived.Test.YtbaecbibkmdbiabDoorRows
import GoSem.ClaimSeven
namespace Go.Proofs.YtbaecbibkmdbiabDoor
namespace Rows

/-- THE TIED CARD OF 'laws.FnMakeShare'. -/
def fnMakeShareCard : Claim7 := { stood := { row := fnMakeShareRow, standIns := [], harness := (true, "b37ce45939a629688cecd6e5779b2aea98bbc95c642b1c5302563db08bff4c09"), looks := true }, kinds := [], alts := [], laidByText := true, laidKinds := [.sentinel], laidTests := true, laidLooks := .later }
def FnMakeShareCardSaid : Prop := Claim7.holds Tryd.pinned (.plain (OpenSpec.ofChange fnMakeShareSpec)) fnMakeShareCard

/-- THE TIED CARD OF 'laws.FnAddShares'. -/
def fnAddSharesCard : Claim7 := { stood := { row := fnAddSharesRow, standIns := [], harness := (true, "b37ce45939a629688cecd6e5779b2aea98bbc95c642b1c5302563db08bff4c09"), looks := true }, kinds := [], alts := [], laidByText := true, laidKinds := [.sentinel], laidTests := true, laidLooks := .later }
def FnAddSharesCardSaid : Prop := Claim7.holds Tryd.pinned (.plain (OpenSpec.ofChange fnAddSharesSpec)) fnAddSharesCard

/-- THE TIED CARD OF 'laws.FnCompareShares'. -/
def fnCompareSharesCard : Claim7 := { stood := { row := fnCompareSharesRow, standIns := [], harness := (true, "b37ce45939a629688cecd6e5779b2aea98bbc95c642b1c5302563db08bff4c09"), looks := true }, kinds := [], alts := [], laidByText := true, laidKinds := [.sentinel], laidTests := true, laidLooks := .later }
def FnCompareSharesCardSaid : Prop := Claim7.holds Tryd.pinned (.plain (OpenSpec.ofChange fnCompareSharesSpec)) fnCompareSharesCard

/-- THE TIED CARD OF 'laws.FnShareZero'. -/
def fnShareZeroCard : Claim7 := { stood := { row := fnShareZeroRow, standIns := [], harness := (true, "b37ce45939a629688cecd6e5779b2aea98bbc95c642b1c5302563db08bff4c09"), looks := true }, kinds := [], alts := [], laidByText := true, laidKinds := [.sentinel], laidTests := true, laidLooks := .later }
def FnShareZeroCardSaid : Prop := Claim7.holds Tryd.pinned (.plain (OpenSpec.ofChange fnShareZeroSpec)) fnShareZeroCard

/-- THE TIED CARD OF 'laws.FnShareTwice'. -/
def fnShareTwiceCard : Claim7 := { stood := { row := fnShareTwiceRow, standIns := [], harness := (true, "b37ce45939a629688cecd6e5779b2aea98bbc95c642b1c5302563db08bff4c09"), looks := true }, kinds := [], alts := [], laidByText := true, laidKinds := [.sentinel], laidTests := true, laidLooks := .later }
def FnShareTwiceCardSaid : Prop := Claim7.holds Tryd.pinned (.plain (OpenSpec.ofChange fnShareTwiceSpec)) fnShareTwiceCard

/-- THE TIED CARD OF 'laws.FnAddMore'. -/
def fnAddMoreCard : Claim7 := { stood := { row := fnAddMoreRow, standIns := [], harness := (true, "b37ce45939a629688cecd6e5779b2aea98bbc95c642b1c5302563db08bff4c09"), looks := true }, kinds := [], alts := [], laidByText := true, laidKinds := [.sentinel], laidTests := true, laidLooks := .later }
def FnAddMoreCardSaid : Prop := Claim7.holds Tryd.pinned (.plain (OpenSpec.ofChange fnAddMoreSpec)) fnAddMoreCard

/-- THE TIED CARD OF 'laws.FnCompareSame'. -/
def fnCompareSameCard : Claim7 := { stood := { row := fnCompareSameRow, standIns := [], harness := (true, "b37ce45939a629688cecd6e5779b2aea98bbc95c642b1c5302563db08bff4c09"), looks := true }, kinds := [], alts := [], laidByText := true, laidKinds := [.sentinel], laidTests := true, laidLooks := .later }
def FnCompareSameCardSaid : Prop := Claim7.holds Tryd.pinned (.plain (OpenSpec.ofChange fnCompareSameSpec)) fnCompareSameCard

/-- THE TIED CARD OF 'laws.FnShareValid'. -/
def fnShareValidCard : Claim7 := { stood := { row := fnShareValidRow, standIns := [], harness := (true, "b37ce45939a629688cecd6e5779b2aea98bbc95c642b1c5302563db08bff4c09"), looks := true }, kinds := [], alts := [], laidByText := true, laidKinds := [.sentinel], laidTests := true, laidLooks := .later }
def FnShareValidCardSaid : Prop := Claim7.holds Tryd.pinned (.plain (OpenSpec.ofChange fnShareValidSpec)) fnShareValidCard

/-- THE TIED CARD OF 'laws.FnExactMakeShare'. -/
def fnExactMakeShareCard : Claim7 := { stood := { row := fnExactMakeShareRow, standIns := [], harness := (true, "b37ce45939a629688cecd6e5779b2aea98bbc95c642b1c5302563db08bff4c09"), looks := true }, kinds := [], alts := [], laidByText := true, laidKinds := [.sentinel], laidTests := true, laidLooks := .later }
def FnExactMakeShareCardSaid : Prop := Claim7.holds Tryd.pinned (.plain (OpenSpec.ofChange fnExactMakeShareSpec)) fnExactMakeShareCard

/-- THE TIED CARD OF 'laws.FnExactShareValid'. -/
def fnExactShareValidCard : Claim7 := { stood := { row := fnExactShareValidRow, standIns := [], harness := (true, "b37ce45939a629688cecd6e5779b2aea98bbc95c642b1c5302563db08bff4c09"), looks := true }, kinds := [], alts := [], laidByText := true, laidKinds := [.sentinel], laidTests := true, laidLooks := .later }
def FnExactShareValidCardSaid : Prop := Claim7.holds Tryd.pinned (.plain (OpenSpec.ofChange fnExactShareValidSpec)) fnExactShareValidCard

/-- THE TIED CARD OF 'laws.FnExactAddShares'. -/
def fnExactAddSharesCard : Claim7 := { stood := { row := fnExactAddSharesRow, standIns := [], harness := (true, "b37ce45939a629688cecd6e5779b2aea98bbc95c642b1c5302563db08bff4c09"), looks := true }, kinds := [], alts := [], laidByText := true, laidKinds := [.sentinel], laidTests := true, laidLooks := .later }
def FnExactAddSharesCardSaid : Prop := Claim7.holds Tryd.pinned (.plain (OpenSpec.ofChange fnExactAddSharesSpec)) fnExactAddSharesCard

/-- THE TIED CARD OF 'laws.FnExactCompareShares'. -/
def fnExactCompareSharesCard : Claim7 := { stood := { row := fnExactCompareSharesRow, standIns := [], harness := (true, "b37ce45939a629688cecd6e5779b2aea98bbc95c642b1c5302563db08bff4c09"), looks := true }, kinds := [], alts := [], laidByText := true, laidKinds := [.sentinel], laidTests := true, laidLooks := .later }
def FnExactCompareSharesCardSaid : Prop := Claim7.holds Tryd.pinned (.plain (OpenSpec.ofChange fnExactCompareSharesSpec)) fnExactCompareSharesCard

/-- THE SECOND FORM's CARD OF 'laws.FnMakeShare'. -/
def fnMakeShareUptoCard : Claim7 := { stood := { row := fnMakeShareUptoRow, standIns := [], harness := (true, "b37ce45939a629688cecd6e5779b2aea98bbc95c642b1c5302563db08bff4c09"), looks := true }, kinds := [], alts := [], laidByText := true, laidKinds := [.sentinel], laidTests := true, laidLooks := .later }
def FnMakeShareUptoCardSaid : Prop := Claim7.holds Tryd.pinned (.plain (OpenSpec.upto fnMakeShareSpec)) fnMakeShareUptoCard

/-- THE SECOND FORM's CARD OF 'laws.FnAddShares'. -/
def fnAddSharesUptoCard : Claim7 := { stood := { row := fnAddSharesUptoRow, standIns := [], harness := (true, "b37ce45939a629688cecd6e5779b2aea98bbc95c642b1c5302563db08bff4c09"), looks := true }, kinds := [], alts := [], laidByText := true, laidKinds := [.sentinel], laidTests := true, laidLooks := .later }
def FnAddSharesUptoCardSaid : Prop := Claim7.holds Tryd.pinned (.plain (OpenSpec.upto fnAddSharesSpec)) fnAddSharesUptoCard

/-- THE SECOND FORM's CARD OF 'laws.FnCompareShares'. -/
def fnCompareSharesUptoCard : Claim7 := { stood := { row := fnCompareSharesUptoRow, standIns := [], harness := (true, "b37ce45939a629688cecd6e5779b2aea98bbc95c642b1c5302563db08bff4c09"), looks := true }, kinds := [], alts := [], laidByText := true, laidKinds := [.sentinel], laidTests := true, laidLooks := .later }
def FnCompareSharesUptoCardSaid : Prop := Claim7.holds Tryd.pinned (.plain (OpenSpec.upto fnCompareSharesSpec)) fnCompareSharesUptoCard

/-- THE SECOND FORM's CARD OF 'laws.FnShareZero'. -/
def fnShareZeroUptoCard : Claim7 := { stood := { row := fnShareZeroUptoRow, standIns := [], harness := (true, "b37ce45939a629688cecd6e5779b2aea98bbc95c642b1c5302563db08bff4c09"), looks := true }, kinds := [], alts := [], laidByText := true, laidKinds := [.sentinel], laidTests := true, laidLooks := .later }
def FnShareZeroUptoCardSaid : Prop := Claim7.holds Tryd.pinned (.plain (OpenSpec.upto fnShareZeroSpec)) fnShareZeroUptoCard

/-- THE SECOND FORM's CARD OF 'laws.FnShareTwice'. -/
def fnShareTwiceUptoCard : Claim7 := { stood := { row := fnShareTwiceUptoRow, standIns := [], harness := (true, "b37ce45939a629688cecd6e5779b2aea98bbc95c642b1c5302563db08bff4c09"), looks := true }, kinds := [], alts := [], laidByText := true, laidKinds := [.sentinel], laidTests := true, laidLooks := .later }
def FnShareTwiceUptoCardSaid : Prop := Claim7.holds Tryd.pinned (.plain (OpenSpec.upto fnShareTwiceSpec)) fnShareTwiceUptoCard

/-- THE SECOND FORM's CARD OF 'laws.FnAddMore'. -/
def fnAddMoreUptoCard : Claim7 := { stood := { row := fnAddMoreUptoRow, standIns := [], harness := (true, "b37ce45939a629688cecd6e5779b2aea98bbc95c642b1c5302563db08bff4c09"), looks := true }, kinds := [], alts := [], laidByText := true, laidKinds := [.sentinel], laidTests := true, laidLooks := .later }
def FnAddMoreUptoCardSaid : Prop := Claim7.holds Tryd.pinned (.plain (OpenSpec.upto fnAddMoreSpec)) fnAddMoreUptoCard

/-- THE SECOND FORM's CARD OF 'laws.FnCompareSame'. -/
def fnCompareSameUptoCard : Claim7 := { stood := { row := fnCompareSameUptoRow, standIns := [], harness := (true, "b37ce45939a629688cecd6e5779b2aea98bbc95c642b1c5302563db08bff4c09"), looks := true }, kinds := [], alts := [], laidByText := true, laidKinds := [.sentinel], laidTests := true, laidLooks := .later }
def FnCompareSameUptoCardSaid : Prop := Claim7.holds Tryd.pinned (.plain (OpenSpec.upto fnCompareSameSpec)) fnCompareSameUptoCard

/-- THE SECOND FORM's CARD OF 'laws.FnShareValid'. -/
def fnShareValidUptoCard : Claim7 := { stood := { row := fnShareValidUptoRow, standIns := [], harness := (true, "b37ce45939a629688cecd6e5779b2aea98bbc95c642b1c5302563db08bff4c09"), looks := true }, kinds := [], alts := [], laidByText := true, laidKinds := [.sentinel], laidTests := true, laidLooks := .later }
def FnShareValidUptoCardSaid : Prop := Claim7.holds Tryd.pinned (.plain (OpenSpec.upto fnShareValidSpec)) fnShareValidUptoCard

/-- THE SECOND FORM's CARD OF 'laws.FnExactMakeShare'. -/
def fnExactMakeShareUptoCard : Claim7 := { stood := { row := fnExactMakeShareUptoRow, standIns := [], harness := (true, "b37ce45939a629688cecd6e5779b2aea98bbc95c642b1c5302563db08bff4c09"), looks := true }, kinds := [], alts := [], laidByText := true, laidKinds := [.sentinel], laidTests := true, laidLooks := .later }
def FnExactMakeShareUptoCardSaid : Prop := Claim7.holds Tryd.pinned (.plain (OpenSpec.upto fnExactMakeShareSpec)) fnExactMakeShareUptoCard

/-- THE SECOND FORM's CARD OF 'laws.FnExactShareValid'. -/
def fnExactShareValidUptoCard : Claim7 := { stood := { row := fnExactShareValidUptoRow, standIns := [], harness := (true, "b37ce45939a629688cecd6e5779b2aea98bbc95c642b1c5302563db08bff4c09"), looks := true }, kinds := [], alts := [], laidByText := true, laidKinds := [.sentinel], laidTests := true, laidLooks := .later }
def FnExactShareValidUptoCardSaid : Prop := Claim7.holds Tryd.pinned (.plain (OpenSpec.upto fnExactShareValidSpec)) fnExactShareValidUptoCard

/-- THE SECOND FORM's CARD OF 'laws.FnExactAddShares'. -/
def fnExactAddSharesUptoCard : Claim7 := { stood := { row := fnExactAddSharesUptoRow, standIns := [], harness := (true, "b37ce45939a629688cecd6e5779b2aea98bbc95c642b1c5302563db08bff4c09"), looks := true }, kinds := [], alts := [], laidByText := true, laidKinds := [.sentinel], laidTests := true, laidLooks := .later }
def FnExactAddSharesUptoCardSaid : Prop := Claim7.holds Tryd.pinned (.plain (OpenSpec.upto fnExactAddSharesSpec)) fnExactAddSharesUptoCard

/-- THE SECOND FORM's CARD OF 'laws.FnExactCompareShares'. -/
def fnExactCompareSharesUptoCard : Claim7 := { stood := { row := fnExactCompareSharesUptoRow, standIns := [], harness := (true, "b37ce45939a629688cecd6e5779b2aea98bbc95c642b1c5302563db08bff4c09"), looks := true }, kinds := [], alts := [], laidByText := true, laidKinds := [.sentinel], laidTests := true, laidLooks := .later }
def FnExactCompareSharesUptoCardSaid : Prop := Claim7.holds Tryd.pinned (.plain (OpenSpec.upto fnExactCompareSharesSpec)) fnExactCompareSharesUptoCard
end Rows
end Go.Proofs.YtbaecbibkmdbiabDoor
