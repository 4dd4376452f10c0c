/-
  DERIVED. GIVEN WITH THE SEED: THE CARDS: each row of YtgfnlfjaekkdfaaDoorRows.lean that lists a variable, with what it lists TIED to the program's text (the seventh form; the later family's looks); each row that meets fmt, with fmt's text TOLD by the authors' own Lean function (tested against real Go, not proved from fmt's source: count such statements apart). THE CARD IS WHAT COUNTS. Prove the row's statement (the work); the ties are given (YtgfnlfjaekkdfaaDoorTie.lean); close each card by the builder's one call (the guide's Derived/Test/ToyasCard.lean, 'card_holds'). Laid BY PROGRAM, IN A SANDBOX (cutbox-door.mjs). By AI agents, Wed Nov 11 2026. No macro, syntax, notation, axiom, sorry.
-/
import Derived.Test.YtgfnlfjaekkdfaaDoorRows
import GoSem.ClaimSeven
namespace Go.Proofs.YtgfnlfjaekkdfaaDoor
namespace Rows

/-- THE TIED CARD OF 'laws.FnMostLowHigh'. -/
def fnMostLowHighCard : Claim7 := { stood := { row := fnMostLowHighRow, standIns := [], harness := (true, "c33d216a17c4f31621b7cf4b188d8d65f589bea1f782b0acdfb9617496647844"), looks := true }, kinds := [], alts := [], laidByText := true, laidKinds := [.sentinel], laidTests := true, laidLooks := .later }
def FnMostLowHighCardSaid : Prop := Claim7.holds Tryd.pinned (.plain (OpenSpec.ofChange fnMostLowHighSpec)) fnMostLowHighCard

/-- THE TIED CARD OF 'laws.FnMostBetween'. -/
def fnMostBetweenCard : Claim7 := { stood := { row := fnMostBetweenRow, standIns := [], harness := (true, "c33d216a17c4f31621b7cf4b188d8d65f589bea1f782b0acdfb9617496647844"), looks := true }, kinds := [], alts := [], laidByText := true, laidKinds := [.sentinel], laidTests := true, laidLooks := .later }
def FnMostBetweenCardSaid : Prop := Claim7.holds Tryd.pinned (.plain (OpenSpec.ofChange fnMostBetweenSpec)) fnMostBetweenCard

/-- THE SECOND FORM's CARD OF 'laws.FnMostLowHigh'. -/
def fnMostLowHighUptoCard : Claim7 := { stood := { row := fnMostLowHighUptoRow, standIns := [], harness := (true, "c33d216a17c4f31621b7cf4b188d8d65f589bea1f782b0acdfb9617496647844"), looks := true }, kinds := [], alts := [], laidByText := true, laidKinds := [.sentinel], laidTests := true, laidLooks := .later }
def FnMostLowHighUptoCardSaid : Prop := Claim7.holds Tryd.pinned (.plain (OpenSpec.upto fnMostLowHighSpec)) fnMostLowHighUptoCard

/-- THE SECOND FORM's CARD OF 'laws.FnMostBetween'. -/
def fnMostBetweenUptoCard : Claim7 := { stood := { row := fnMostBetweenUptoRow, standIns := [], harness := (true, "c33d216a17c4f31621b7cf4b188d8d65f589bea1f782b0acdfb9617496647844"), looks := true }, kinds := [], alts := [], laidByText := true, laidKinds := [.sentinel], laidTests := true, laidLooks := .later }
def FnMostBetweenUptoCardSaid : Prop := Claim7.holds Tryd.pinned (.plain (OpenSpec.upto fnMostBetweenSpec)) fnMostBetweenUptoCard
end Rows
end Go.Proofs.YtgfnlfjaekkdfaaDoor
