import Derived.RegionTactic
import Derived.Deep.RegionHeldLaw
import Derived.Deep.AppendLies
import Derived.Test.YtgponahmkjohiabGreatDoorT2MsF
import Derived.Test.YtgponahmkjohiabGreatDoorT2NH
namespace Go.Proofs.YtgponahmkjohiabGreatDoor
open Go.RowKit
set_option linter.unusedVariables false
theorem OwnZ.drewM {w : World} {B : Nat} {v : Value} {zs : List Int} (h : OwnZ w B v zs) : OwnZ w.drew B v zs := h
end Go.Proofs.YtgponahmkjohiabGreatDoor
