import Derived.Test.YtgponahmkjohiabGreatDoorT2ND
namespace Go.Proofs.YtgponahmkjohiabGreatDoor
open Go.RowKit
set_option linter.unusedVariables false
instance instDecJb : DecidableEq Jb := fun a b => decidable_of_iff (a.ta = b.ta ∧ a.tm = b.tm ∧ a.ne = b.ne) ⟨fun h => Jb.eq_of h.1 h.2.1 h.2.2, fun h => by subst h; exact ⟨rfl, rfl, rfl⟩⟩
end Go.Proofs.YtgponahmkjohiabGreatDoor
