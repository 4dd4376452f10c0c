import Derived.Test.YtgponahmkjohiabGreatDoorT2NH
namespace Go.Proofs.YtgponahmkjohiabGreatDoor
open Go.RowKit
set_option linter.unusedVariables false
theorem Code.bel {w w' : World} {A : Option Addr} {n c : Nat} {f : Nat → Int} (h : Code w w.heap.size A n c f) (hb : Below w.heap.size w w') : Code w' w'.heap.size A n c f :=
  ⟨h.le, h.max, fun i hi => by
    obtain ⟨b, o, e, hlt, hc⟩ := h.at_ i hi
    refine ⟨b, o, e, Nat.lt_of_lt_of_le hlt hb.size, ?_⟩
    have e2 := hb.block b hlt
    rw [← hc]
    simp only [World.cell?, e2], h.byte⟩
end Go.Proofs.YtgponahmkjohiabGreatDoor
