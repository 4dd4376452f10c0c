import Derived.LoopTactic
import Derived.Test.YtgponahmkjohiabGreatDoorT2NH
namespace Go.Proofs.YtgponahmkjohiabGreatDoor
open Go.RowKit
set_option linter.unusedVariables false
theorem ownJ_get {w : World} {B c g n : Nat} {js : List Jb} (h : OwnJ w B (.slice (some ⟨g, 0, none⟩) n c) js) {k : Nat} {j : Jb} (hj : js[k]? = some j) :
    B ≤ g ∧ g < w.heap.size ∧ w.cell? ⟨g, k * 3, none⟩ = some (.int .i64 j.ta) ∧ w.cell? ⟨g, k * 3 + 1, none⟩ = some (.int .i64 j.tm) ∧ w.cell? ⟨g, k * 3 + 2, none⟩ = some (.int .i64 j.ne) := by
  obtain ⟨h1, h2⟩ := World.ownsRow.lt h g rfl
  obtain ⟨_, c0, c1, c2⟩ := h.reads.2.get hj
  simp only [Nat.zero_add] at c0 c1 c2
  exact ⟨h1, h2, c0, c1, c2⟩
end Go.Proofs.YtgponahmkjohiabGreatDoor
