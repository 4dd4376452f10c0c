import Derived.Test.YtgponahmkjohiabGreatDoorT2QHa
import Derived.Test.YtgponahmkjohiabGreatDoorT2JbH
import Derived.Test.YtgponahmkjohiabGreatDoorT2QIns
namespace Go.Proofs.YtgponahmkjohiabGreatDoor
open Go.RowKit
set_option linter.unusedVariables false
theorem jset3 : ∀ (ts : List Jb) (k : Nat) (j : Jb), k < ts.length → (((ts.flatMap Jb.cells).set (k * 3) (.int .i64 j.ta)).set (k * 3 + 1) (.int .i64 j.tm)).set (k * 3 + 2) (.int .i64 j.ne) = (ts.set k j).flatMap Jb.cells
  | [], k, j, h => by simp at h
  | t :: ts, 0, j, h => by simp [Jb.cells]
  | t :: ts, k + 1, j, h => by
    have ih := jset3 ts k j (by simpa using h)
    rw [List.set_cons_succ, List.flatMap_cons, List.flatMap_cons, ← ih]
    have e0 : (k + 1) * 3 = t.cells.length + k * 3 := by simp [Jb.cells]; omega
    rw [e0]
    simp only [Nat.add_assoc]
    rw [List.set_append_right _ _ (by omega), List.set_append_right _ _ (by omega), List.set_append_right _ _ (by omega)]
    simp
theorem OwnJ.put3 {w : World} {B g n c : Nat} {js : List Jb} (ho : OwnJ w B (.slice (some ⟨g, 0, none⟩) n c) js) (k : Nat) (j : Jb) (hk : k < js.length) :
    OwnJ (put3 w ⟨g, k * 3, none⟩ j.ta j.tm j.ne) B (.slice (some ⟨g, 0, none⟩) n c) (js.set k j) := by
  have hn := ho.reads.1
  subst hn
  have h1 := (World.ownsRow.stored ho (k * 3) (.int .i64 j.ta)).1
  have h2 := (World.ownsRow.stored h1 (k * 3 + 1) (.int .i64 j.tm)).1
  have h3 := (World.ownsRow.stored h2 (k * 3 + 2) (.int .i64 j.ne)).1
  rw [jset3 js k j hk] at h3
  unfold OwnJ
  rw [List.length_set]
  unfold Go.Proofs.YtgponahmkjohiabGreatDoor.put3
  simpa [addr_add3] using h3
end Go.Proofs.YtgponahmkjohiabGreatDoor
