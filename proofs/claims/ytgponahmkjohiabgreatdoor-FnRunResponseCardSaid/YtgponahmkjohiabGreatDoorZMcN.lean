import Derived.Test.YtgponahmkjohiabGreatDoorZMcL
namespace Go.Proofs.YtgponahmkjohiabGreatDoor
open Go.RowKit
set_option linter.unusedVariables false
section
variable {ts : List Tk} {js : List Jb} {p : Po}
theorem tr_at (hv : jobsB ts js = true) {n t : Nat} {x : Int} (h : (runM ts js p n).tr[t]? = some x) : t < n ∧ x = outN ts js p t := by
  have ht : t < n := by
    have := (List.getElem?_eq_some_iff.1 h).1
    rwa [tr_len hv] at this
  rw [tr_get hv n t ht] at h
  exact ⟨ht, (Option.some.inj h).symm⟩
end
end Go.Proofs.YtgponahmkjohiabGreatDoor
