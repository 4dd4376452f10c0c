/- The walks of the laws FnCountTurned, FnAssignOrderOf and FnCanBeLast: what does not depend on the order of the tasks. -/
import Derived.Test.YtgoblabcggbfjaaLwX4z
import Derived.Test.YtgoblabcggbfjaaLwX4c
import Derived.Test.YtgoblabcggbfjaaMB
import Derived.Test.YtgoblabcggbfjaaMC
namespace Go.Proofs.Ytgoblabcggbfjaa
open Go.RowKit
set_option linter.unusedVariables false

/-- The last tasks, turned. -/
def tailR (ts : List Tk) (j : Nat) : List Tk := (ts.drop j).reverse
theorem tailR_all (ts : List Tk) : tailR ts ts.length = [] := by unfold tailR; rw [List.drop_length]; rfl
theorem tailR_zero {ts rs : List Tk} (h : ts.reverse = rs) : tailR ts 0 = rs := by unfold tailR; rw [List.drop_zero]; exact h
theorem tailR_len (ts : List Tk) (j : Nat) : (tailR ts j).length ≤ ts.length := by unfold tailR; rw [List.length_reverse, List.length_drop]; omega
theorem tailR_step {ts : List Tk} {q : Nat} {t : Tk} (ht : ts[q]? = some t) : tailR ts q = tailR ts (q + 1) ++ [t] := by
  obtain ⟨h1, h2⟩ := List.getElem?_eq_some_iff.1 ht
  unfold tailR
  rw [List.drop_eq_getElem_cons h1, List.reverse_cons, h2]
theorem can_turn {ts : List Tk} {k : Nat} (hk : k < ts.length) : canL ts.reverse (ts.length - 1 - k) = canL ts k := by
  obtain ⟨t, ht⟩ := get_at (ts := ts) rfl hk
  have hr : ts.reverse[ts.length - 1 - k]? = some t := by rw [List.getElem?_reverse (by omega), show ts.length - 1 - (ts.length - 1 - k) = k by omega]; exact ht
  have hp : (ts.reverse.eraseIdx (ts.length - 1 - k)).Perm (ts.eraseIdx k) := (((erase_perm hr).trans (List.reverse_perm ts)).trans (erase_perm ht).symm).cons_inv
  have hs : setB ts.reverse = setB ts := set_perm (List.reverse_perm ts)
  cases h : setB ts
  · rw [can_bad _ h, can_bad _ (hs.trans h)]
  · rw [can_at h ht, can_at (hs.trans h) hr, bothL_perm hp]
theorem assign_turn {ts : List Tk} (hs : setB ts = true) : (assignOf ts.reverse).isSome = (assignOf ts).isSome ∧ (asgR (assignOf ts.reverse)).length = (asgR (assignOf ts)).length := by
  have hr : setB ts.reverse = true := (set_perm (List.reverse_perm ts)).trans hs
  have h1 : (assignOf ts.reverse).isSome = (assignOf ts).isSome := by
    rw [Bool.eq_iff_iff, assign_iff hs, assign_iff hr]
    exact can_perm (List.reverse_perm ts)
  refine ⟨h1, ?_⟩
  cases ha : assignOf ts with
  | none =>
    rw [ha] at h1
    have : assignOf ts.reverse = none := by
      cases hb : assignOf ts.reverse with
      | none => rfl
      | some o => rw [hb] at h1; cases h1
    rw [this]
  | some o =>
    rw [ha] at h1
    obtain ⟨p, hp⟩ := Option.isSome_iff_exists.1 h1
    rw [hp]
    show (toZ p).length = (toZ o).length
    rw [toZ_len, toZ_len, (assign_some hp).2.1.length_eq, (assign_some ha).2.1.length_eq]
    simp


end Go.Proofs.Ytgoblabcggbfjaa
