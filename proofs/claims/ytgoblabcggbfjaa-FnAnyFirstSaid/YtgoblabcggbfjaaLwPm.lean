/- Orders as lists of numbers: what holds of those that are found (no program text). -/
import Derived.Test.YtgoblabcggbfjaaLwX4z
import Derived.Test.YtgoblabcggbfjaaMB
namespace Go.Proofs.Ytgoblabcggbfjaa
open Go.RowKit
set_option linter.unusedVariables false

theorem ord_perm {n : Nat} {o : List Nat} (h : o.Perm (List.range n)) : ordB (toZ o) n = true := by
  rw [ordB_iff]
  refine ⟨by rw [toZ_len, h.length_eq, List.length_range], fun z hz => ?_, ?_⟩
  · obtain ⟨i, hi, rfl⟩ := List.mem_map.1 hz
    have := List.mem_range.1 (h.mem_iff.1 hi)
    exact ⟨Int.natCast_nonneg i, by show (i : Int) < _; omega⟩
  · exact List.pairwise_map.2 ((h.nodup_iff.2 (nodup_range _)).imp fun hab e => hab (by injection e))
theorem toZ_nat (o : List Nat) : (toZ o).map Int.toNat = o := by
  unfold toZ
  rw [List.map_map]
  conv => rhs; rw [← List.map_id o]
  exact List.map_congr_left fun x _ => rfl
theorem assign_good {ts : List Tk} {us : List Int} (h : asgR (assignOf ts) = us ∧ (assignOf ts).isSome = true) : (setB ts && ordB us ts.length) = true ∧ hBoth (putN ts (us.map Int.toNat)) = true ∧ us.length = ts.length := by
  obtain ⟨o, ho⟩ := Option.isSome_iff_exists.1 h.2
  obtain ⟨h1, h2, h3⟩ := assign_some ho
  have hu : us = toZ o := by rw [← h.1, ho]; rfl
  subst hu
  refine ⟨by rw [h1, ord_perm h2]; rfl, ?_, by rw [toZ_len, h2.length_eq, List.length_range]⟩
  rw [toZ_nat, hBoth_holds]
  exact ⟨by rw [set_perm (put_all h2)]; exact h1, h3⟩
theorem any_good {ts : List Tk} {us : List Int} (h : asgR (anyOf ts) = us ∧ (anyOf ts).isSome = true) : (setB ts && ordB us ts.length) = true ∧ hBoth (putN ts (us.map Int.toNat)) = true ∧ us.length = ts.length := by
  obtain ⟨o, ho⟩ := Option.isSome_iff_exists.1 h.2
  obtain ⟨h1, h2, h3⟩ := any_some ho
  have hu : us = toZ o := by rw [← h.1, ho]; rfl
  subst hu
  refine ⟨by rw [h1, ord_perm h2]; rfl, ?_, by rw [toZ_len, h2.length_eq, List.length_range]⟩
  rw [toZ_nat]; exact h3
theorem none_nil {r : Option (List Nat)} {us : List Int} (h : asgR r = us ∧ r.isSome = false) : us = [] := by
  cases r with
  | none => exact h.1.symm
  | some o => cases h.2
theorem any_range {ts : List Tk} {us : List Int} (h : asgR (anyOf ts) = us ∧ (anyOf ts).isSome = true) (hb : hBoth ts = true) : us = toZ (List.range ts.length) := by
  rw [← h.1, any_self hb]; rfl
theorem range_at {n j : Nat} (h : j < n) : (toZ (List.range n))[j]? = some (j : Int) := toZ_get (by rw [List.getElem?_range h])


end Go.Proofs.Ytgoblabcggbfjaa
