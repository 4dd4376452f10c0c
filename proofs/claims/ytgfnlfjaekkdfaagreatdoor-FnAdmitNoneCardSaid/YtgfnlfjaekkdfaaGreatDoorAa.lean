/- What holds of tasks that were admitted one after the other, as plain data (no program text). -/
import Derived.Test.YtgfnlfjaekkdfaaGreatDoorSAa
namespace Go.Proofs.YtgfnlfjaekkdfaaGreatDoor
open Go.RowKit
set_option linter.unusedVariables false

theorem hBy_nil {pol : Int} (h : pol = 0 ∨ pol = 1) : hBy [] pol = true := by
  rcases h with rfl | rfl <;> decide +kernel
theorem all_facts {ts : List Tk} {pol : Int} (hp : pol = 0 ∨ pol = 1) : ∀ k, k ≤ ts.length → hBy (allA ts pol k).1 pol = true ∧ (allA ts pol k).1.length + (allA ts pol k).2.length = k ∧ (∀ z ∈ (allA ts pol k).2, 0 ≤ z ∧ z < (k : Int)) ∧ (allA ts pol k).2.Pairwise (· < ·)
  | 0, _ => ⟨hBy_nil hp, rfl, fun z hz => (by cases hz), List.Pairwise.nil⟩
  | k + 1, hk => by
    obtain ⟨t, ht⟩ : ∃ t, ts[k]? = some t := ⟨ts[k]'(by omega), List.getElem?_eq_getElem _⟩
    obtain ⟨h1, h2, h3, h4⟩ := all_facts (ts := ts) hp k (by omega)
    cases h : admB (allA ts pol k).1 t pol
    · rw [all_no ht h]
      refine ⟨h1, ?_, fun z hz => ?_, ?_⟩
      · dsimp only
        rw [List.length_append, List.length_singleton]
        omega
      · rcases List.mem_append.1 hz with h5 | h5
        · have := h3 z h5; omega
        · rw [List.mem_singleton.1 h5]; omega
      · dsimp only
        rw [List.pairwise_append]
        refine ⟨h4, by simp, fun a ha b hb => ?_⟩
        rw [List.mem_singleton.1 hb]
        exact (h3 a ha).2
    · rw [all_yes ht h]
      obtain ⟨a1, a2, a3, a4⟩ := adm_facts h
      refine ⟨a2, ?_, fun z hz => ?_, h4⟩
      · dsimp only
        rw [a3.length_eq, List.length_append, List.length_singleton]
        omega
      · have := h3 z hz; omega
theorem allB_pol {ts : List Tk} {pol : Int} (h : allB ts pol = true) : ts.length ≤ 20 ∧ (pol = 0 ∨ pol = 1) := by
  unfold allB at h
  rw [Bool.and_eq_true, Bool.or_eq_true, decide_eq_true_iff, decide_eq_true_iff, decide_eq_true_iff] at h
  exact h

end Go.Proofs.YtgfnlfjaekkdfaaGreatDoor
