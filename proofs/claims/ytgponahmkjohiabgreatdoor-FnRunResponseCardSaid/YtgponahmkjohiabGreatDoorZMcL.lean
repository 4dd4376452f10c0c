import Derived.Test.YtgponahmkjohiabGreatDoorZMcJ
import Derived.Test.YtgponahmkjohiabGreatDoorZND
import Derived.Test.YtgponahmkjohiabGreatDoorZNG
namespace Go.Proofs.YtgponahmkjohiabGreatDoor
open Go.RowKit
set_option linter.unusedVariables false
section
variable {ts : List Tk} {js : List Jb} {p : Po}
theorem missB_is (hv : jobsB ts js = true) {k : Nat} (hk : k < js.length) (en : List Int) (n : Nat) : missB ts js en n k = lateB (tkJ ts js k).du (jobOf js k).tm (en.getD k 0) n := by
  have hj := due_ok hv (List.mem_of_getElem? (job_get hk))
  have hok := tk_nums (job_ok hv hk).2.2.2.2.2.2.2
  have htm := (job_ok hv hk).2.1
  have e : js.getD k ⟨0, 0, 0⟩ = jobOf js k := rfl
  unfold missB
  rw [e, hj]
  unfold missX lateB tkJ
  dsimp only
  unfold tkJ at hok
  by_cases h : en.getD k 0 = -1
  · rw [if_pos h, h, decide_eq_false (show ¬ (jobOf js k).tm + (tkOf ts (jobOf js k).ta).du < -1 by omega)]
    simp
  · rw [if_neg h, decide_eq_false h]
    simp
theorem miss_in (hv : jobsB ts js = true) {en : List Int} {n : Nat} {z : Int} (h : z ∈ missV ts js en n) : ∃ k : Nat, z = (k : Int) ∧ k < js.length ∧ lateB (tkJ ts js k).du (jobOf js k).tm (en.getD k 0) n = true := by
  unfold missV at h
  split at h
  · obtain ⟨k, e, hk, hm⟩ := places_mem.1 h
    exact ⟨k, e, hk, by rw [← missB_is hv hk]; exact hm⟩
  · cases h
theorem in_miss (hv : jobsB ts js = true) {en : List Int} {n k : Nat} (he : en.length = js.length) (hk : k < js.length) (h : lateB (tkJ ts js k).du (jobOf js k).tm (en.getD k 0) n = true) : (k : Int) ∈ missV ts js en n := by
  unfold missV
  rw [if_pos ⟨hv, he⟩]
  exact places_mem.2 ⟨k, rfl, hk, by rw [missB_is hv hk]; exact h⟩
theorem en_len (hv : jobsB ts js = true) (n : Nat) : (runM ts js p n).en.length = js.length := (run_at (p := p) hv n).1.enl
theorem ranZ_cnt (z : Int) : ∀ tr : List Int, ((ranZ z tr : Nat) : Int) = cntT z tr := by
  intro tr
  have key : ∀ (l : List Int) (a : Int), l.foldl (fun n x => if x = z then n + 1 else n) a = a + ((ranZ z l : Nat) : Int) := by
    intro l
    induction l with
    | nil => intro a; simp [ranZ]
    | cons x l ih =>
      intro a
      rw [List.foldl_cons, ih]
      unfold ranZ
      rw [List.filter_cons]
      by_cases h : x = z
      · rw [if_pos h, if_pos (by simpa using h), List.length_cons]; omega
      · rw [if_neg h, if_neg (by simpa using h)]
  unfold cntT
  rw [key tr 0]
  omega
end
end Go.Proofs.YtgponahmkjohiabGreatDoor
