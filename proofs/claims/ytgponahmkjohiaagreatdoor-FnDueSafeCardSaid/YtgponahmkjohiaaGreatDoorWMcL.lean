import Derived.Test.YtgponahmkjohiaaGreatDoorWMcJ
import Derived.Test.YtgponahmkjohiaaGreatDoorWND
import Derived.Test.YtgponahmkjohiaaGreatDoorWNG
namespace Go.Proofs.YtgponahmkjohiaaGreatDoor
open Go.RowKit
set_option linter.unusedVariables false
section
variable {ts : List Tk} {js : List Jb} {p : Po}
theorem missB_is (hv : jobsB ts js = true) {k : Nat} (hk : k < js.length) (en : List Int) (n : Nat) : missB ts js en n k = lateB (tkJ ts js k).du (jobOf js k).tm (en.getD k 0) n := by
  have hj := due_ok hv (List.mem_of_getElem? (job_get hk))
  have hok := tk_nums (job_ok hv hk).2.2.2.2.2.2.2
  have htm := (job_ok hv hk).2.1
  have e : js.getD k ⟨0, 0, 0⟩ = jobOf js k := rfl
  unfold missB
  rw [e, hj]
  unfold missX lateB tkJ
  dsimp only
  unfold tkJ at hok
  by_cases h : en.getD k 0 = -1
  · rw [if_pos h, h, decide_eq_false (show ¬ (jobOf js k).tm + (tkOf ts (jobOf js k).ta).du < -1 by omega)]
    simp
  · rw [if_neg h, decide_eq_false h]
    simp
theorem places_nil {P : Nat → Bool} : ∀ {n : Nat}, (∀ k, k < n → P k = false) → placesI P n = []
  | 0, _ => rfl
  | n + 1, h => by
    unfold placesI
    rw [h n (by omega), if_neg (by decide)]
    exact places_nil fun k hk => h k (by omega)
theorem miss_nil (hv : jobsB ts js = true) {en : List Int} {n : Nat} (h : ∀ k, k < js.length → lateB (tkJ ts js k).du (jobOf js k).tm (en.getD k 0) n = false) : missV ts js en n = [] := by
  unfold missV
  split
  · exact places_nil fun k hk => by rw [missB_is hv hk]; exact h k hk
  · rfl
theorem en_len (hv : jobsB ts js = true) (n : Nat) : (runM ts js p n).en.length = js.length := (run_at (p := p) hv n).1.enl
/-- Tasks that hold with virtual deadlines are late with no job, by deadlines. -/
theorem due_safe (hv : jobsB ts js = true) (hb : virtV ts = true) (n : Nat) : missV ts js (runM ts js (poOf ts 1) n).en n = [] := by
  obtain ⟨P, w, S⟩ := sch_of hb
  refine miss_nil hv fun k hk => ?_
  exact not_late hv hk (fun t hl => edf_all hv S k t hl) (en_get (p := poOf ts 1) (n := n) hv hk)
end
end Go.Proofs.YtgponahmkjohiaaGreatDoor
