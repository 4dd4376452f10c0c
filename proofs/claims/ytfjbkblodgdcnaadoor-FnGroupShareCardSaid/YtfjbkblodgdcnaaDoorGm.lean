/- Groups as plain data: they are valid, and together they are all tasks (no program text). -/
import Derived.Test.YtfjbkblodgdcnaaDoorGo
import Derived.Test.YtfjbkblodgdcnaaDoorNB
namespace Go.Proofs.YtfjbkblodgdcnaaDoor
open Go.RowKit
set_option linter.unusedVariables false

theorem pack_more {ts : List Tk} {ws : List Int} {p : Int} (h : packB ts ws p = true) : packB ts ws 3 = true := by
  obtain ⟨h1, h2, h3, h4⟩ := packB_iff.1 h
  exact packB_iff.2 ⟨h1, by omega, h3, fun z hz => by have := h4 z hz; omega⟩
theorem group_pack {ts : List Tk} {ws : List Int} {p : Int} (h : groupB ts ws p = true) : packB ts ws 3 = true := by
  unfold groupB at h
  rw [Bool.and_eq_true] at h
  exact h.1
theorem group_any {ts : List Tk} {ws : List Int} {j : Nat} (h : packB ts ws 3 = true) (hj : j < 3) : groupB ts ws (j : Int) = true := by
  unfold groupB inPB
  rw [h, decide_eq_true (show (0 : Int) ≤ (j : Int) by omega), decide_eq_true (show (j : Int) < 3 by omega)]
  rfl
theorem putN_mem {ts : List Tk} {o : List Nat} (ho : ∀ i ∈ o, i < ts.length) {t : Tk} (h : t ∈ putN ts o) : t ∈ ts := by
  unfold putN at h
  obtain ⟨i, hi, rfl⟩ := List.mem_map.1 h
  have := ho i hi
  rw [List.getD_eq_getElem?_getD, List.getElem?_eq_getElem this]
  exact List.getElem_mem this
theorem group_set {ts : List Tk} (ws : List Int) (p : Int) (h : setB ts = true) : setB (groupL ts ws p) = true := by
  refine set_of (Nat.le_trans (groupK_len _ _ _ _) (setB_len h)) fun t ht => set_ok h ?_
  exact putN_mem (fun i hi => placesN_lt hi) ht
/-- How many tasks the first j processors have, among the first k tasks. -/
def cntG (ts : List Tk) (ws : List Int) (k : Nat) : Nat → Nat
  | 0 => 0
  | j + 1 => cntG ts ws k j + (groupK ts ws (j : Int) k).length
theorem cntG_all {ts : List Tk} {ws : List Int} (hl : ws.length = ts.length) (h : ∀ z ∈ ws, 0 ≤ z ∧ z < 3) : ∀ k, k ≤ ts.length → cntG ts ws k 3 = k
  | 0, _ => rfl
  | k + 1, hk => by
    have ih := cntG_all hl h k (by omega)
    obtain ⟨t, ht⟩ : ∃ t, ts[k]? = some t := ⟨_, List.getElem?_eq_getElem (by omega)⟩
    obtain ⟨z, hz⟩ : ∃ z, ws[k]? = some z := ⟨_, List.getElem?_eq_getElem (by omega)⟩
    have hz3 := h z (List.mem_of_getElem? hz)
    have step : ∀ p : Int, (groupK ts ws p (k + 1)).length = (groupK ts ws p k).length + if z = p then 1 else 0 := fun p => by
      by_cases e : z = p
      · rw [groupK_yes ht (by unfold onB; rw [hz, e]; simp), if_pos e, List.length_append]; rfl
      · rw [groupK_no (by unfold onB; rw [hz]; simpa using e), if_neg e, Nat.add_zero]
    simp only [cntG] at ih ⊢
    rw [step, step, step]
    have e : ((0 : Nat) : Int) = 0 ∧ ((1 : Nat) : Int) = 1 ∧ ((2 : Nat) : Int) = 2 := by omega
    rw [e.1, e.2.1, e.2.2] at ih ⊢
    rcases (by omega : z = 0 ∨ z = 1 ∨ z = 2) with rfl | rfl | rfl <;> simp <;> omega
theorem cntG_le (ts : List Tk) (ws : List Int) (k : Nat) : ∀ j, cntG ts ws k j ≤ j * k
  | 0 => by simp [cntG]
  | j + 1 => by
    have := cntG_le ts ws k j
    have := groupK_len ts ws (j : Int) k
    simp only [cntG]
    rw [Nat.succ_mul]
    omega

end Go.Proofs.YtfjbkblodgdcnaaDoor
