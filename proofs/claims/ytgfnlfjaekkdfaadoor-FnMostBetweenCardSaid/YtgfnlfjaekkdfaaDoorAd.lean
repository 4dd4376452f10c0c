/- Admission as plain data (no program text). -/
import Derived.Test.YtgfnlfjaekkdfaaDoorHbD
namespace Go.Proofs.YtgfnlfjaekkdfaaDoor
open Go.RowKit
set_option linter.unusedVariables false

/-- Whether a task is admitted, and the tasks then. -/
def admB (ts : List Tk) (t : Tk) (pol : Int) : Bool := hBy ts pol && (if pol = 0 then (assignOf (ts ++ [t])).isSome else hBy (ts ++ [t]) pol)
def admL (ts : List Tk) (t : Tk) (pol : Int) : List Tk := if admB ts t pol then (if pol = 0 then putN (ts ++ [t]) ((assignOf (ts ++ [t])).getD []) else ts ++ [t]) else []
theorem adm_no {ts : List Tk} {t : Tk} {pol : Int} (h : hBy ts pol = false) : admB ts t pol = false := by unfold admB; rw [h]; rfl
theorem adm_nil {ts : List Tk} {t : Tk} {pol : Int} (h : admB ts t pol = false) : admL ts t pol = [] := by unfold admL; rw [h]; rfl
theorem adm_place {ts : List Tk} {t : Tk} (h : hBy ts 0 = true) : admB ts t 0 = (assignOf (ts ++ [t])).isSome := by unfold admB; rw [h]; rfl
theorem adm_place_some {ts : List Tk} {t : Tk} {o : List Nat} (h : hBy ts 0 = true) (ho : assignOf (ts ++ [t]) = some o) : admB ts t 0 = true ∧ admL ts t 0 = putN (ts ++ [t]) o := by
  have hb : admB ts t 0 = true := by rw [adm_place h, ho]; rfl
  refine ⟨hb, ?_⟩
  unfold admL
  rw [if_pos hb, if_pos rfl, ho]; rfl
theorem adm_place_none {ts : List Tk} {t : Tk} (h : hBy ts 0 = true) (ho : assignOf (ts ++ [t]) = none) : admB ts t 0 = false ∧ admL ts t 0 = [] := by
  have hb : admB ts t 0 = false := by rw [adm_place h, ho]; rfl
  exact ⟨hb, adm_nil hb⟩
theorem adm_due {ts : List Tk} {t : Tk} {pol : Int} (h : hBy ts pol = true) (h0 : ¬ pol = 0) : admB ts t pol = hBy (ts ++ [t]) pol := by unfold admB; rw [h, if_neg h0]; rfl
theorem adm_due_some {ts : List Tk} {t : Tk} {pol : Int} (h : hBy ts pol = true) (h0 : ¬ pol = 0) (h1 : hBy (ts ++ [t]) pol = true) : admB ts t pol = true ∧ admL ts t pol = ts ++ [t] := by
  have hb : admB ts t pol = true := by rw [adm_due h h0, h1]
  refine ⟨hb, ?_⟩
  unfold admL
  rw [if_pos hb, if_neg h0]
theorem adm_pol {ts : List Tk} {t : Tk} {pol : Int} (h : admB ts t pol = true) : pol = 0 ∨ pol = 1 := by
  by_cases h0 : pol = 0
  · exact .inl h0
  by_cases h1 : pol = 1
  · exact .inr h1
  · rw [adm_no (hBy_no h0 h1)] at h; cases h
theorem adm_bad {ts : List Tk} {t : Tk} {pol : Int} (hs : setB (ts ++ [t]) = false) : admB ts t pol = false := by
  unfold admB
  split
  · rw [assign_bad hs]; simp
  · cases hx : hBy (ts ++ [t]) pol
    · simp
    · rw [hBy_set hx] at hs; cases hs
theorem hBy_pol {ts : List Tk} {pol : Int} (h : hBy ts pol = true) : pol = 0 ∨ pol = 1 := by
  by_cases h0 : pol = 0
  · exact .inl h0
  by_cases h1 : pol = 1
  · exact .inr h1
  · rw [hBy_no h0 h1] at h; cases h
theorem adm_two (ts : List Tk) (t : Tk) : admB ts t 2 = false := adm_no (hBy_no (by decide) (by decide))
theorem adm_facts {ts : List Tk} {t : Tk} {pol : Int} (h : admB ts t pol = true) : hBy ts pol = true ∧ hBy (admL ts t pol) pol = true ∧ (admL ts t pol).Perm (ts ++ [t]) ∧ setB (ts ++ [t]) = true := by
  have hh : hBy ts pol = true := by
    unfold admB at h
    rw [Bool.and_eq_true] at h
    exact h.1
  refine ⟨hh, ?_⟩
  rcases adm_pol h with rfl | rfl
  · rw [adm_place hh] at h
    obtain ⟨o, ho⟩ := Option.isSome_iff_exists.1 h
    obtain ⟨h1, h2, h3⟩ := assign_some ho
    rw [(adm_place_some hh ho).2]
    have hp := put_all h2
    exact ⟨hBoth_holds.2 ⟨by rw [set_perm hp]; exact h1, h3⟩, hp, h1⟩
  · rw [adm_due hh (by decide)] at h
    rw [(adm_due_some hh (by decide) h).2]
    exact ⟨h, List.Perm.refl _, hBy_set h⟩
theorem adm_len {ts : List Tk} {t : Tk} {pol : Int} : (admL ts t pol).length ≤ ts.length + 1 := by
  cases h : admB ts t pol
  · rw [adm_nil h]; exact Nat.zero_le _
  · rw [(adm_facts h).2.2.1.length_eq, List.length_append]; exact Nat.le_refl _
theorem adm_len5 {ts : List Tk} {t : Tk} {pol : Int} : (admL ts t pol).length ≤ 5 := by
  cases h : admB ts t pol
  · rw [adm_nil h]; exact Nat.zero_le _
  · rw [(adm_facts h).2.2.1.length_eq]; exact setB_len (adm_facts h).2.2.2
/-- A task that is refused by place is refused when more are admitted. -/
theorem adm_again {ts : List Tk} {t u : Tk} (h : admB ts t 0 = false) (hu : admB ts u 0 = true) : admB (admL ts u 0) t 0 = false := by
  cases hx : admB (admL ts u 0) t 0
  · rfl
  exfalso
  obtain ⟨a1, a2, a3, a4⟩ := adm_facts hu
  obtain ⟨b1, b2, b3, b4⟩ := adm_facts hx
  rw [adm_place b1] at hx
  have hc := (assign_iff b4).1 hx
  have hp : (admL ts u 0 ++ [t]).Perm (u :: (ts ++ [t])) := by
    refine (a3.append_right [t]).trans ?_
    rw [List.append_assoc]
    exact List.perm_middle
  have hs : setB (u :: (ts ++ [t])) = true := by rw [← set_perm hp]; exact b4
  have hc2 : Can (ts ++ [t]) := can_less ((can_perm hp).1 hc)
  rw [adm_place a1, (assign_iff (set_cons hs).2).2 hc2] at h
  cases h

end Go.Proofs.YtgfnlfjaekkdfaaDoor
