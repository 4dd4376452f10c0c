/- The shares of groups add up, as plain data (no program text). -/
import Derived.Test.YtfjbkblodgdcnaaDoorGm
import Derived.Test.YtfjbkblodgdcnaaDoorHbD
namespace Go.Proofs.YtfjbkblodgdcnaaDoor
open Go.RowKit
set_option linter.unusedVariables false

theorem group_perm {ts : List Tk} {ws : List Int} (hl : ws.length = ts.length) (h : ∀ z ∈ ws, 0 ≤ z ∧ z < 3) : ∀ k, k ≤ ts.length → (groupK ts ws 0 k ++ (groupK ts ws 1 k ++ groupK ts ws 2 k)).Perm (ts.take k)
  | 0, _ => by
    rw [List.take_zero]
    exact List.Perm.refl _
  | k + 1, hk => by
    have ih := group_perm hl h k (by omega)
    obtain ⟨t, ht⟩ : ∃ t, ts[k]? = some t := ⟨_, List.getElem?_eq_getElem (by omega)⟩
    obtain ⟨z, hz⟩ : ∃ z, ws[k]? = some z := ⟨_, List.getElem?_eq_getElem (by omega)⟩
    have hz3 := h z (List.mem_of_getElem? hz)
    have yes : groupK ts ws z (k + 1) = groupK ts ws z k ++ [t] := groupK_yes ht (by unfold onB; rw [hz]; simp)
    have no : ∀ p : Int, z ≠ p → groupK ts ws p (k + 1) = groupK ts ws p k := fun p hp => groupK_no (by unfold onB; rw [hz]; simpa using hp)
    rw [take_snoc ht]
    refine List.Perm.trans ?_ (List.perm_append_comm (l₁ := [t]) (l₂ := ts.take k))
    refine List.Perm.trans ?_ (List.Perm.cons t ih)
    rcases (by omega : z = 0 ∨ z = 1 ∨ z = 2) with rfl | rfl | rfl
    · rw [yes, no 1 (by decide), no 2 (by decide), List.append_assoc]
      exact List.perm_middle
    · rw [yes, no 0 (by decide), no 2 (by decide)]
      have e : groupK ts ws 0 k ++ ((groupK ts ws 1 k ++ [t]) ++ groupK ts ws 2 k) = (groupK ts ws 0 k ++ groupK ts ws 1 k) ++ (t :: groupK ts ws 2 k) := by simp
      have e2 : groupK ts ws 0 k ++ (groupK ts ws 1 k ++ groupK ts ws 2 k) = (groupK ts ws 0 k ++ groupK ts ws 1 k) ++ groupK ts ws 2 k := by simp
      rw [e, e2]
      exact List.perm_middle
    · rw [yes, no 0 (by decide), no 1 (by decide)]
      have e : groupK ts ws 0 k ++ (groupK ts ws 1 k ++ (groupK ts ws 2 k ++ [t])) = (groupK ts ws 0 k ++ (groupK ts ws 1 k ++ groupK ts ws 2 k)) ++ [t] := by simp
      rw [e]
      exact List.perm_append_singleton _ _
theorem high_app {xs ys : List Tk} (h : setB (xs ++ ys) = true) : highOf (xs ++ ys) = addN (highOf xs) (highOf ys) := by
  have := high_parts (ts := xs ++ ys) xs.length h
  rwa [List.take_left, List.drop_left] at this
/-- What the groups of the first j processors need at most. -/
def sumG (ts : List Tk) (ws : List Int) : Nat → Nat × Nat
  | 0 => (0, 1)
  | j + 1 => addN (sumG ts ws j) (highOf (groupL ts ws (j : Int)))
theorem sumG_facts {ts : List Tk} {ws : List Int} (h : packB ts ws 3 = true) :
    (∀ j, j < 3 → addB (sumG ts ws j) (highOf (groupL ts ws (j : Int))) = true ∧ Sh (sumG ts ws j).1 (sumG ts ws j).2) ∧ sumG ts ws 3 = highOf ts := by
  obtain ⟨hs, _, hl, hw⟩ := packB_iff.1 h
  have hp0 := group_perm hl hw ts.length (Nat.le_refl _)
  rw [List.take_length] at hp0
  have hp : (groupL ts ws 0 ++ (groupL ts ws 1 ++ groupL ts ws 2)).Perm ts := hp0
  have hs3 : setB (groupL ts ws 0 ++ (groupL ts ws 1 ++ groupL ts ws 2)) = true := by rw [set_perm hp]; exact hs
  have hs3' : setB ((groupL ts ws 0 ++ groupL ts ws 1) ++ groupL ts ws 2) = true := by rw [List.append_assoc]; exact hs3
  have hs01 : setB (groupL ts ws 0 ++ groupL ts ws 1) = true := set_sub hs3' (List.sublist_append_left _ _)
  have hs0 : setB (groupL ts ws 0) = true := set_sub hs01 (List.sublist_append_left _ _)
  have s0 := highOf_sh hs0
  have s01 := highOf_sh hs01
  have s3 := highOf_sh hs3'
  have e0 : addN (0, 1) (highOf (groupL ts ws 0)) = highOf (groupL ts ws 0) := by rw [add_comm]; exact add_zero s0.1.cop
  have e1 : sumG ts ws 1 = highOf (groupL ts ws 0) := e0
  have e2 : sumG ts ws 2 = highOf (groupL ts ws 0 ++ groupL ts ws 1) := by
    rw [high_app hs01]
    show addN (sumG ts ws 1) _ = _
    rw [e1]; rfl
  have e3 : sumG ts ws 3 = highOf ((groupL ts ws 0 ++ groupL ts ws 1) ++ groupL ts ws 2) := by
    rw [high_app hs3']
    show addN (sumG ts ws 2) _ = _
    rw [e2]; rfl
  have ok : ∀ {x : Nat × Nat}, x.1 ≤ 16000000 → x.2 ≤ 3200000 → (decide (x.1 ≤ 1000000000) && decide (x.2 ≤ 1000000000)) = true := fun h1 h2 => by
    rw [decide_eq_true (show _ ≤ 1000000000 by omega), decide_eq_true (show _ ≤ 1000000000 by omega)]; rfl
  refine ⟨fun j hj => ?_, ?_⟩
  · rcases (by omega : j = 0 ∨ j = 1 ∨ j = 2) with rfl | rfl | rfl
    · refine ⟨?_, show Sh 0 1 from ⟨by decide, by decide, by decide, by decide⟩⟩
      show (decide ((sumG ts ws 1).1 ≤ 1000000000) && decide ((sumG ts ws 1).2 ≤ 1000000000)) = true
      rw [e1]; exact ok s0.2.1 s0.2.2
    · refine ⟨?_, by rw [e1]; exact s0.1⟩
      show (decide ((sumG ts ws 2).1 ≤ 1000000000) && decide ((sumG ts ws 2).2 ≤ 1000000000)) = true
      rw [e2]; exact ok s01.2.1 s01.2.2
    · refine ⟨?_, by rw [e2]; exact s01.1⟩
      show (decide ((sumG ts ws 3).1 ≤ 1000000000) && decide ((sumG ts ws 3).2 ≤ 1000000000)) = true
      rw [e3]; exact ok s3.2.1 s3.2.2
  · rw [e3, List.append_assoc]
    exact highOf_perm hp hs3

end Go.Proofs.YtfjbkblodgdcnaaDoor
