import Derived.Test.YtgponahmkjohiabGreatDoorT2ND
import Derived.Test.YtgponahmkjohiabGreatDoorT2NB
namespace Go.Proofs.YtgponahmkjohiabGreatDoor
open Go.RowKit
set_option linter.unusedVariables false
def polX (ts : List Tk) (pol : Int) : Nat × Nat := if pol = 0 then (1, 1) else facV ts
def polB (ts : List Tk) (pol : Int) : Bool := if pol = 0 then true else facB ts && (pol == 1)
def poOf (ts : List Tk) (pol : Int) : Po := ⟨pol == 1, ((polX ts pol).1 : Int), ((polX ts pol).2 : Int)⟩
def okR (ts : List Tk) (js : List Jb) (pol tk : Int) : Bool := jobsB ts js && (polB ts pol && (decide (0 ≤ tk) && decide (tk ≤ 200)))
def noM : Mc := ⟨[], [], [], false, [], 0⟩
/-- What RunJobs answers. -/
def runR (ts : List Tk) (js : List Jb) (pol tk : Int) : Mc := if okR ts js pol tk then runM ts js (poOf ts pol) tk.toNat else noM
theorem okR_iff {ts : List Tk} {js : List Jb} {pol tk : Int} : okR ts js pol tk = true ↔ jobsB ts js = true ∧ polB ts pol = true ∧ 0 ≤ tk ∧ tk ≤ 200 := by
  unfold okR; simp
theorem runR_ok {ts : List Tk} {js : List Jb} {pol tk : Int} (h : okR ts js pol tk = true) : runR ts js pol tk = runM ts js (poOf ts pol) tk.toNat := by unfold runR; rw [if_pos h]
theorem runR_no {ts : List Tk} {js : List Jb} {pol tk : Int} (h : okR ts js pol tk = false) : runR ts js pol tk = noM := by unfold runR; rw [h]; rfl
theorem polX_le (ts : List Tk) (pol : Int) : (polX ts pol).1 ≤ 3200000 ∧ (polX ts pol).2 ≤ 3200000 := by
  unfold polX
  split
  · exact ⟨by decide, by decide⟩
  · cases h : facB ts
    · rw [facV_no h]; exact ⟨by decide, by decide⟩
    · have := facV_sh h
      omega
theorem pair_le : ∀ (l : List Int) (a m : Int), l.Pairwise (· < ·) → (∀ x ∈ l, a ≤ x ∧ x ≤ m) → a ≤ m + 1 → (l.length : Int) ≤ m + 1 - a := by
  intro l
  induction l with
  | nil => intro a m _ _ h; simp; omega
  | cons x l ih =>
    intro a m hp hm ham
    have hx := hm x (by simp)
    have h2 := ih (x + 1) m (List.pairwise_cons.1 hp).2 (fun y hy => ⟨(List.pairwise_cons.1 hp).1 y hy, (hm y (by simp [hy])).2⟩) (by omega)
    rw [List.length_cons]; omega
/-- Switches are no more than ticks. -/
theorem sw_len {ts : List Tk} {js : List Jb} {n : Int} {g : Nat → Int} {s : Mc} (h : InvM ts js n g s) (h0 : 0 ≤ n) : (s.sw.length : Int) ≤ n := by
  have := pair_le s.sw 1 n h.sws (fun x hx => h.swb x hx) (by omega)
  omega
end Go.Proofs.YtgponahmkjohiabGreatDoor
