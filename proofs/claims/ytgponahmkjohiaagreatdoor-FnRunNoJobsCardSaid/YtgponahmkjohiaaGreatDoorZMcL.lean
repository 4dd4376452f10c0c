import Derived.Test.YtgponahmkjohiaaGreatDoorZMcJ
import Derived.Test.YtgponahmkjohiaaGreatDoorZND
import Derived.Test.YtgponahmkjohiaaGreatDoorZNG
namespace Go.Proofs.YtgponahmkjohiaaGreatDoor
open Go.RowKit
set_option linter.unusedVariables false
section
variable {ts : List Tk} {js : List Jb} {p : Po}
theorem en_len (hv : jobsB ts js = true) (n : Nat) : (runM ts js p n).en.length = js.length := (run_at (p := p) hv n).1.enl
theorem ranZ_cnt (z : Int) : ∀ tr : List Int, ((ranZ z tr : Nat) : Int) = cntT z tr := by
  intro tr
  have key : ∀ (l : List Int) (a : Int), l.foldl (fun n x => if x = z then n + 1 else n) a = a + ((ranZ z l : Nat) : Int) := by
    intro l
    induction l with
    | nil => intro a; simp [ranZ]
    | cons x l ih =>
      intro a
      rw [List.foldl_cons, ih]
      unfold ranZ
      rw [List.filter_cons]
      by_cases h : x = z
      · rw [if_pos h, if_pos (by simpa using h), List.length_cons]; omega
      · rw [if_neg h, if_neg (by simpa using h)]
  unfold cntT
  rw [key tr 0]
  omega
end
end Go.Proofs.YtgponahmkjohiaaGreatDoor
