/- Contracts of ResponseHigh, in the program and in the reference. Nothing that was there is written. -/
import Derived.Test.YtncgchlnaobalabDoorSRLow
import Derived.Test.YtncgchlnaobalabDoorRespU
import Derived.Test.YtncgchlnaobalabDoorLawCrit
namespace Go.Proofs.YtncgchlnaobalabDoor
open Go.RowKit
set_option linter.unusedVariables false

theorem own_le {w : World} {B c : Nat} {A : Option Addr} {ts : List Tk} (h : Own w B (.slice A ts.length c) ts) : ts.length ≤ c := by
  rcases h.2 with ⟨e, h0⟩ | ⟨g, cap, cur, e, _, _, h1, h2, _⟩
  · omega
  · injection e with e1 e2 e3
    subst e3
    exact h1
theorem has_no {ts : List Tk} {n : Nat} {a : Int} (hl : ts.length = n) (h : (setB ts && (decide (0 ≤ a) && decide (a < (n : Int)))) = false) (f : Nat → Option Nat) (hb : ∀ k, setB ts = false → f k = none) (hp : ∀ k, ts[k]? = none → f k = none) : atI f a = none := by
  unfold atI
  split
  · rename_i h0
    cases hs : setB ts
    · exact hb _ hs
    · rw [hs, Bool.true_and, decide_eq_true h0, Bool.true_and] at h
      have h1 : ¬ a < (n : Int) := of_decide_eq_false h
      exact hp _ (List.getElem?_eq_none (by omega))
  · rfl

end Go.Proofs.YtncgchlnaobalabDoor
