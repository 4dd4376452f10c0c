import Derived.Lib.AppendZerosOnto
import Derived.Test.YtgponahmkjohiabGreatDoorT2NH
namespace Go.Proofs.YtgponahmkjohiabGreatDoor
open Go.RowKit
set_option linter.unusedVariables false
theorem jown_block {w : World} {B g n N : Nat} {ts : List Jb} (h : OwnJ w B (.slice (some ⟨g, 0, none⟩) n N) ts) :
    n = ts.length ∧ B ≤ g ∧ ∃ cur, w.heap[g]? = some (.cells cur 46 (0, 0)) ∧ n ≤ N ∧ N ≤ maxLen ∧ cur.size = N * 3 ∧ cur.toList.take (n * 3) = ts.flatMap Jb.cells := by
  have hn := h.reads.1
  rcases h.2 with ⟨e, h0⟩ | ⟨g', cap, cur, e, hb, hg, h1, h2, h3, h4⟩
  · cases e
  · injection e with e1 e2 e3
    injection e1 with e1
    injection e1 with e1
    subst e1 e3
    exact ⟨hn, hb, cur, hg, by omega, h2, h3, by rw [hn]; exact h4⟩
theorem OwnJ.drew {w : World} {B : Nat} {v : Value} {js : List Jb} (h : OwnJ w B v js) : OwnJ w.drew B v js := h.below (Below.drew (Below.refl _ _))
theorem OwnJ.drewN {w : World} {B : Nat} {v : Value} {js : List Jb} (h : OwnJ w B v js) (k : Nat) : OwnJ (w.drewN k) B v js := h.below (bl_drewN (Below.refl _ _) k)
theorem OwnJ.len_ {w : World} {B n c : Nat} {A : Option Addr} {js : List Jb} (h : OwnJ w B (.slice A n c) js) : n = js.length := h.reads.1
end Go.Proofs.YtgponahmkjohiabGreatDoor
