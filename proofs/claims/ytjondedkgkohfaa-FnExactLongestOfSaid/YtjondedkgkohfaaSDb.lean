/- Contracts of what the reference draws over tasks, jobs and a job; nothing that was there is written. -/
import Derived.Test.YtjondedkgkohfaaSDa
namespace Go.Proofs.Ytjondedkgkohfaa
open Go.RowKit
set_option linter.unusedVariables false

theorem Own.setb {w : World} {B : Nat} {v : Value} {ts : List Tk} (h : Own w B v ts) {a : Addr} (ha : a.block < B) (u : Value) : Own (w.setCell a u) B v ts := ownsRow_setCell_below h ha u
theorem OwnJ.setb {w : World} {B : Nat} {v : Value} {ts : List Jb} (h : OwnJ w B v ts) {a : Addr} (ha : a.block < B) (u : Value) : OwnJ (w.setCell a u) B v ts := ownsRow_setCell_below h ha u
def DrewLJJ (w : World) (e : Ending) (w' : World) : Prop :=
  ∃ (A : Option Addr) (c : Nat) (ts : List Tk) (g2 c2 : Nat) (js : List Jb) (j : Jb), e = .returned (.tuple #[.slice A ts.length c, .slice (some ⟨g2, 0, none⟩) js.length c2, j.val]) ∧ ts.length ≤ 5 ∧ (∀ t ∈ ts, smallTk t) ∧ js.length ≤ 61 ∧ (∀ j ∈ js, smallJ j) ∧ smallJ j ∧ Own w' w.heap.size (.slice A ts.length c) ts ∧ OwnJ w' w.heap.size (.slice (some ⟨g2, 0, none⟩) js.length c2) js ∧ Below w.heap.size w w'
def DrewLJ1 (w : World) (e : Ending) (w' : World) : Prop :=
  ∃ (A : Option Addr) (c : Nat) (ts : List Tk) (j : Jb), e = .returned (.tuple #[.slice A ts.length c, j.val]) ∧ ts.length ≤ 5 ∧ (∀ t ∈ ts, smallTk t) ∧ smallJ j ∧ Own w' w.heap.size (.slice A ts.length c) ts ∧ Below w.heap.size w w'

end Go.Proofs.Ytjondedkgkohfaa
