/- Contracts of what the reference draws over tasks and jobs; nothing that was there is written. -/
import Derived.Test.YtjondedkgkohfaaSDc
namespace Go.Proofs.Ytjondedkgkohfaa
open Go.RowKit
set_option linter.unusedVariables false

theorem Code.bel {w w' : World} {A : Option Addr} {n c : Nat} {f : Nat → Int} (h : Code w w.heap.size A n c f) (hb : Below w.heap.size w w') : Code w' w'.heap.size A n c f :=
  ⟨h.le, h.max, fun i hi => by
    obtain ⟨b, o, e, hlt, hc⟩ := h.at_ i hi
    refine ⟨b, o, e, Nat.lt_of_lt_of_le hlt hb.size, ?_⟩
    have e2 := hb.block b hlt
    rw [← hc]
    simp only [World.cell?, e2], h.byte⟩
theorem OwnJ.kept_row {w w' : World} {B : Nat} {v : Value} {ts : List Jb} {row : Option Nat} (h : OwnJ w B v ts) (hg : w.grownBy w' row) (hr : ∀ k, v.ownBlock = some k → row = some k → False) : OwnJ w' B v ts := by
  refine World.ownsRow.kept h hg ?_
  rcases he : v.ownBlock with _ | k
  · exact .inl rfl
  · right
    intro e
    exact hr k he e.symm
def DrewJ1 (w : World) (e : Ending) (w' : World) : Prop :=
  ∃ (g2 c2 : Nat) (js : List Jb), e = .returned (.slice (some ⟨g2, 0, none⟩) js.length c2) ∧ js.length ≤ 61 ∧ (∀ j ∈ js, smallJ j) ∧ OwnJ w' w.heap.size (.slice (some ⟨g2, 0, none⟩) js.length c2) js ∧ Below w.heap.size w w'
def DrewJI (w : World) (e : Ending) (w' : World) : Prop :=
  ∃ (g2 c2 : Nat) (js : List Jb) (z : Int), e = .returned (.tuple #[.slice (some ⟨g2, 0, none⟩) js.length c2, .int .i64 z]) ∧ js.length ≤ 61 ∧ (∀ j ∈ js, smallJ j) ∧ 0 ≤ z ∧ z ≤ 5 ∧ OwnJ w' w.heap.size (.slice (some ⟨g2, 0, none⟩) js.length c2) js ∧ Below w.heap.size w w'

end Go.Proofs.Ytjondedkgkohfaa
