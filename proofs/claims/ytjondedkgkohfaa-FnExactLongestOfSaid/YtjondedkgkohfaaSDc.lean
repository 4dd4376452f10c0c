/- Contract of the reference's draw of tasks and jobs, sometimes ones that are not valid; nothing that was there is written. -/
import Derived.Test.YtjondedkgkohfaaSDj
namespace Go.Proofs.Ytjondedkgkohfaa
open Go.RowKit
set_option linter.unusedVariables false

/-- Tasks and jobs of the call's own. -/
def DrewLJ (w : World) (e : Ending) (w' : World) : Prop :=
  ∃ (A : Option Addr) (c : Nat) (ts : List Tk) (g2 c2 : Nat) (js : List Jb), e = .returned (.tuple #[.slice A ts.length c, .slice (some ⟨g2, 0, none⟩) js.length c2]) ∧ ts.length ≤ 5 ∧ (∀ t ∈ ts, smallTk t) ∧ js.length ≤ 61 ∧ (∀ j ∈ js, smallJ j) ∧ Own w' w.heap.size (.slice A ts.length c) ts ∧ OwnJ w' w.heap.size (.slice (some ⟨g2, 0, none⟩) js.length c2) js ∧ Below w.heap.size w w'
theorem OwnJ.cells_ {w : World} {B h n c : Nat} {js : List Jb} (ho : OwnJ w B (.slice (some ⟨h, 0, none⟩) n c) js) : B ≤ h ∧ h < w.heap.size := by
  rcases ho.2 with ⟨e, _⟩ | ⟨g, cap, cur, e, hb, hh, _⟩
  · cases e
  · injection e with e1 e2 e3
    injection e1 with e1
    injection e1 with e1
    subst e1
    exact ⟨hb, (Array.getElem?_eq_some_iff.1 hh).1⟩
theorem Own.kept_row {w w' : World} {B : Nat} {v : Value} {ts : List Tk} {row : Option Nat} (h : Own w B v ts) (hg : w.grownBy w' row) (hr : ∀ k, v.ownBlock = some k → row = some k → False) : Own w' B v ts := by
  refine World.ownsRow.kept h hg ?_
  rcases he : v.ownBlock with _ | k
  · exact .inl rfl
  · right
    intro e
    exact hr k he e.symm
theorem jset_cells (js : List Jb) : ∀ (k : Nat) (j : Jb) (z : Int), js[k]? = some j →
    (js.flatMap Jb.cells).set (k * 3 + 2) (.int .i64 z) = (js.set k ⟨j.ta, j.tm, z⟩).flatMap Jb.cells := by
  induction js with
  | nil => intro k j z h; simp at h
  | cons a js ih =>
    intro k j z h
    cases k with
    | zero => simp at h; subst h; simp [List.flatMap_cons, Jb.cells]
    | succ k =>
      have e0 : (k + 1) * 3 = k * 3 + 3 := by omega
      simp only [List.flatMap_cons, Jb.cells, List.set_cons_succ, e0, List.cons_append, List.nil_append, Nat.add_right_comm]
      rw [← ih k j z (by simpa using h)]
theorem OwnJ.put {w : World} {B h n c : Nat} {js : List Jb} (ho : OwnJ w B (.slice (some ⟨h, 0, none⟩) n c) js) (k : Nat) (j : Jb) (z : Int) (hk : js[k]? = some j) :
    OwnJ (w.setCell ⟨h, k * 3 + 2, none⟩ (.int .i64 z)) B (.slice (some ⟨h, 0, none⟩) n c) (js.set k ⟨j.ta, j.tm, z⟩) := by
  have hn := ho.reads.1
  subst hn
  have h1 := (World.ownsRow.stored ho (k * 3 + 2) (.int .i64 z)).1
  unfold OwnJ
  rw [List.length_set, ← jset_cells js k j z hk]
  exact h1
end Go.Proofs.Ytjondedkgkohfaa
