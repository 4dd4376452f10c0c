/- Draws of the arguments of chapter 5's functions. -/
import Derived.Test.YtgoblabcggbfjaaMA
namespace Go.Proofs.Ytgoblabcggbfjaa
open Go.RowKit

theorem set_due (ts : List Tk) : ∀ (k : Nat) (t : Tk) (z : Int), ts[k]? = some t →
    (ts.flatMap Tk.cells).set (k * 5 + 2) (.int .i64 z) = (ts.set k { t with du := z }).flatMap Tk.cells := by
  induction ts with
  | nil => intro k t z h; simp at h
  | cons a ts ih =>
    intro k t z h
    cases k with
    | zero =>
      simp at h
      subst h
      simp [List.flatMap_cons, Tk.cells]
    | succ k =>
      have e0 : (k + 1) * 5 + 2 = k * 5 + 2 + 5 := by omega
      simp only [List.flatMap_cons, Tk.cells, List.set_cons_succ, e0, List.cons_append, List.nil_append]
      rw [← ih k t z (by simpa using h)]
theorem Own.due {w : World} {B h n c : Nat} {ts : List Tk} (ho : Own w B (.slice (some ⟨h, 0, none⟩) n c) ts) (k : Nat) (t : Tk) (z : Int) (ht : ts[k]? = some t) :
    Own (w.setCell ⟨h, k * 5 + 2, none⟩ (.int .i64 z)) B (.slice (some ⟨h, 0, none⟩) n c) (ts.set k { t with du := z }) := by
  have hn := ho.reads.1
  subst hn
  have h5 := (World.ownsRow.stored ho (k * 5 + 2) (.int .i64 z)).1
  unfold Own
  rw [List.length_set, ← set_due ts k t z ht]
  exact h5

theorem drewL5 {w w1 w2 : World} {v : Value} {ts : List Tk} (h1 : Below w.heap.size w w1) (h2 : w1.grownBy w2 (some w.heap.size)) (ho : Own w2 w1.heap.size v ts) (hl : ts.length ≤ 6) : DrewL1 6 w (.returned v) w2 := by
  obtain ⟨A, c, rfl⟩ := ho.form
  exact ⟨A, c, ts, rfl, hl, own_more ho h1.size, below_of_gb h1 h2 h1.size (Nat.le_refl _)⟩

end Go.Proofs.Ytgoblabcggbfjaa
