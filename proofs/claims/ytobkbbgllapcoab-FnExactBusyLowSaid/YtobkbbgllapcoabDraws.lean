/- Contracts of what the reference draws as arguments that are lists of tasks; nothing that was there is written. -/
import Derived.Test.YtobkbbgllapcoabSome
namespace Go.Proofs.Ytobkbbgllapcoab
open Go.RowKit

theorem drewList {w w1 w2 : World} {v : Value} {ts : List Tk} (h1 : Below w.heap.size w w1) (h2 : w1.grownBy w2 (some w.heap.size)) (ho : Own w2 w1.heap.size v ts) (hl : ts.length ≤ 6) (hg : ∀ t ∈ ts, smallTk t) :
    DrewList 6 smallTk w (.returned v) w2 := by
  obtain ⟨A, c, rfl⟩ := ho.form
  refine ⟨A, c, ts, rfl, hl, hg, ?_, below_of_gb h1 h2 h1.size (Nat.le_refl _)⟩
  refine ⟨ho.1, ?_⟩
  rcases ho.2 with h | ⟨g, cap, cur, e, hb, rest⟩
  · exact .inl h
  · exact .inr ⟨g, cap, cur, e, Nat.le_trans h1.size hb, rest⟩

end Go.Proofs.Ytobkbbgllapcoab
