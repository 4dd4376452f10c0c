/- Literal slices of numbers in memory. -/
import Derived.Test.YtjondedkgkohfaaNum
namespace Go.Proofs.Ytjondedkgkohfaa
open Go.RowKit

theorem lit_cells (w : World) (cs : Array Value) (k : Nat) (a b : Int) (h : ∀ i, i < k → ∃ v, cs[i]? = some (.int .i64 v) ∧ a ≤ v ∧ v ≤ b) :
    ∀ i, i < k → ∃ v, (w.alloc (.cells cs 3)).cell? ⟨w.heap.size, i, none⟩ = some (.int .i64 v) ∧ a ≤ v ∧ v ≤ b := fun i hi => by
  obtain ⟨v, hv, h1⟩ := h i hi
  exact ⟨v, by rw [(Blk.new w 3 cs).cell i]; exact hv, h1⟩

theorem lit_cells_at (w : World) (cs : Array Value) (g k : Nat) (a b : Int) (hg : g = w.heap.size) (h : ∀ i, i < k → ∃ v, cs[i]? = some (.int .i64 v) ∧ a ≤ v ∧ v ≤ b) :
    ∀ i, i < k → ∃ v, (w.alloc (.cells cs 3)).cell? ⟨g, i, none⟩ = some (.int .i64 v) ∧ a ≤ v ∧ v ≤ b := by
  subst hg; exact lit_cells w cs k a b h

end Go.Proofs.Ytjondedkgkohfaa
