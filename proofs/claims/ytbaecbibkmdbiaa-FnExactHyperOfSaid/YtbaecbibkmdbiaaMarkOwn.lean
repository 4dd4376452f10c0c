/- Contract of the marks that the exact laws write into a result: into its own memory, and nothing beside. -/
import Derived.Test.YtbaecbibkmdbiaaExMark
import Derived.Test.YtbaecbibkmdbiaaOwn
import Derived.LoopTactic
namespace Go.Proofs.Ytbaecbibkmdbiaa
open Go.RowKit

theorem Own.kept_down {w w' : World} {B M : Nat} {v : Value} {ts : List Tk} {row : Option Nat} (h : Own w B v ts) (hg : w.grownBy w' row) (hv : ∀ k, v.ownBlock = some k → k < M) (hr : ∀ k, row = some k → M ≤ k) : Own w' B v ts := by
  refine World.ownsRow.kept h hg ?_
  rcases he : v.ownBlock with _ | k
  · exact .inl rfl
  · right
    intro e
    have := hv k he
    have := hr k e.symm
    omega

end Go.Proofs.Ytbaecbibkmdbiaa
