/- Contract of the reference's RaiseAll. Nothing that was there is written. -/
import Derived.Test.YtgfnlfjaekkdfaaDoorRs
namespace Go.Proofs.YtgfnlfjaekkdfaaDoor
open Go.RowKit
set_option linter.unusedVariables false

theorem ticks_iff {d : Int} : ticksB d = true ↔ -20 ≤ d ∧ d ≤ 20 := by unfold ticksB; rw [Bool.and_eq_true, decide_eq_true_iff, decide_eq_true_iff]
theorem Own.setOff {w : World} {B M : Nat} {v : Value} {ts : List Tk} (h : Own w B v ts) (hv : ∀ k, v.ownBlock = some k → k < M) {a : Addr} (ha : M ≤ a.block) (u : Value) : Own (w.setCell a u) B v ts := by
  refine ⟨h.1, ?_⟩
  rcases h.2 with hn | ⟨g, cap, cur, e, hb, hg, rest⟩
  · exact .inl hn
  · refine .inr ⟨g, cap, cur, e, hb, (Below.heap_setCell w a u g (fun e2 => ?_)).trans hg, rest⟩
    have := hv g (by rw [e]; rfl)
    omega

end Go.Proofs.YtgfnlfjaekkdfaaDoor
