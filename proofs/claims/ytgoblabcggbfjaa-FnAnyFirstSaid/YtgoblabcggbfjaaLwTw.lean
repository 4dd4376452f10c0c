/- The walk of the law FnOrderTwice. -/
import Derived.Test.YtgoblabcggbfjaaLwPm
import Derived.Test.YtgoblabcggbfjaaMB
import Derived.Test.YtgoblabcggbfjaaMC
namespace Go.Proofs.Ytgoblabcggbfjaa
open Go.RowKit
set_option linter.unusedVariables false

theorem ownsRow_pos {W : World} {base : Nat} {e : TypeId} {size : Nat} {v : Value} {k : Nat} {xs : List Value} (h : W.ownsRow base e size v k xs) (hk : 0 < k) : ∃ g cap, v = .slice (some ⟨g, 0, none⟩) k cap := by
  rcases h.2 with ⟨_, h0⟩ | ⟨g, cap, _, rfl, _⟩
  · omega
  · exact ⟨g, cap, rfl⟩
theorem twice_no {zs : List Int} {n : Nat} {z : Int} (h : zs[1]? = some z) : ordB (zs.set 0 z) n = false := by
  cases hx : ordB (zs.set 0 z) n
  · rfl
  · have hn := (ordB_iff.1 hx).2.2
    cases zs with
    | nil => simp at h
    | cons a zs =>
      cases zs with
      | nil => simp at h
      | cons b zs =>
        simp at h
        subst h
        simp at hn
theorem part_no {zs : List Int} {n : Nat} (h : ordB zs n = true) (h2 : 2 ≤ zs.length) : ordB (zs.drop 1) n = false := by
  cases hx : ordB (zs.drop 1) n
  · rfl
  · have h1 := (ordB_iff.1 hx).1
    have h3 := (ordB_iff.1 h).1
    rw [List.length_drop] at h1
    omega

end Go.Proofs.Ytgoblabcggbfjaa
