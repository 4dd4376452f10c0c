/- Contract of the reference's NeedOf. Nothing that was there is written. -/
import Derived.Test.YtjondedkgkohfaaSJa
import Derived.Test.YtjondedkgkohfaaJbB
import Derived.LoopTactic
namespace Go.Proofs.Ytjondedkgkohfaa
open Go.RowKit
set_option linter.unusedVariables false

theorem wrs_no {js : List Jb} {k : Nat} {j : Jb} (h : js[k]? = some j) (hw : wrB j = false) : wrsB js = false := by
  cases hx : wrsB js
  · rfl
  · rw [(wrsB_iff.1 hx).2 j (List.mem_of_getElem? h)] at hw; cases hw
theorem sumJ_take {js : List Jb} {k : Nat} {j : Jb} (z : Int) (h : js[k]? = some j) : sumJ z (js.take (k + 1)) = sumJ z (js.take k) + if j.ta = z then j.ne else 0 := by
  rw [List.take_add_one, h, Option.toList_some, sumJ_app, sumJ_one]
theorem sumJ_bound {js : List Jb} {z : Int} (h : ∀ j ∈ js, wrB j = true) : 0 ≤ sumJ z js ∧ sumJ z js ≤ 20 * js.length := by
  induction js with
  | nil => exact ⟨Int.le_refl _, Int.le_refl _⟩
  | cons j js ih =>
    have ih := ih fun k hk => h k (by simp [hk])
    have := wrB_iff.1 (h j (by simp))
    rw [sumJ_cons, List.length_cons]
    split <;> omega
end Go.Proofs.Ytjondedkgkohfaa
