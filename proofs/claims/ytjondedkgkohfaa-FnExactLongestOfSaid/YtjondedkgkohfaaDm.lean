/- dmJobs at equal lists, and what the walks of chapter 6's laws share. -/
import Derived.Test.YtjondedkgkohfaaJb
import Derived.Test.YtjondedkgkohfaaSDc
import Derived.Test.YtjondedkgkohfaaSDw
import Derived.Test.YtjondedkgkohfaaZm
import Derived.LoopTactic
namespace Go.Proofs.Ytjondedkgkohfaa
open Go.RowKit
set_option linter.unusedVariables false

theorem tks_to6 {w1 W : World} {A : Option Addr} {n : Nat} {ts : List Tk} (h : Tks w1 w1.heap.size A n ts) (hb : Below w1.heap.size w1 W) : Tks W W.heap.size A n ts := (h.below hb).more hb.size
theorem jbs_to {w1 W : World} {A : Option Addr} {n : Nat} {js : List Jb} (h : Jbs w1 w1.heap.size A n js) (hb : Below w1.heap.size w1 W) : Jbs W W.heap.size A n js := (h.below hb).more hb.size
theorem zs_to {w1 W : World} {A : Option Addr} {n : Nat} {zs : List Int} (h : Zs w1 w1.heap.size A n zs) (hb : Below w1.heap.size w1 W) : Zs W W.heap.size A n zs := (h.below hb).more hb.size
theorem ownJ_get {w : World} {B c g n : Nat} {js : List Jb} (h : OwnJ w B (.slice (some ⟨g, 0, none⟩) n c) js) {k : Nat} {j : Jb} (hj : js[k]? = some j) :
    B ≤ g ∧ g < w.heap.size ∧ w.cell? ⟨g, k * 3, none⟩ = some (.int .i64 j.ta) ∧ w.cell? ⟨g, k * 3 + 1, none⟩ = some (.int .i64 j.tm) ∧ w.cell? ⟨g, k * 3 + 2, none⟩ = some (.int .i64 j.ne) := by
  obtain ⟨h1, h2⟩ := World.ownsRow.lt h g rfl
  obtain ⟨_, c0, c1, c2⟩ := h.reads.2.get hj
  simp only [Nat.zero_add] at c0 c1 c2
  exact ⟨h1, h2, c0, c1, c2⟩

end Go.Proofs.Ytjondedkgkohfaa
