/- A job of a list of the call's own is written. -/
import Derived.Test.YtjondedkgkohfaaQHa
import Derived.Test.YtjondedkgkohfaaSPu
import Derived.Test.YtjondedkgkohfaaJbH
import Derived.Test.YtjondedkgkohfaaQIns
namespace Go.Proofs.Ytjondedkgkohfaa
open Go.RowKit
set_option linter.unusedVariables false

theorem OwnJ.setFar {w : World} {B : Nat} {v : Value} {ts : List Jb} (h : OwnJ w B v ts) {a : Addr} (ha : a.block < B) (u : Value) : OwnJ (w.setCell a u) B v ts :=
  ⟨h.1, by
    rcases h.2 with h2 | ⟨g, cap, cur, e, hb, hg, rest⟩
    · exact .inl h2
    · exact .inr ⟨g, cap, cur, e, hb, (Below.heap_setCell w a u g (by omega)).trans hg, rest⟩⟩
theorem jset3 : ∀ (ts : List Jb) (k : Nat) (j : Jb), k < ts.length → (((ts.flatMap Jb.cells).set (k * 3) (.int .i64 j.ta)).set (k * 3 + 1) (.int .i64 j.tm)).set (k * 3 + 2) (.int .i64 j.ne) = (ts.set k j).flatMap Jb.cells
  | [], k, j, h => by simp at h
  | t :: ts, 0, j, h => by simp [Jb.cells]
  | t :: ts, k + 1, j, h => by
    have ih := jset3 ts k j (by simpa using h)
    rw [List.set_cons_succ, List.flatMap_cons, List.flatMap_cons, ← ih]
    have e0 : (k + 1) * 3 = t.cells.length + k * 3 := by simp [Jb.cells]; omega
    rw [e0]
    simp only [Nat.add_assoc]
    rw [List.set_append_right _ _ (by omega), List.set_append_right _ _ (by omega), List.set_append_right _ _ (by omega)]
    simp
theorem OwnJ.put3 {w : World} {B g n c : Nat} {js : List Jb} (ho : OwnJ w B (.slice (some ⟨g, 0, none⟩) n c) js) (k : Nat) (j : Jb) (hk : k < js.length) :
    OwnJ (put3 w ⟨g, k * 3, none⟩ j.ta j.tm j.ne) B (.slice (some ⟨g, 0, none⟩) n c) (js.set k j) := by
  have hn := ho.reads.1
  subst hn
  have h1 := (World.ownsRow.stored ho (k * 3) (.int .i64 j.ta)).1
  have h2 := (World.ownsRow.stored h1 (k * 3 + 1) (.int .i64 j.tm)).1
  have h3 := (World.ownsRow.stored h2 (k * 3 + 2) (.int .i64 j.ne)).1
  rw [jset3 js k j hk] at h3
  unfold OwnJ
  rw [List.length_set]
  unfold Go.Proofs.Ytjondedkgkohfaa.put3
  simpa [addr_add3] using h3
theorem gb_put3 (w : World) (g o : Nat) (x y z : Int) : w.grownBy (put3 w ⟨g, o, none⟩ x y z) (some g) :=
  ⟨rfl, rfl, rfl, by simp [put3, World.setCell], fun k _ hne => by
    have hk : ∀ (W : World) (o : Nat) (u : Value), (W.setCell ⟨g, o, none⟩ u).heap[k]? = W.heap[k]? := fun W o u => Below.heap_setCell W ⟨g, o, none⟩ u k (fun e => hne (by rw [e]))
    unfold put3
    rw [hk, hk, hk]⟩

end Go.Proofs.Ytjondedkgkohfaa
