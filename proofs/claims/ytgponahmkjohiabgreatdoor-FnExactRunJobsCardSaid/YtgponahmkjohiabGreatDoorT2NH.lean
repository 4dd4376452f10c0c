import Derived.Maps.AppendAt
import Derived.Deep.RegionHeld3
import Derived.Test.YtgponahmkjohiabGreatDoorT2NE
namespace Go.Proofs.YtgponahmkjohiabGreatDoor
section
open Go.RowKit
set_option linter.unusedVariables false
theorem addr_add3 (b o j : Nat) : (⟨b, o, none⟩ : Addr).add j = ⟨b, o + j, none⟩ := by unfold Addr.add; split <;> simp_all
theorem OwnJ.some_ {w : World} {B : Nat} {v : Value} {js : List Jb} (h : OwnJ w B v js) (hn : 0 < js.length) : ∃ g c, v = .slice (some ⟨g, 0, none⟩) js.length c := by
  rcases h.2 with ⟨e, h0⟩ | ⟨g, cap, cur, e, _⟩
  · omega
  · exact ⟨g, cap, e⟩
end
section
open Go.RowKit
set_option linter.unusedVariables false
theorem gb_of_belowJ {a b : World} (h : Below a.heap.size a b) : a.grownBy b none := ⟨h.os, h.tape, h.output, h.size, fun k hk _ => h.block k hk⟩
theorem Rd.bel {w w' : World} {B g : Nat} {A : Option Addr} {n c : Nat} {f : Nat → Int} {p : Nat} (h : Rd w B g A n c f p) (hb : Below w.heap.size w w') : Rd w' B g A n c f p := h.grown (gb_of_belowJ hb) (fun k e => by cases e)
end
section
open Go.RowKit
set_option linter.unusedVariables false
theorem jset_cells (js : List Jb) : ∀ (k : Nat) (j : Jb) (z : Int), js[k]? = some j →
    (js.flatMap Jb.cells).set (k * 3 + 2) (.int .i64 z) = (js.set k ⟨j.ta, j.tm, z⟩).flatMap Jb.cells := by
  induction js with
  | nil => intro k j z h; simp at h
  | cons a js ih =>
    intro k j z h
    cases k with
    | zero => simp at h; subst h; simp [List.flatMap_cons, Jb.cells]
    | succ k =>
      have e0 : (k + 1) * 3 = k * 3 + 3 := by omega
      simp only [List.flatMap_cons, Jb.cells, List.set_cons_succ, e0, List.cons_append, List.nil_append, Nat.add_right_comm]
      rw [← ih k j z (by simpa using h)]
theorem OwnJ.put {w : World} {B h n c : Nat} {js : List Jb} (ho : OwnJ w B (.slice (some ⟨h, 0, none⟩) n c) js) (k : Nat) (j : Jb) (z : Int) (hk : js[k]? = some j) :
    OwnJ (w.setCell ⟨h, k * 3 + 2, none⟩ (.int .i64 z)) B (.slice (some ⟨h, 0, none⟩) n c) (js.set k ⟨j.ta, j.tm, z⟩) := by
  have hn := ho.reads.1
  subst hn
  have h1 := (World.ownsRow.stored ho (k * 3 + 2) (.int .i64 z)).1
  unfold OwnJ
  rw [List.length_set, ← jset_cells js k j z hk]
  exact h1
end
end Go.Proofs.YtgponahmkjohiabGreatDoor
