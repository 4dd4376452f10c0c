/- Two cells of a block behind two stores into another block; parts of lists. -/
import Derived.Test.YtbaecbibkmdbiaaDoorTwo
namespace Go.Proofs.YtbaecbibkmdbiaaDoor
open Go.RowKit
theorem two_set1 {w : World} {a c : Nat} {x y : Value} (h : w.cell? ⟨a, 0, none⟩ = some x ∧ w.cell? ⟨a, 1, none⟩ = some y) (hc : a ≠ c) (u v : Value) :
    ((w.setCell ⟨c, 0, none⟩ u).setCell ⟨c, 1, none⟩ v).cell? ⟨a, 0, none⟩ = some x ∧ ((w.setCell ⟨c, 0, none⟩ u).setCell ⟨c, 1, none⟩ v).cell? ⟨a, 1, none⟩ = some y := by
  have k : ∀ (X : World) (i j : Nat) (z : Value), (X.setCell ⟨c, j, none⟩ z).cell? ⟨a, i, none⟩ = X.cell? ⟨a, i, none⟩ := fun X i j z =>
    World.cell?_setCell_other X _ _ _ (fun e => by injection e with e1; exact hc e1.symm)
  exact ⟨(k _ _ _ _).trans ((k _ _ _ _).trans h.1), (k _ _ _ _).trans ((k _ _ _ _).trans h.2)⟩
theorem two_set2 {w : World} {a b c : Nat} {x y s t : Value} (h : (w.cell? ⟨a, 0, none⟩ = some x ∧ w.cell? ⟨a, 1, none⟩ = some y) ∧ (w.cell? ⟨b, 0, none⟩ = some s ∧ w.cell? ⟨b, 1, none⟩ = some t)) (ha : a ≠ c) (hb : b ≠ c) (u v : Value) :
    (((w.setCell ⟨c, 0, none⟩ u).setCell ⟨c, 1, none⟩ v).cell? ⟨a, 0, none⟩ = some x ∧ ((w.setCell ⟨c, 0, none⟩ u).setCell ⟨c, 1, none⟩ v).cell? ⟨a, 1, none⟩ = some y) ∧ (((w.setCell ⟨c, 0, none⟩ u).setCell ⟨c, 1, none⟩ v).cell? ⟨b, 0, none⟩ = some s ∧ ((w.setCell ⟨c, 0, none⟩ u).setCell ⟨c, 1, none⟩ v).cell? ⟨b, 1, none⟩ = some t) :=
  ⟨two_set1 h.1 ha u v, two_set1 h.2 hb u v⟩

end Go.Proofs.YtbaecbibkmdbiaaDoor
