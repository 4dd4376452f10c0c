/- Two cells of a block. -/
import Derived.Test.YtbaecbibkmdbiacDoorAdd
namespace Go.Proofs.YtbaecbibkmdbiacDoor
open Go.RowKit
theorem Blk.two {w : World} {a : Nat} {t : TypeId} {x y : Value} (h : Blk w a t #[x, y]) : w.cell? ⟨a, 0, none⟩ = some x ∧ w.cell? ⟨a, 1, none⟩ = some y := ⟨h.cell 0, h.cell 1⟩
theorem two_alloc1 {w : World} {a : Nat} {x y : Value} (h : w.cell? ⟨a, 0, none⟩ = some x ∧ w.cell? ⟨a, 1, none⟩ = some y) (o : Obj) : (w.alloc o).cell? ⟨a, 0, none⟩ = some x ∧ (w.alloc o).cell? ⟨a, 1, none⟩ = some y :=
  ⟨(World.cell?_alloc_lt w o _ (World.block_lt_of_cell? w _ h.1)).trans h.1, (World.cell?_alloc_lt w o _ (World.block_lt_of_cell? w _ h.2)).trans h.2⟩
theorem two_alloc2 {w : World} {a b : Nat} {x y u v : Value} (h : (w.cell? ⟨a, 0, none⟩ = some x ∧ w.cell? ⟨a, 1, none⟩ = some y) ∧ (w.cell? ⟨b, 0, none⟩ = some u ∧ w.cell? ⟨b, 1, none⟩ = some v)) (o : Obj) :
    ((w.alloc o).cell? ⟨a, 0, none⟩ = some x ∧ (w.alloc o).cell? ⟨a, 1, none⟩ = some y) ∧ ((w.alloc o).cell? ⟨b, 0, none⟩ = some u ∧ (w.alloc o).cell? ⟨b, 1, none⟩ = some v) := ⟨two_alloc1 h.1 o, two_alloc1 h.2 o⟩
end Go.Proofs.YtbaecbibkmdbiacDoor
