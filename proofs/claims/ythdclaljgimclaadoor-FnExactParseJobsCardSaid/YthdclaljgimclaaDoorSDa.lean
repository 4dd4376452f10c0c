/- Contracts of what the reference draws over tasks and jobs; nothing that was there is written. -/
import Derived.Test.YthdclaljgimclaaDoorSDc
namespace Go.Proofs.YthdclaljgimclaaDoor
open Go.RowKit
set_option linter.unusedVariables false

theorem Code.bel {w w' : World} {A : Option Addr} {n c : Nat} {f : Nat → Int} (h : Code w w.heap.size A n c f) (hb : Below w.heap.size w w') : Code w' w'.heap.size A n c f :=
  ⟨h.le, h.max, fun i hi => by
    obtain ⟨b, o, e, hlt, hc⟩ := h.at_ i hi
    refine ⟨b, o, e, Nat.lt_of_lt_of_le hlt hb.size, ?_⟩
    have e2 := hb.block b hlt
    rw [← hc]
    simp only [World.cell?, e2], h.byte⟩
theorem OwnJ.kept_row {w w' : World} {B : Nat} {v : Value} {ts : List Jb} {row : Option Nat} (h : OwnJ w B v ts) (hg : w.grownBy w' row) (hr : ∀ k, v.ownBlock = some k → row = some k → False) : OwnJ w' B v ts := by
  refine World.ownsRow.kept h hg ?_
  rcases he : v.ownBlock with _ | k
  · exact .inl rfl
  · right
    intro e
    exact hr k he e.symm
def DrewJ1 (w : World) (e : Ending) (w' : World) : Prop :=
  ∃ (g2 c2 : Nat) (js : List Jb), e = .returned (.slice (some ⟨g2, 0, none⟩) js.length c2) ∧ js.length ≤ 61 ∧ (∀ j ∈ js, smallJ j) ∧ OwnJ w' w.heap.size (.slice (some ⟨g2, 0, none⟩) js.length c2) js ∧ Below w.heap.size w w'
def DrewJI (w : World) (e : Ending) (w' : World) : Prop :=
  ∃ (g2 c2 : Nat) (js : List Jb) (z : Int), e = .returned (.tuple #[.slice (some ⟨g2, 0, none⟩) js.length c2, .int .i64 z]) ∧ js.length ≤ 61 ∧ (∀ j ∈ js, smallJ j) ∧ 0 ≤ z ∧ z ≤ 5 ∧ OwnJ w' w.heap.size (.slice (some ⟨g2, 0, none⟩) js.length c2) js ∧ Below w.heap.size w w'

set_option maxRecDepth 100000 in
set_option maxHeartbeats 2000000 in
theorem dDrawFormatJobs_any (w : World) (A : Option Addr) (n c : Nat) (f : Nat → Int) (h : Code w w.heap.size A n c f) :
    Calls Tryd.prog 10 #[.slice A n c] w (DrewJ1 w) := by
  have H := Lib.hid h
  clear h
  go_enter Tryd.func10, Tryd.ntmps10
  go_wp2_with fail
  refine (l6Case_any _ A n c f H.out).mono ?_
  rintro e w1 ⟨A2, c2, ts, g2, c3, js, rfl, hl, hs, hjl, hsj, ho, hj, hb⟩
  have HX : Hid (DrewJ1 w (.returned (.slice (some ⟨g2, 0, none⟩) js.length c3)) w1) := ⟨g2, c3, js, rfl, hjl, hsj, hj, hb⟩
  clear hl hs hjl hsj ho hj hb
  go_wp2_with fail
  go_ret
  exact HX.out

set_option maxRecDepth 100000 in
set_option maxHeartbeats 2000000 in
theorem dDrawNeedOf_any (w : World) (A : Option Addr) (n c : Nat) (f : Nat → Int) (h : Code w w.heap.size A n c f) :
    Calls Tryd.prog 17 #[.slice A n c] w (DrewJI w) := by
  have H := Lib.hid h
  clear h
  go_enter Tryd.func17, Tryd.ntmps17
  go_wp2_with fail
  refine (l6Case_any _ A n c f H.out).mono ?_
  rintro e w1 ⟨A2, c2, ts, g2, c3, js, rfl, hl, hs, hjl, hsj, ho, hj, hb⟩
  have HJ := Lib.hid hj
  have HB := Lib.hid hb
  have HSJ := Lib.hid hsj
  clear hl hs hsj ho hj hb
  go_wp2_with fail
  refine (open_any _ A n c f (H.out.bel HB.out)).mono ?_
  rintro e w2 ⟨rfl, m, hr, hb⟩
  have hlt2 := hr.lt
  have HR2 := Lib.hid hr
  have hs1 := HB.out.size
  have HB2 := Lib.hid (bl_trans HB.out hb)
  have HJ2 := Lib.hid (HJ.out.below hb)
  have hg2 := HJ.out.cells_
  clear hr hb
  go_wp2_with fail
  refine (num_any _ _ _ _ _ _ _ 0 _ 4 0 5 (HR2.out.alloc _) (by omega) (by omega) (by omega) (by omega) ?_).mono ?_
  · exact lit_cells_at _ _ _ _ _ _ (by simp) (fun i hi => by rcases (by omega : i = 0 ∨ i = 1 ∨ i = 2 ∨ i = 3) with rfl | rfl | rfl | rfl <;> exact ⟨_, rfl, by decide, by decide⟩)
  rintro e w3 ⟨z, rfl, z0, z1, hr3, hg3⟩
  have hgw3 : w2.grownBy w3 (some w1.heap.size) := gb_trans (gb_alloc (World.grownBy.refl w2 _) _) hg3 (fun x e => .inl (by injection e with e; exact e.symm))
  have HX : Hid (DrewJI w (.returned (.tuple #[.slice (some ⟨g2, 0, none⟩) js.length c3, .int .i64 z])) w3) := ⟨g2, c3, js, z, rfl, hjl, HSJ.out, z0, z1, HJ2.out.kept_row hgw3 (fun k e1 e2 => by have q1 : g2 = k := Option.some.inj e1; have q2 : w1.heap.size = k := Option.some.inj e2; omega), below_of_gb HB2.out hgw3 (by omega) (by omega)⟩
  clear hr3 hg3 hgw3
  go_wp2_with fail
  go_ret2
  exact HX.out
end Go.Proofs.YthdclaljgimclaaDoor
