/- The draw of RaiseAll's arguments. -/
import Derived.Test.YtfjbkblodgdcnaaDoorNA
namespace Go.Proofs.YtfjbkblodgdcnaaDoor
open Go.RowKit

def DrewLR (m : Nat) (w : World) (e : Ending) (w' : World) : Prop :=
  ∃ (A : Option Addr) (c : Nat) (ts : List Tk) (z : Int), e = .returned (.tuple #[.slice A ts.length c, .int .i64 z]) ∧ ts.length ≤ m ∧ -1 ≤ z ∧ z ≤ 21 ∧ Own w' w.heap.size (.slice A ts.length c) ts ∧ Below w.heap.size w w'

set_option maxRecDepth 100000 in
set_option maxHeartbeats 1000000 in
theorem dDrawRaiseAll_any (w : World) (A : Option Addr) (n c : Nat) (f : Nat → Int) (h : Code w w.heap.size A n c f) :
    Calls Tryd.prog 25 #[.slice A n c] w (DrewLR 6 w) := by
  have H := Lib.hid h
  clear h
  go_enter Tryd.func25, Tryd.ntmps25
  go_wp2_with fail
  refine (open_any _ A n c f H.out).mono ?_
  rintro e w1 ⟨rfl, m, hr, hb⟩
  have hgl := hr.lt
  have HR := Lib.hid hr
  have HB := Lib.hid hb
  clear hr hb
  go_wp2_with fail
  refine (some_any _ _ _ _ _ _ _ _ HR.out (by omega)).mono ?_
  rintro e w2 ⟨v, ts, p, rfl, hl, hg, hp, hr, hgb, ho⟩
  obtain ⟨A2, c2, rfl⟩ := ho.form
  have hlt2 := hr.lt
  have HR2 := Lib.hid hr
  have HB2 := Lib.hid (below_of_gb HB.out hgb HB.out.size (Nat.le_refl _))
  have HO2 := Lib.hid ho
  clear hr hgb ho hg
  go_wp2_with fail
  refine (num_any _ _ _ _ _ _ _ p _ 5 (-1) 21 (HR2.out.alloc _) (by omega) (by omega) (by omega) (by omega) ?_).mono ?_
  · exact lit_cells_at _ _ _ _ _ _ (by simp) (fun i hi => by rcases (by omega : i = 0 ∨ i = 1 ∨ i = 2 ∨ i = 3 ∨ i = 4) with rfl | rfl | rfl | rfl | rfl <;> exact ⟨_, rfl, by decide, by decide⟩)
  rintro e w3 ⟨z, rfl, z0, z1, hr3, hg3⟩
  have hgw3 : w2.grownBy w3 (some w.heap.size) := gb_trans (gb_alloc (World.grownBy.refl w2 _) _) hg3 (fun x e => .inl (by injection e with e; exact e.symm))
  have HB3 := Lib.hid (below_of_gb HB2.out hgw3 HB2.out.size (Nat.le_refl _))
  have HO3 := Lib.hid (HO2.out.kept hgw3 (fun k e => by injection e with e; omega))
  have HX : Hid (DrewLR 6 w (.returned (.tuple #[.slice A2 ts.length c2, .int .i64 z])) w3) := ⟨A2, c2, ts, z, rfl, hl, z0, z1, own_more HO3.out HB.out.size, HB3.out⟩
  clear hr3 hg3 hgw3 z0 z1 HB3 HO3
  go_wp2_with fail
  go_ret2
  exact HX.out
end Go.Proofs.YtfjbkblodgdcnaaDoor
