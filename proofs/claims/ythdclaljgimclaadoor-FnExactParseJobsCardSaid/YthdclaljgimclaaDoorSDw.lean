/- Contract of what the reference draws as arguments of WorstJobs; nothing that was there is written. -/
import Derived.Test.YthdclaljgimclaaDoorSDj
namespace Go.Proofs.YthdclaljgimclaaDoor
open Go.RowKit
set_option linter.unusedVariables false

def DrewLIB (m : Nat) (w : World) (e : Ending) (w' : World) : Prop :=
  ∃ (A : Option Addr) (c : Nat) (ts : List Tk) (z : Int) (b : Bool), e = .returned (.tuple #[.slice A ts.length c, .int .i64 z, .bool b]) ∧ ts.length ≤ m ∧ (∀ t ∈ ts, smallTk t) ∧ -1 ≤ z ∧ z ≤ 201 ∧ Own w' w.heap.size (.slice A ts.length c) ts ∧ Below w.heap.size w w'
set_option maxRecDepth 100000 in
set_option maxHeartbeats 2000000 in
theorem dDrawWorstJobs_any (w : World) (A : Option Addr) (n c : Nat) (f : Nat → Int) (h : Code w w.heap.size A n c f) :
    Calls Tryd.prog 20 #[.slice A n c] w (DrewLIB 6 w) := by
  have H := Lib.hid h
  clear h
  go_enter Tryd.func20, Tryd.ntmps20
  go_wp2_with fail
  refine (open_any _ A n c f H.out).mono ?_
  rintro e w1 ⟨rfl, m, hr, hb⟩
  have hgl := hr.lt
  have HR := Lib.hid hr
  have HB := Lib.hid hb
  clear hr hb
  go_wp2_with fail
  refine (some_any _ _ _ _ _ _ _ _ HR.out (by omega)).mono ?_
  rintro e w2 ⟨v, ts, p, rfl, hl, hg, hp, hr, hgb, ho⟩
  obtain ⟨A2, c2, rfl⟩ := ho.form
  have hlt2 := hr.lt
  have HR2 := Lib.hid hr
  have HB2 := Lib.hid (below_of_gb HB.out hgb HB.out.size (Nat.le_refl _))
  have HO2 := Lib.hid ho
  have HS := Lib.hid hg
  clear hr hgb ho hg
  go_wp2_with fail
  refine (num_any _ _ _ _ _ _ _ p _ 7 (-1) 201 (HR2.out.alloc _) (by omega) (by omega) (by omega) (by omega) ?_).mono ?_
  · exact lit_cells_at _ _ _ _ _ _ (by simp) (fun i hi => by rcases (by omega : i = 0 ∨ i = 1 ∨ i = 2 ∨ i = 3 ∨ i = 4 ∨ i = 5 ∨ i = 6) with rfl | rfl | rfl | rfl | rfl | rfl | rfl <;> exact ⟨_, rfl, by decide, by decide⟩)
  rintro e w3 ⟨z, rfl, z0, z1, hr3, hg3⟩
  have hgw3 : w2.grownBy w3 (some w.heap.size) := gb_trans (gb_alloc (World.grownBy.refl w2 _) _) hg3 (fun x e => .inl (by injection e with e; exact e.symm))
  have HB3 := Lib.hid (below_of_gb HB2.out hgw3 HB2.out.size (Nat.le_refl _))
  have HO3 := Lib.hid (HO2.out.kept hgw3 (fun k e => by injection e with e; omega))
  have HR3 := Lib.hid hr3
  have Z := Lib.hid (And.intro z0 z1)
  clear hr3 hg3 hgw3 z0 z1
  go_wp2_with fail
  refine (pick_any _ _ _ _ _ _ _ (p + 1) 2 HR3.out (by omega) (by omega)).mono ?_
  rintro e w4 ⟨y, rfl, y0, _, _, hr4, hg4⟩
  have HB4 := Lib.hid (below_of_gb HB3.out hg4 HB3.out.size (Nat.le_refl _))
  have HO4 := Lib.hid (HO3.out.kept hg4 (fun k e => by injection e with e; omega))
  clear hr4 hg4
  have HX : ∀ b : Bool, Hid (DrewLIB 6 w (.returned (.tuple #[.slice A2 ts.length c2, .int .i64 z, .bool b])) w4) := fun b => ⟨A2, c2, ts, z, b, rfl, hl, HS.out, Z.out.1, Z.out.2, own_more HO4.out HB.out.size, HB4.out⟩
  clear HB4 HO4 Z HS
  go_wp2
  refine bodyPost_ret (v := .tuple #[.slice A2 ts.length c2, .int .i64 z, .bool (y == 0)]) (by simp [results, Tryd.results20, go_sem]) rfl (HX _).out
end Go.Proofs.YthdclaljgimclaaDoor
