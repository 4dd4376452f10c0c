/- Contract of what the reference draws as arguments of DemandOf; nothing that was there is written. -/
import Derived.Test.YtobkbbgllapcoaaTask
import Derived.Test.YtobkbbgllapcoaaOpenB
import Derived.Test.YtobkbbgllapcoaaLit
namespace Go.Proofs.Ytobkbbgllapcoaa
open Go.RowKit
set_option linter.unusedVariables false

def DrewD (w : World) (e : Ending) (w' : World) : Prop :=
  ∃ (lo hi du ev : Int) (cr : Bool) (z : Int) (hb : Bool), e = .returned (.tuple #[.agg #[.int .i64 lo, .int .i64 hi, .int .i64 du, .int .i64 ev, .bool cr], .int .i64 z, .bool hb]) ∧ -1 ≤ z ∧ z ≤ 1000001 ∧ Below w.heap.size w w'

set_option maxRecDepth 100000 in
set_option maxHeartbeats 2000000 in
theorem dDrawDemandOf_any (w : World) (A : Option Addr) (n c : Nat) (f : Nat → Int) (h : Code w w.heap.size A n c f) :
    Calls Try.prog 18 #[.slice A n c] w (DrewD w) := by
  have H := Lib.hid h
  clear h
  go_enter Try.func18, Try.ntmps18
  go_wp2_with fail
  refine (open_any _ A n c f (H.out.alloc _)).mono ?_
  rintro e w1 ⟨rfl, m, hr, hb⟩
  have hsz1 : w.heap.size + 1 ≤ w1.heap.size := by have := hb.size; simp at this; omega
  have bR : Blk w1 w.heap.size 24 #[.int .i64 0, .int .i64 0, .int .i64 0, .int .i64 0, .bool false] := (Blk.new w 24 _).below hb (by simp)
  have hbw : Below w.heap.size w w1 := ((Below.refl _ w).alloc (Nat.le_refl _) _).trans (hb.mono (by simp))
  simp only [World.size_alloc] at hr
  have hb1 := Lib.hid hbw
  have hr1 := Lib.hid hr
  have bR1 := Lib.hid bR
  clear hb hbw hr bR
  go_wp2_with fail
  refine (task_any _ _ _ _ _ _ _ _ hr1.out (by omega)).mono ?_
  rintro e w2 ⟨lo, hi, du, ev, cr, p2, rfl, hs2, hp2, hr, hg⟩
  have hr2 := Lib.hid hr
  have hs2' := Lib.hid hs2.small
  have hb2 := Lib.hid (below_of_gb hb1.out hg (by omega) (by omega))
  have bR2 := Lib.hid (bR1.out.grown hg (by intro e; injection e; omega))
  have hsz2 : w.heap.size + 1 ≤ w2.heap.size := by have := hg.size; omega
  clear hr hs2 hg
  go_wp2_with fail
  refine (wrong_any _ _ _ _ _ _ _ _ lo hi du ev cr hr2.out (by omega) hs2'.out).mono ?_
  rintro e w3 ⟨lo, hi, du, ev, cr, p3, rfl, hs3, hp3, hr, hg⟩
  have hlt3 := hr.lt
  have hr3 := Lib.hid hr
  have hb3 := Lib.hid (below_of_gb hb2.out hg (by omega) (by omega))
  have bR3 := Lib.hid (bR2.out.grown hg (by intro e; injection e; omega))
  have hsz3 : w.heap.size + 1 ≤ w3.heap.size := by have := hg.size; omega
  clear hr hs3 hg
  go_wp2_with fail
  refine (num_any _ _ _ _ _ _ _ p3 _ 8 (-1) 1000001 (hr3.out.alloc _) (by omega) (by omega) (by omega) (by omega) ?_).mono ?_
  · exact lit_cells_at _ _ _ _ _ _ (by simp) (fun i hi => by rcases (by omega : i = 0 ∨ i = 1 ∨ i = 2 ∨ i = 3 ∨ i = 4 ∨ i = 5 ∨ i = 6 ∨ i = 7) with rfl | rfl | rfl | rfl | rfl | rfl | rfl | rfl <;> exact ⟨_, rfl, by decide, by decide⟩)
  rintro e w4 ⟨z, rfl, z0, z1, hr4, hg4⟩
  have hgw4 := gb_trans (gb_alloc (World.grownBy.refl w3 _) _) hg4 (fun x e => .inl (by injection e with e; exact e.symm))
  have hb4 := Lib.hid (below_of_gb hb3.out hgw4 (by omega) (by omega))
  have bR4 := Lib.hid (bR3.out.grown hgw4 (by intro e; injection e; omega))
  have hr4' := Lib.hid hr4
  have hsz4 : w.heap.size + 1 ≤ w4.heap.size := by have := hgw4.size; omega
  have Z := Lib.hid (And.intro z0 z1)
  clear hr4 hg4 hgw4 z0 z1
  go_wp2_with fail
  refine (pick_any _ _ _ _ _ _ _ (p3 + 1) 2 hr4'.out (by omega) (by omega)).mono ?_
  rintro e w5 ⟨y, rfl, y0, _, _, hr5, hg5⟩
  have hb5 := Lib.hid (below_of_gb hb4.out hg5 (by omega) (by omega))
  have bR5 := Lib.hid (bR4.out.grown hg5 (by intro e; injection e; omega))
  clear hr5 hg5
  have cR := bR5.out.cell; have fR := bR5.out.frozen
  go_wp2
  refine bodyPost_ret (v := .tuple #[.agg #[.int .i64 lo, .int .i64 hi, .int .i64 du, .int .i64 ev, .bool cr], .int .i64 z, .bool (y == 0)]) (by simp [results, Try.results18, go_sem, cR]) rfl ⟨lo, hi, du, ev, cr, z, (y == 0), rfl, Z.out.1, Z.out.2, ?_⟩
  repeat (refine Below.setCell ?_ (by dsimp only; omega) _)
  exact hb5.out

end Go.Proofs.Ytobkbbgllapcoaa
