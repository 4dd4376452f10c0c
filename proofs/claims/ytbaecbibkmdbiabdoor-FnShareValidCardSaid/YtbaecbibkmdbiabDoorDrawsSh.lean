/- Contracts of what the reference draws as arguments of the functions on shares; nothing that was there is written. -/
import Derived.Test.YtbaecbibkmdbiabDoorDrawSh
import Derived.RegionTactic
import Derived.ChangeAlike
import Derived.Deep.RegionWith
namespace Go.Proofs.YtbaecbibkmdbiabDoor
open Go.RowKit
set_option linter.unusedVariables false

def DrewII (w : World) (e : Ending) (w' : World) : Prop :=
  ∃ x y : Int, e = .returned (.tuple #[.int .i64 x, .int .i64 y]) ∧ (-2 ≤ x ∧ x ≤ 1000000001) ∧ (-2 ≤ y ∧ y ≤ 1000000001) ∧ Below w.heap.size w w'
def DrewS (w : World) (e : Ending) (w' : World) : Prop :=
  ∃ x y : Int, e = .returned (.agg #[.int .i64 x, .int .i64 y]) ∧ smallS x y ∧ Below w.heap.size w w'
def DrewSS (w : World) (e : Ending) (w' : World) : Prop :=
  ∃ x y u v : Int, e = .returned (.tuple #[.agg #[.int .i64 x, .int .i64 y], .agg #[.int .i64 u, .int .i64 v]]) ∧ smallS x y ∧ smallS u v ∧ Below w.heap.size w w'

set_option maxHeartbeats 1000000 in
theorem dDrawShareValid_any (w : World) (A : Option Addr) (n c : Nat) (f : Nat → Int) (h : Code w w.heap.size A n c f) :
    Calls Tryd.prog 25 #[.slice A n c] w (DrewS w) := by
  have H := Lib.hid h
  clear h
  go_enter Tryd.func25, Tryd.ntmps25
  go_wp2_with fail
  refine (open_any _ A n c f (H.out.alloc _)).mono ?_
  rintro e w1 ⟨rfl, m, hr, hb⟩
  have HB1 := Lib.hid (show Below w.heap.size w w1 from bl_trans (by repeat (first | exact Below.refl w.heap.size w | refine bl_alloc ?_ _)) hb)
  have hs1 := hb.size
  simp only [World.size_alloc] at hr hs1
  have hgl := hr.lt
  have HR1 := Lib.hid hr
  have bA1 := Lib.hid (show Blk w1 w.heap.size 26 #[.int .i64 0, .int .i64 0] from Blk.below (Blk.new w 26 _) hb (by simp))
  clear hr hb H
  go_wp2_with fail
  refine (shDraw_any _ _ _ A m c f 0 HR1.out (by omega)).mono ?_
  rintro e w2 ⟨x, y, p2, rfl, hsm2, hp2, hr, hg⟩
  have HR2 := Lib.hid hr
  have HS2 := Lib.hid hsm2
  have HB2 := Lib.hid (below_of_gb HB1.out hg HB1.out.size (by omega))
  have hs2 := hg.size
  have bA2 := Lib.hid (bA1.out.grown hg (by intro e; injection e; omega))
  clear hr hg hsm2 HR1
  have cR := bA2.out.cell
  have fR := bA2.out.frozen
  go_wp2
  refine bodyPost_ret (v := .agg #[.int .i64 x, .int .i64 y]) (by simp [results, Tryd.results25, go_sem, cR]) rfl ⟨x, y, rfl, HS2.out, (by repeat (first | exact HB2.out | refine bl_drewN ?_ _ | refine Below.drew ?_ | refine bl_alloc ?_ _ | refine bl_set ?_ (by dsimp only; omega) _))⟩

set_option maxHeartbeats 1000000 in
theorem dDrawAddShares_any (w : World) (A : Option Addr) (n c : Nat) (f : Nat → Int) (h : Code w w.heap.size A n c f) :
    Calls Tryd.prog 19 #[.slice A n c] w (DrewSS w) := by
  have H := Lib.hid h
  clear h
  go_enter Tryd.func19, Tryd.ntmps19
  go_wp2_with fail
  refine (open_any _ A n c f ((H.out.alloc _).alloc _)).mono ?_
  rintro e w1 ⟨rfl, m, hr, hb⟩
  have HB1 := Lib.hid (show Below w.heap.size w w1 from bl_trans (by repeat (first | exact Below.refl w.heap.size w | refine bl_alloc ?_ _)) hb)
  have hs1 := hb.size
  simp only [World.size_alloc] at hr hs1
  have hgl := hr.lt
  have HR1 := Lib.hid hr
  have bA1 := Lib.hid (show Blk w1 w.heap.size 26 #[.int .i64 0, .int .i64 0] from Blk.below ((Blk.new w 26 _).alloc _) hb (by simp; omega))
  have bB1 := Lib.hid (show Blk w1 (w.heap.size + 1) 26 #[.int .i64 0, .int .i64 0] from by have h := Blk.below (Blk.new (w.alloc (.cells #[.int .i64 0, .int .i64 0] 26)) 26 #[.int .i64 0, .int .i64 0]) hb (by simp); simp only [World.size_alloc] at h; exact h)
  clear hr hb H
  go_wp2_with fail
  refine (shDraw_any _ _ _ A m c f 0 HR1.out (by omega)).mono ?_
  rintro e w2 ⟨x, y, p2, rfl, hsm2, hp2, hr, hg⟩
  have HR2 := Lib.hid hr
  have HS2 := Lib.hid hsm2
  have HB2 := Lib.hid (below_of_gb HB1.out hg HB1.out.size (by omega))
  have hs2 := hg.size
  have bA2 := Lib.hid (bA1.out.grown hg (by intro e; injection e; omega))
  have bB2 := Lib.hid (bB1.out.grown hg (by intro e; injection e; omega))
  clear hr hg hsm2 HR1
  go_wp2_with fail
  refine (shDraw_any _ _ _ A m c f p2 HR2.out (by omega)).mono ?_
  rintro e w3 ⟨u, v, p3, rfl, hsm3, hp3, hr, hg⟩
  have HR3 := Lib.hid hr
  have HS3 := Lib.hid hsm3
  have HB3 := Lib.hid (below_of_gb HB2.out hg HB2.out.size (by omega))
  have hs3 := hg.size
  have bA3 := Lib.hid (bA2.out.grown hg (by intro e; injection e; omega))
  have bB3 := Lib.hid (bB2.out.grown hg (by intro e; injection e; omega))
  clear hr hg hsm3 HR2
  have cA := bA3.out.cell
  have fA := bA3.out.frozen
  have cB := bB3.out.cell
  have fB := bB3.out.frozen
  go_wp2
  refine bodyPost_ret (v := .tuple #[.agg #[.int .i64 x, .int .i64 y], .agg #[.int .i64 u, .int .i64 v]]) (by simp [results, Tryd.results19, go_sem, cA, cB]) rfl ⟨x, y, u, v, rfl, HS2.out, HS3.out, (by repeat (first | exact HB3.out | refine bl_drewN ?_ _ | refine Below.drew ?_ | refine bl_alloc ?_ _ | refine bl_set ?_ (by dsimp only; omega) _))⟩

set_option maxHeartbeats 1000000 in
theorem dDrawCompareShares_any (w : World) (A : Option Addr) (n c : Nat) (f : Nat → Int) (h : Code w w.heap.size A n c f) :
    Calls Tryd.prog 23 #[.slice A n c] w (DrewSS w) := by
  have H := Lib.hid h
  clear h
  go_enter Tryd.func23, Tryd.ntmps23
  go_wp2_with fail
  refine (open_any _ A n c f ((H.out.alloc _).alloc _)).mono ?_
  rintro e w1 ⟨rfl, m, hr, hb⟩
  have HB1 := Lib.hid (show Below w.heap.size w w1 from bl_trans (by repeat (first | exact Below.refl w.heap.size w | refine bl_alloc ?_ _)) hb)
  have hs1 := hb.size
  simp only [World.size_alloc] at hr hs1
  have hgl := hr.lt
  have HR1 := Lib.hid hr
  have bA1 := Lib.hid (show Blk w1 w.heap.size 26 #[.int .i64 0, .int .i64 0] from Blk.below ((Blk.new w 26 _).alloc _) hb (by simp; omega))
  have bB1 := Lib.hid (show Blk w1 (w.heap.size + 1) 26 #[.int .i64 0, .int .i64 0] from by have h := Blk.below (Blk.new (w.alloc (.cells #[.int .i64 0, .int .i64 0] 26)) 26 #[.int .i64 0, .int .i64 0]) hb (by simp); simp only [World.size_alloc] at h; exact h)
  clear hr hb H
  go_wp2_with fail
  refine (shDraw_any _ _ _ A m c f 0 HR1.out (by omega)).mono ?_
  rintro e w2 ⟨x, y, p2, rfl, hsm2, hp2, hr, hg⟩
  have HR2 := Lib.hid hr
  have HS2 := Lib.hid hsm2
  have HB2 := Lib.hid (below_of_gb HB1.out hg HB1.out.size (by omega))
  have hs2 := hg.size
  have bA2 := Lib.hid (bA1.out.grown hg (by intro e; injection e; omega))
  have bB2 := Lib.hid (bB1.out.grown hg (by intro e; injection e; omega))
  clear hr hg hsm2 HR1
  go_wp2_with fail
  refine (pick_any _ _ _ A m c f p2 4 (by first | exact HR2.out | exact HR2.out.alloc _) (by omega) (by omega)).mono ?_
  rintro e w3 ⟨z, rfl, z0, _, _, hr, hg⟩
  have HR3 := Lib.hid hr
  have hs3 := hg.size
  have hs3' : w2.heap.size ≤ w3.heap.size := by first | exact hg.size | (have := hg.size; simp at this; omega)
  have HB3 := Lib.hid (show Below w.heap.size w w3 from below_of_gb (by first | exact HB2.out | exact bl_alloc HB2.out _) hg (by have := HB2.out.size; first | omega | (simp; omega)) (by omega))
  have bA3 := Lib.hid (show Blk w3 w.heap.size 26 #[.int .i64 0, .int .i64 0] from Blk.grown (by first | exact bA2.out | exact bA2.out.alloc _) hg (by intro e; injection e; omega))
  have bB3 := Lib.hid (show Blk w3 (w.heap.size + 1) 26 #[.int .i64 0, .int .i64 0] from Blk.grown (by first | exact bB2.out | exact bB2.out.alloc _) hg (by intro e; injection e; omega))
  have cA := bA3.out.cell
  have fA := bA3.out.frozen
  have cB := bB3.out.cell
  have fB := bB3.out.frozen
  have bS3 := Lib.hid (show Blk w3 w2.heap.size 26 #[.int .i64 x, .int .i64 y] from Blk.grown (Blk.new w2 26 _) hg (by intro e; injection e; omega))
  clear hr hg HR2 bA2 bB2
  have cS := bS3.out.cell
  by_cases hz : z = 0
  · subst hz
    go_wp2
    (try go_region)
    all_goals (try go_wp2)
    all_goals refine bodyPost_ret (v := .tuple #[.agg #[.int .i64 x, .int .i64 y], .agg #[.int .i64 x, .int .i64 y]]) (by simp [results, Tryd.results23, go_sem, cA, cB]) rfl ⟨x, y, x, y, rfl, HS2.out, HS2.out, (by repeat (first | exact HB3.out | refine bl_drewN ?_ _ | refine Below.drew ?_ | refine bl_alloc ?_ _ | refine bl_set ?_ (by dsimp only; omega) _))⟩
  · have hz' : (z == 0) = false := by simpa using hz
    clear hz cA fA cB fB
    go_wp2
    go_region_with (go_at_call 33; refine (shDraw_any _ _ _ A m c f (p2 + 1) (by exact ⟨HR3.out.blk, HR3.out.ge, HR3.out.len, HR3.out.at_, HR3.out.byte⟩) (by omega)).mono ?_; rintro e w4 ⟨u, v, p4, rfl, hsm4, hp4, hr, hg⟩; have hg' : w3.grownBy w4 (some (w.heap.size + 1 + 1)) := ⟨hg.os, hg.tape, hg.output, hg.size, hg.block⟩; have HS4 := Lib.hid hsm4; have HB4 := Lib.hid (below_of_gb HB3.out hg' HB3.out.size (by omega)); have bA4 := bA3.out.grown hg' (by intro e; injection e; omega); have bB4 := bB3.out.grown hg' (by intro e; injection e; omega); have bS4 := bS3.out.grown hg' (by intro e; injection e; omega); have cA := bA4.cell; have fA := bA4.frozen; have cB := bB4.cell; have fB := bB4.frozen; have cS4 := bS4.cell; clear hr hg hg' hsm4 bA4 bB4 bS4)
    all_goals (try go_wp2)
    all_goals refine bodyPost_ret (v := .tuple #[.agg #[.int .i64 x, .int .i64 y], .agg #[.int .i64 u, .int .i64 v]]) (by simp [results, Tryd.results23, go_sem, cA, cB]) rfl ⟨x, y, u, v, rfl, HS2.out, HS4.out, (by repeat (first | exact HB4.out | refine bl_drewN ?_ _ | refine Below.drew ?_ | refine bl_alloc ?_ _ | refine bl_set ?_ (by dsimp only; omega) _))⟩

set_option maxHeartbeats 1000000 in
theorem dDrawMakeShare_any (w : World) (A : Option Addr) (n c : Nat) (f : Nat → Int) (h : Code w w.heap.size A n c f) :
    Calls Tryd.prog 15 #[.slice A n c] w (DrewII w) := by
  have H := Lib.hid h
  clear h
  go_enter Tryd.func15, Tryd.ntmps15
  go_wp2_with fail
  refine (open_any _ A n c f H.out).mono ?_
  rintro e w1 ⟨rfl, m, hr, hb⟩
  have HB1 := Lib.hid (show Below w.heap.size w w1 from bl_trans (by repeat (first | exact Below.refl w.heap.size w | refine bl_alloc ?_ _)) hb)
  have hs1 := hb.size
  have hgl := hr.lt
  have HR1 := Lib.hid hr
  clear hr hb H
  go_wp2_with fail
  refine (num_any _ w.heap.size w.heap.size A m c f 0 _ 7 (-1) 1000000001 (by repeat (first | exact HR1.out | refine Rd.alloc ?_ _)) (by omega) (by omega) (by omega) (by first | omega | (simp; omega)) ?_).mono ?_
  · exact lit_cells_at _ _ _ _ _ _ (by simp) (fun i hi => by rcases (by omega : i = 0 ∨ i = 1 ∨ i = 2 ∨ i = 3 ∨ i = 4 ∨ i = 5 ∨ i = 6) with rfl | rfl | rfl | rfl | rfl | rfl | rfl <;> exact ⟨_, rfl, by decide, by decide⟩)
  rintro e w2 ⟨x, rfl, x1, x2, hr, hg⟩
  have HR2 := Lib.hid hr
  have hs2 : w1.heap.size ≤ w2.heap.size := by first | exact hg.size | (have := hg.size; simp at this; omega)
  have HB2 := Lib.hid (show Below w.heap.size w w2 from below_of_gb (by first | exact HB1.out | exact bl_alloc HB1.out _) hg (by have := HB1.out.size; first | omega | (simp; omega)) (by omega))
  clear hr hg HR1
  go_wp2_with fail
  refine (num_any _ w.heap.size w.heap.size A m c f (0 + 1) _ 8 (-2) 1000000001 (by repeat (first | exact HR2.out | refine Rd.alloc ?_ _)) (by omega) (by omega) (by omega) (by first | omega | (simp; omega)) ?_).mono ?_
  · exact lit_cells_at _ _ _ _ _ _ (by simp) (fun i hi => by rcases (by omega : i = 0 ∨ i = 1 ∨ i = 2 ∨ i = 3 ∨ i = 4 ∨ i = 5 ∨ i = 6 ∨ i = 7) with rfl | rfl | rfl | rfl | rfl | rfl | rfl | rfl <;> exact ⟨_, rfl, by decide, by decide⟩)
  rintro e w3 ⟨y, rfl, y1, y2, hr, hg⟩
  have HR3 := Lib.hid hr
  have hs3 : w2.heap.size ≤ w3.heap.size := by first | exact hg.size | (have := hg.size; simp at this; omega)
  have HB3 := Lib.hid (show Below w.heap.size w w3 from below_of_gb (by first | exact HB2.out | exact bl_alloc HB2.out _) hg (by have := HB2.out.size; first | omega | (simp; omega)) (by omega))
  clear hr hg HR2
  go_wp2
  refine bodyPost_ret (v := .tuple #[.int .i64 x, .int .i64 y]) (by simp [results, Tryd.results15, go_sem]) rfl ⟨x, y, rfl, ⟨by omega, by omega⟩, ⟨by omega, by omega⟩, (by repeat (first | exact HB3.out | refine bl_drewN ?_ _ | refine Below.drew ?_ | refine bl_alloc ?_ _ | refine bl_set ?_ (by dsimp only; omega) _))⟩

end Go.Proofs.YtbaecbibkmdbiabDoor
