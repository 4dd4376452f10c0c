/- Draws of the arguments of HoldsBy and AdmitTask. -/
import Derived.Test.YtgfnlfjaekkdfaaGreatDoorD8c
import Derived.Deep.RegionWith
namespace Go.Proofs.YtgfnlfjaekkdfaaGreatDoor
open Go.RowKit
set_option linter.unusedVariables false

def DrewLIw (w : World) (e : Ending) (w' : World) : Prop :=
  ∃ (A : Option Addr) (c : Nat) (ts : List Tk) (pol : Int), e = .returned (.tuple #[.slice A ts.length c, .int .i64 pol]) ∧ ts.length ≤ 6 ∧ (-1 ≤ pol ∧ pol ≤ 2) ∧ Own w' w.heap.size (.slice A ts.length c) ts ∧ Below w.heap.size w w'
def DrewLTI (w : World) (e : Ending) (w' : World) : Prop :=
  ∃ (A : Option Addr) (c : Nat) (ts : List Tk) (lo hi' du ev : Int) (cr : Bool) (pol : Int), e = .returned (.tuple #[.slice A ts.length c, .agg #[.int .i64 lo, .int .i64 hi', .int .i64 du, .int .i64 ev, .bool cr], .int .i64 pol]) ∧ ts.length ≤ 6 ∧ Own w' w.heap.size (.slice A ts.length c) ts ∧ Below w.heap.size w w'
set_option maxRecDepth 100000 in
set_option maxHeartbeats 4000000 in
theorem dDrawAdmitTask_any (w : World) (A : Option Addr) (n c : Nat) (f : Nat → Int) (h : Code w w.heap.size A n c f) :
    Calls Tryz.prog 9 #[.slice A n c] w (DrewLTI w) := by
  have H := Lib.hid h
  clear h
  go_enter Tryz.func9, Tryz.ntmps9
  go_wp2_with fail
  refine (open_any _ A n c f (H.out.alloc _)).mono ?_
  rintro e w1 ⟨rfl, m, hr, hb⟩
  have hsz1 : w.heap.size + 1 < w1.heap.size := by have := hr.lt; simp at this; omega
  have bX : Blk w1 w.heap.size 25 #[.int .i64 0, .int .i64 0, .int .i64 0, .int .i64 0, .bool false] := (Blk.new w 25 _).below hb (by simp)
  have hbw : Below w.heap.size w w1 := ((Below.refl _ w).alloc (Nat.le_refl _) _).trans (hb.mono (by simp))
  simp only [World.size_alloc] at hr
  have HB1 := Lib.hid hbw
  have HR1 := Lib.hid hr
  have BX1 := Lib.hid bX
  clear hb hbw hr bX
  go_wp2_with fail
  refine (num_any _ _ _ _ _ _ _ _ _ 7 0 2 (HR1.out.alloc _) (by omega) (by omega) (by omega) (by omega) ?_).mono ?_
  · exact lit_cells_at _ _ _ _ _ _ (by simp) (fun i hi => by rcases (by omega : i = 0 ∨ i = 1 ∨ i = 2 ∨ i = 3 ∨ i = 4 ∨ i = 5 ∨ i = 6) with rfl | rfl | rfl | rfl | rfl | rfl | rfl <;> exact ⟨_, rfl, by decide, by decide⟩)
  rintro e w2 ⟨pol, rfl, pol0, pol1, hr, hg⟩
  have hgb : w1.grownBy w2 (some (w.heap.size + 1)) := gb_trans (gb_alloc (World.grownBy.refl w1 _) _) hg (fun x e => .inl (by injection e with e; exact e.symm))
  have HR2 := Lib.hid hr
  have HB2 := Lib.hid (below_of_gb HB1.out hgb (by omega) (by omega))
  have BX2 := Lib.hid (BX1.out.grown hgb (by intro e; injection e; omega))
  have hsz2 : w.heap.size + 1 < w2.heap.size := by have := hgb.size; omega
  clear hr hg hgb
  go_wp2_with fail
  refine (task_any _ _ _ _ _ _ _ _ HR2.out (by omega)).mono ?_
  rintro e w3 ⟨lo, hi', du, ev, cr, p3, rfl, hs, hp3, hr, hg⟩
  have HR3 := Lib.hid hr
  have HS3 := Lib.hid hs.small
  have HB3 := Lib.hid (below_of_gb HB2.out hg (by omega) (by omega))
  have BX3 := Lib.hid (BX2.out.grown hg (by intro e; injection e; omega))
  have hsz3 : w.heap.size + 1 < w3.heap.size := by have := hg.size; omega
  clear hr hs hg
  go_wp2_with fail
  refine (wrong_any _ _ _ _ _ _ _ _ lo hi' du ev cr HR3.out (by omega) HS3.out).mono ?_
  rintro e w4 ⟨lo, hi', du, ev, cr, p4, rfl, hs, hp4, hr, hg⟩
  have HR4 := Lib.hid hr
  have HB4 := Lib.hid (below_of_gb HB3.out hg (by omega) (by omega))
  have BX4 := Lib.hid (BX3.out.grown hg (by intro e; injection e; omega))
  have hsz4 : w.heap.size + 1 < w4.heap.size := by have := hg.size; omega
  clear hr hs hg
  by_cases hp1 : pol = 1
  · subst hp1
    go_wp2_with fail
    refine (pick_any _ (w.heap.size + 1) (w.heap.size + 1) A m c f p4 5 (HR4.out.alloc _) (by omega) (by omega)).mono ?_
    rintro e w6 ⟨y, rfl, y0, _, _, hr, hg⟩
    have hsY : w4.heap.size < w6.heap.size := by have := hg.size; simp at this; omega
    have HR6 := Lib.hid hr
    have HB6 := Lib.hid (below_of_gb (bl_alloc HB4.out (.cells #[.int .i64 lo, .int .i64 hi', .int .i64 du, .int .i64 ev, .bool cr] 25)) hg (by simp; omega) (by omega))
    have BX6 := Lib.hid ((BX4.out.alloc (.cells #[.int .i64 lo, .int .i64 hi', .int .i64 du, .int .i64 ev, .bool cr] 25)).grown hg (by intro e; injection e; omega))
    have BY6 := Lib.hid ((Blk.new w4 25 #[.int .i64 lo, .int .i64 hi', .int .i64 du, .int .i64 ev, .bool cr]).grown hg (by intro e; injection e; omega))
    clear hr hg
    by_cases hy : 0 < y
    · have hyd : decide (y > 0) = true := decide_eq_true hy
      have cT := BY6.out.cell
      have fT := BY6.out.frozen
      go_wp2
      clear cT fT
      have HRT := Lib.hid (show Rd (w6.setCell ⟨w4.heap.size, 2, none⟩ (.int .i64 ev)) (w.heap.size + 1) (w.heap.size + 1) A m c f (p4 + 1) from HR6.out.set (q := ⟨w4.heap.size, 2, none⟩) (by dsimp only; omega) (by dsimp only; omega) _)
      have HBT := Lib.hid (show Below w.heap.size w (w6.setCell ⟨w4.heap.size, 2, none⟩ (.int .i64 ev)) from Below.setCell HB6.out (by dsimp only; omega) _)
      have BXT := Lib.hid (show Blk (w6.setCell ⟨w4.heap.size, 2, none⟩ (.int .i64 ev)) w.heap.size 25 #[.int .i64 0, .int .i64 0, .int .i64 0, .int .i64 0, .bool false] from BX6.out.far (by dsimp only; omega) _)
      have BYT := Lib.hid (show Blk (w6.setCell ⟨w4.heap.size, 2, none⟩ (.int .i64 ev)) w4.heap.size 25 #[.int .i64 lo, .int .i64 hi', .int .i64 ev, .int .i64 ev, .bool cr] from BY6.out.set_ 2 _)
      obtain ⟨WT, hWT⟩ : ∃ WT, (w6.setCell ⟨w4.heap.size, 2, none⟩ (.int .i64 ev)) = WT := ⟨_, rfl⟩
      rw [hWT] at HRT HBT BXT BYT ⊢
      clear hWT
      have hWs : w4.heap.size < WT.heap.size := BYT.out.lt
      have cT := BYT.out.cell
      go_region_with (go_at_call 34; refine (l8Set_any _ (w.heap.size + 1) (w.heap.size + 1) A m c f (p4 + 1) _ ?_ (by omega)).mono ?_; (exact ⟨HRT.out.blk, HRT.out.ge, HRT.out.len, HRT.out.at_, HRT.out.byte⟩); rintro e w9 ⟨v, ts, q, rfl, hl, _, hq, hr, hgb, ho⟩; obtain ⟨A3, c3, rfl⟩ := ho.form; have HG := Lib.hid (show WT.grownBy w9 (some (w.heap.size + 1)) from ⟨hgb.os, hgb.tape, hgb.output, hgb.size, hgb.block⟩); have HO9 := Lib.hid (show Own w9 WT.heap.size (.slice A3 ts.length c3) ts from ho); have cY := (BYT.out.grown HG.out (by intro e; injection e; omega)).cell; have cX := (BXT.out.grown HG.out (by intro e; injection e; omega)).cell; have fX := (BXT.out.grown HG.out (by intro e; injection e; omega)).frozen; clear hr hgb ho)
      all_goals (
        (try clear cT cY)
        have HB9 := Lib.hid (below_of_gb HBT.out HG.out HBT.out.size (by omega))
        go_wp2
        refine bodyPost_ret (v := .tuple #[.slice A3 ts.length c3, .agg #[.int .i64 lo, .int .i64 hi', .int .i64 ev, .int .i64 ev, .bool cr], .int .i64 1]) (by simp [results, Tryz.results9, go_sem, cX]) rfl ⟨A3, c3, ts, lo, hi', ev, ev, cr, 1, rfl, hl, ?_, ?_⟩
        · refine World.ownsRow.kept (own_more HO9.out (by omega)) (row := some w.heap.size) ?_ ?_
          · repeat (refine gb_set ?_ (.inl rfl) _)
            exact World.grownBy.refl _ _
          · rcases he : (Value.slice A3 ts.length c3).ownBlock with _ | k
            · exact .inl rfl
            · right
              intro e
              have := (World.ownsRow.lt HO9.out k he).1
              injection e with e
              omega
        · repeat (refine Below.setCell ?_ (by dsimp only; omega) _)
          exact HB9.out)
    · have hyd : decide (y > 0) = false := decide_eq_false hy
      go_wp2
      have HRT := Lib.hid (show Rd (w6) (w.heap.size + 1) (w.heap.size + 1) A m c f (p4 + 1) from HR6.out)
      have HBT := Lib.hid (show Below w.heap.size w (w6) from HB6.out)
      have BXT := Lib.hid (show Blk (w6) w.heap.size 25 #[.int .i64 0, .int .i64 0, .int .i64 0, .int .i64 0, .bool false] from BX6.out)
      have BYT := Lib.hid (show Blk (w6) w4.heap.size 25 #[.int .i64 lo, .int .i64 hi', .int .i64 du, .int .i64 ev, .bool cr] from BY6.out)
      obtain ⟨WT, hWT⟩ : ∃ WT, (w6) = WT := ⟨_, rfl⟩
      rw [hWT] at HRT HBT BXT BYT ⊢
      clear hWT
      have hWs : w4.heap.size < WT.heap.size := BYT.out.lt
      have cT := BYT.out.cell
      go_region_with (go_at_call 34; refine (l8Set_any _ (w.heap.size + 1) (w.heap.size + 1) A m c f (p4 + 1) _ ?_ (by omega)).mono ?_; (exact ⟨HRT.out.blk, HRT.out.ge, HRT.out.len, HRT.out.at_, HRT.out.byte⟩); rintro e w9 ⟨v, ts, q, rfl, hl, _, hq, hr, hgb, ho⟩; obtain ⟨A3, c3, rfl⟩ := ho.form; have HG := Lib.hid (show WT.grownBy w9 (some (w.heap.size + 1)) from ⟨hgb.os, hgb.tape, hgb.output, hgb.size, hgb.block⟩); have HO9 := Lib.hid (show Own w9 WT.heap.size (.slice A3 ts.length c3) ts from ho); have cY := (BYT.out.grown HG.out (by intro e; injection e; omega)).cell; have cX := (BXT.out.grown HG.out (by intro e; injection e; omega)).cell; have fX := (BXT.out.grown HG.out (by intro e; injection e; omega)).frozen; clear hr hgb ho)
      all_goals (
        (try clear cT cY)
        have HB9 := Lib.hid (below_of_gb HBT.out HG.out HBT.out.size (by omega))
        go_wp2
        refine bodyPost_ret (v := .tuple #[.slice A3 ts.length c3, .agg #[.int .i64 lo, .int .i64 hi', .int .i64 du, .int .i64 ev, .bool cr], .int .i64 1]) (by simp [results, Tryz.results9, go_sem, cX]) rfl ⟨A3, c3, ts, lo, hi', du, ev, cr, 1, rfl, hl, ?_, ?_⟩
        · refine World.ownsRow.kept (own_more HO9.out (by omega)) (row := some w.heap.size) ?_ ?_
          · repeat (refine gb_set ?_ (.inl rfl) _)
            exact World.grownBy.refl _ _
          · rcases he : (Value.slice A3 ts.length c3).ownBlock with _ | k
            · exact .inl rfl
            · right
              intro e
              have := (World.ownsRow.lt HO9.out k he).1
              injection e with e
              omega
        · repeat (refine Below.setCell ?_ (by dsimp only; omega) _)
          exact HB9.out)
  · have hpb : (pol == 1) = false := by simpa using hp1
    have hsY : w4.heap.size < w4.heap.size + 1 := by omega
    go_wp2
    have HRT := Lib.hid (show Rd (w4.alloc (.cells #[.int .i64 lo, .int .i64 hi', .int .i64 du, .int .i64 ev, .bool cr] 25)) (w.heap.size + 1) (w.heap.size + 1) A m c f p4 from HR4.out.alloc _)
    have HBT := Lib.hid (show Below w.heap.size w (w4.alloc (.cells #[.int .i64 lo, .int .i64 hi', .int .i64 du, .int .i64 ev, .bool cr] 25)) from bl_alloc HB4.out _)
    have BXT := Lib.hid (show Blk (w4.alloc (.cells #[.int .i64 lo, .int .i64 hi', .int .i64 du, .int .i64 ev, .bool cr] 25)) w.heap.size 25 #[.int .i64 0, .int .i64 0, .int .i64 0, .int .i64 0, .bool false] from BX4.out.alloc _)
    have BYT := Lib.hid (show Blk (w4.alloc (.cells #[.int .i64 lo, .int .i64 hi', .int .i64 du, .int .i64 ev, .bool cr] 25)) w4.heap.size 25 #[.int .i64 lo, .int .i64 hi', .int .i64 du, .int .i64 ev, .bool cr] from Blk.new w4 25 _)
    obtain ⟨WT, hWT⟩ : ∃ WT, (w4.alloc (.cells #[.int .i64 lo, .int .i64 hi', .int .i64 du, .int .i64 ev, .bool cr] 25)) = WT := ⟨_, rfl⟩
    rw [hWT] at HRT HBT BXT BYT ⊢
    clear hWT
    have hWs : w4.heap.size < WT.heap.size := BYT.out.lt
    have cT := BYT.out.cell
    go_region_with (go_at_call 34; refine (l8Set_any _ (w.heap.size + 1) (w.heap.size + 1) A m c f p4 _ ?_ (by omega)).mono ?_; (exact ⟨HRT.out.blk, HRT.out.ge, HRT.out.len, HRT.out.at_, HRT.out.byte⟩); rintro e w9 ⟨v, ts, q, rfl, hl, _, hq, hr, hgb, ho⟩; obtain ⟨A3, c3, rfl⟩ := ho.form; have HG := Lib.hid (show WT.grownBy w9 (some (w.heap.size + 1)) from ⟨hgb.os, hgb.tape, hgb.output, hgb.size, hgb.block⟩); have HO9 := Lib.hid (show Own w9 WT.heap.size (.slice A3 ts.length c3) ts from ho); have cY := (BYT.out.grown HG.out (by intro e; injection e; omega)).cell; have cX := (BXT.out.grown HG.out (by intro e; injection e; omega)).cell; have fX := (BXT.out.grown HG.out (by intro e; injection e; omega)).frozen; clear hr hgb ho)
    all_goals (
      (try clear cT cY)
      have HB9 := Lib.hid (below_of_gb HBT.out HG.out HBT.out.size (by omega))
      go_wp2
      refine bodyPost_ret (v := .tuple #[.slice A3 ts.length c3, .agg #[.int .i64 lo, .int .i64 hi', .int .i64 du, .int .i64 ev, .bool cr], .int .i64 pol]) (by simp [results, Tryz.results9, go_sem, cX]) rfl ⟨A3, c3, ts, lo, hi', du, ev, cr, pol, rfl, hl, ?_, ?_⟩
      · refine World.ownsRow.kept (own_more HO9.out (by omega)) (row := some w.heap.size) ?_ ?_
        · repeat (refine gb_set ?_ (.inl rfl) _)
          exact World.grownBy.refl _ _
        · rcases he : (Value.slice A3 ts.length c3).ownBlock with _ | k
          · exact .inl rfl
          · right
            intro e
            have := (World.ownsRow.lt HO9.out k he).1
            injection e with e
            omega
      · repeat (refine Below.setCell ?_ (by dsimp only; omega) _)
        exact HB9.out)

end Go.Proofs.YtgfnlfjaekkdfaaGreatDoor
