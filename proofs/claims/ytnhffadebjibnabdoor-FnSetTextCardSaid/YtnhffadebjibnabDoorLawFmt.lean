/- The walks of the laws on the text of one task: FnExactFormatTask and FnTaskLow return true, and write nothing that was there. -/
import Derived.Test.YtnhffadebjibnabDoorFmt
import Derived.Test.YtnhffadebjibnabDoorToTask
namespace Go.Proofs.YtnhffadebjibnabDoor
open Go.RowKit

def TrueF (w : World) (e : Ending) (w' : World) : Prop := e = .returned (.bool true) ∧ Below w.heap.size w w'

set_option maxRecDepth 100000 in
set_option maxHeartbeats 1000000 in
theorem fnExactFormatTask_walk (w : World) (lo hi du ev : Int) (cr : Bool) :
    Calls Tryd.prog 8 #[.agg #[.int .i64 lo, .int .i64 hi, .int .i64 du, .int .i64 ev, .bool cr]] w (TrueF w) := by
  go_enter Tryd.func8, Tryd.ntmps8
  go_wp2_with (first
    | (go_at_call 29; refine (toTask_any _ _ _ _ _ _).mono ?_; rintro e wa ⟨rfl, ha⟩
       have sa : w.heap.size < wa.heap.size := by have := ha.size; first | omega | (simp at this; omega)
       have HA := Lib.hid (bl_trans (show Below w.heap.size w _ by repeat (first | exact HA.out | exact Below.refl _ _ | refine Below.drew ?_ | refine bl_alloc ?_ _)) ha)
       obtain ⟨a0, a1, a2, a3, a4⟩ := t5_kept w.heap.size lo hi du ev cr ha (by first | omega | (simp; try omega)) (by first | (exact ⟨by assumption, by assumption, by assumption, by assumption, by assumption⟩) | (simp [T5, go_sem, *]; done))
       clear ha)
    | (go_at_call 16; refine (sFormatTask_any _ _ _ _ _ _).mono ?_; rintro e wa ⟨rfl, ha⟩
       have sa : w.heap.size < wa.heap.size := by have := ha.size; first | omega | (simp at this; omega)
       have HA := Lib.hid (bl_trans (show Below w.heap.size w _ by repeat (first | exact HA.out | exact Below.refl _ _ | refine Below.drew ?_ | refine bl_alloc ?_ _)) ha)
       obtain ⟨a0, a1, a2, a3, a4⟩ := t5_kept w.heap.size lo hi du ev cr ha (by first | omega | (simp; try omega)) (by first | (exact ⟨by assumption, by assumption, by assumption, by assumption, by assumption⟩) | (simp [T5, go_sem, *]; done))
       clear ha)
    | (go_at_call 13; refine (iFormatTask_any _ _ _ _ _ _).mono ?_; rintro e wa ⟨rfl, ha⟩
       have sa : w.heap.size < wa.heap.size := by have := ha.size; first | omega | (simp at this; omega)
       have HA := Lib.hid (bl_trans (show Below w.heap.size w _ by repeat (first | exact HA.out | exact Below.refl _ _ | refine Below.drew ?_ | refine bl_alloc ?_ _)) ha)
       obtain ⟨a0, a1, a2, a3, a4⟩ := t5_kept w.heap.size lo hi du ev cr ha (by first | omega | (simp; try omega)) (by first | (exact ⟨by assumption, by assumption, by assumption, by assumption, by assumption⟩) | (simp [T5, go_sem, *]; done))
       clear ha))
  go_ret
  exact ⟨rfl, by repeat (first | exact HA.out | refine Below.drew ?_ | refine bl_alloc ?_ _)⟩

set_option maxHeartbeats 1000000 in
theorem drawFormat_any (w : World) (A : Option Addr) (n c : Nat) (f : Nat → Int) (h : Code w w.heap.size A n c f) :
    Calls Tryd.prog 12 #[.slice A n c] w (DrewTask smallT w) := by
  go_enter Tryd.func12, Tryd.ntmps12
  go_wp2_with fail
  refine (drawTask_any _ A n c f (h.alloc _)).mono ?_
  rintro e w1 ⟨lo, hi, du, ev, cr, rfl, hs, hb⟩
  have bR : Blk w1 w.heap.size 24 _ := (Blk.new w 24 _).below hb (by simp)
  have cR := bR.cell
  have fR := bR.frozen
  have HB := Lib.hid (bl_trans (bl_alloc (Below.refl _ w) _) hb)
  clear hb bR
  go_wp2
  refine bodyPost_ret (v := .agg #[.int .i64 lo, .int .i64 hi, .int .i64 du, .int .i64 ev, .bool cr]) (by simp [results, Tryd.results12, go_sem, cR]) rfl ⟨lo, hi, du, ev, cr, rfl, hs, ?_⟩
  repeat (first | exact HB.out | refine bl_set ?_ (by dsimp only; omega) _)

theorem textL_empty (lo hi du ev : Int) (cr : Bool) : (textL lo hi du ev cr).isEmpty = !validB lo hi du ev cr := by
  cases hv : validB lo hi du ev cr
  · rw [textL_nil hv]; rfl
  · have := textL_ne hv
    simpa using this
theorem low_facts {lo hi du ev : Int} {cr : Bool} (hv : validB lo hi du ev cr = true) : (textL 0 hi du ev cr).isEmpty = true ∧ (textL 1 hi du ev true).isEmpty = false := by
  obtain ⟨h1, h2, h3, h4, h5⟩ := valid_of hv
  rw [textL_empty, textL_empty]
  refine ⟨by simp [validB], ?_⟩
  simp [validB]; omega

set_option maxRecDepth 100000 in
set_option maxHeartbeats 1000000 in
theorem fnTaskLow_walk (w : World) (A : Option Addr) (n c : Nat) (f : Nat → Int) (h : Code w w.heap.size A n c f) :
    Calls Tryd.prog 5 #[.slice A n c] w (TrueF w) := by
  have H := Lib.hid h
  have hle := h.le
  have hmax := h.max
  unfold maxLen at hmax
  clear h
  by_cases hn : 1048576 < n
  · go_enter Tryd.func5, Tryd.ntmps5
    go_wp2
    go_ret
    exact ⟨rfl, Below.refl _ _⟩
  go_enter Tryd.func5, Tryd.ntmps5
  go_wp2_with fail
  refine (drawFormat_any _ A n c f H.out).mono ?_
  rintro e w1 ⟨lo, hi, du, ev, cr, rfl, hs, hb⟩
  have HB1 := Lib.hid hb
  have s1 : w.heap.size ≤ w1.heap.size := hb.size
  clear hb hs
  go_wp2_with fail
  refine (iFormatTask_any _ _ _ _ _ _).mono ?_
  rintro e w2 ⟨rfl, hb⟩
  have HB2 := Lib.hid (bl_trans (bl_alloc HB1.out _) hb)
  have s2 : w1.heap.size < w2.heap.size := by have := hb.size; simp at this; omega
  obtain ⟨c0, c1, c2, c3, c4⟩ := t5_kept w1.heap.size lo hi du ev cr hb (by simp) (by simp [T5, go_sem])
  clear hb
  go_wp2_with fail
  refine (sFormatTask_any _ _ _ _ _ _).mono ?_
  rintro e w3 ⟨rfl, hb⟩
  have HB3 := Lib.hid (bl_trans HB2.out hb)
  have s3 : w1.heap.size < w3.heap.size := by have := hb.size; omega
  obtain ⟨d0, d1, d2, d3, d4⟩ := t5_kept w1.heap.size lo hi du ev cr hb (by omega) ⟨c0, c1, c2, c3, c4⟩
  clear hb c0 c1 c2 c3 c4
  cases hv : validB lo hi du ev cr
  · have z : (textL lo hi du ev cr).isEmpty = true := by rw [textL_empty, hv]; rfl
    go_wp2_with fail
    refine (sFormatTask_any _ _ _ _ _ _).mono ?_
    rintro e w4 ⟨rfl, hb⟩
    have HB4 := Lib.hid (bl_trans HB3.out hb)
    clear hb
    go_wp2
    go_ret
    exact ⟨by simp, HB4.out⟩
  · have z : (textL lo hi du ev cr).isEmpty = false := by rw [textL_empty, hv]; rfl
    obtain ⟨z0, z1⟩ := low_facts hv
    go_wp2_with fail
    refine (iFormatTask_any _ _ _ _ _ _).mono ?_
    rintro e w4 ⟨rfl, hb⟩
    have HB4 := Lib.hid (bl_trans (bl_alloc (bl_alloc HB3.out _) _) hb)
    obtain ⟨c0, c1, c2, c3, c4⟩ := t5_kept (w3.heap.size + 1) 1 hi du ev true hb (by simp) (by simp [T5, go_sem])
    clear hb
    go_wp2_with fail
    refine (iFormatTask_any _ _ _ _ _ _).mono ?_
    rintro e w5 ⟨rfl, hb⟩
    have HB5 := Lib.hid (bl_trans HB4.out hb)
    clear hb
    go_wp2
    go_ret
    exact ⟨by simp, HB5.out⟩

end Go.Proofs.YtnhffadebjibnabDoor
