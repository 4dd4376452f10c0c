/- The walks of the laws on one task: FnTaskMore and FnTaskCritical return true, and write nothing that was there. -/
import Derived.Test.YtnhffadebjibnaaOpen
import Derived.Deep.RegionHeld3
namespace Go.Proofs.Ytnhffadebjibnaa
open Go.RowKit

theorem valid_more {lo hi du ev : Int} {cr : Bool} (h : validB lo hi du ev cr = true) (he : ¬ ev = 20) : validB lo hi du (ev + 1) cr = true ∧ validB lo hi du 21 cr = false ∧ ev ≤ 20 := by
  simp [validB] at h ⊢
  obtain ⟨h1, h2, h3, h4, h5, h6⟩ := h
  exact ⟨⟨h1, h2, h3, by omega, by omega, h6⟩, h5⟩

def True_ (w : World) (e : Ending) (w' : World) : Prop := e = .returned (.bool true) ∧ Below w.heap.size w w'

set_option maxHeartbeats 1000000 in
theorem fnTaskMore_walk (w : World) (A : Option Addr) (n c : Nat) (f : Nat → Int) (h : Code w w.heap.size A n c f) :
    Calls Try.prog 6 #[.slice A n c] w (True_ w) := by
  have H := Lib.hid h
  have hle := h.le
  have hmax := h.max
  unfold maxLen at hmax
  clear h
  by_cases hn : 1048576 < n
  · go_enter Try.func6, Try.ntmps6
    go_wp2
    go_ret
    exact ⟨rfl, Below.refl _ _⟩
  go_enter Try.func6, Try.ntmps6
  go_wp2_with fail
  refine (drawTask_any _ A n c f H.out).mono ?_
  rintro e w1 ⟨lo, hi, du, ev, cr, rfl, hs, hb⟩
  obtain ⟨⟨s1, s2⟩, ⟨s3, s4⟩, ⟨s5, s6⟩, ⟨s7, s8⟩⟩ := hs
  have hb1 := Lib.hid hb
  clear hb
  have hsz : w.heap.size ≤ w1.heap.size := hb1.out.size
  cases hv : validB lo hi du ev cr
  · go_wp2_with (first | (go_at_call 31; refine (iTaskValid_any _ _ _ _ _ _).mono ?_; rintro e w' ⟨rfl, rfl⟩) | (go_at_call 32; refine (sTaskValid_any _ _ _ _ _ _).mono ?_; rintro e w' ⟨rfl, rfl⟩))
    go_ret
    exact ⟨rfl, by repeat (first | exact hb1.out | refine Below.drew ?_ | refine bl_alloc ?_ _ | refine bl_set ?_ (by dsimp only; omega) _)⟩
  · by_cases he : ev = 20
    · subst he
      go_wp2_with (first | (go_at_call 31; refine (iTaskValid_any _ _ _ _ _ _).mono ?_; rintro e w' ⟨rfl, rfl⟩) | (go_at_call 32; refine (sTaskValid_any _ _ _ _ _ _).mono ?_; rintro e w' ⟨rfl, rfl⟩))
      go_ret
      exact ⟨rfl, by repeat (first | exact hb1.out | refine Below.drew ?_ | refine bl_alloc ?_ _ | refine bl_set ?_ (by dsimp only; omega) _)⟩
    · have he' : (ev == 20) = false := by simpa using he
      obtain ⟨k1, k2, k3⟩ := valid_more hv he
      go_wp2_with (first | (go_at_call 31; refine (iTaskValid_any _ _ _ _ _ _).mono ?_; rintro e w' ⟨rfl, rfl⟩) | (go_at_call 32; refine (sTaskValid_any _ _ _ _ _ _).mono ?_; rintro e w' ⟨rfl, rfl⟩))
      go_ret
      exact ⟨rfl, by repeat (first | exact hb1.out | refine Below.drew ?_ | refine bl_alloc ?_ _ | refine bl_set ?_ (by dsimp only; omega) _)⟩

theorem valid_crit {lo hi du ev : Int} {cr : Bool} (h : validB lo hi du ev cr = true) : validB lo hi du ev true = true ∧ validB lo hi du ev false = (lo == hi) := by
  simp [validB] at h ⊢
  obtain ⟨h1, h2, h3, h4, h5, h6⟩ := h
  refine ⟨⟨h1, h2, h3, h4, h5⟩, ?_⟩
  simp [*]

set_option maxHeartbeats 1000000 in
theorem fnTaskCritical_walk (w : World) (A : Option Addr) (n c : Nat) (f : Nat → Int) (h : Code w w.heap.size A n c f) :
    Calls Try.prog 7 #[.slice A n c] w (True_ w) := by
  have H := Lib.hid h
  have hle := h.le
  have hmax := h.max
  unfold maxLen at hmax
  clear h
  by_cases hn : 1048576 < n
  · go_enter Try.func7, Try.ntmps7
    go_wp2
    go_ret
    exact ⟨rfl, Below.refl _ _⟩
  go_enter Try.func7, Try.ntmps7
  go_wp2_with fail
  refine (drawTask_any _ A n c f H.out).mono ?_
  rintro e w1 ⟨lo, hi, du, ev, cr, rfl, hs, hb⟩
  have hb1 := Lib.hid hb
  clear hb hs
  have hsz : w.heap.size ≤ w1.heap.size := hb1.out.size
  cases hv : validB lo hi du ev cr
  · go_wp2_with (first | (go_at_call 31; refine (iTaskValid_any _ _ _ _ _ _).mono ?_; rintro e w' ⟨rfl, rfl⟩) | (go_at_call 32; refine (sTaskValid_any _ _ _ _ _ _).mono ?_; rintro e w' ⟨rfl, rfl⟩))
    go_ret
    exact ⟨rfl, by repeat (first | exact hb1.out | refine Below.drew ?_ | refine bl_alloc ?_ _ | refine bl_set ?_ (by dsimp only; omega) _)⟩
  · obtain ⟨k1, k2⟩ := valid_crit hv
    go_wp2_with (first | (go_at_call 31; refine (iTaskValid_any _ _ _ _ _ _).mono ?_; rintro e w' ⟨rfl, rfl⟩) | (go_at_call 32; refine (sTaskValid_any _ _ _ _ _ _).mono ?_; rintro e w' ⟨rfl, rfl⟩))
    go_region_held3 (fun W => W.cell? ⟨w1.heap.size, 0, none⟩ = some (.int .i64 lo) ∧ W.cell? ⟨w1.heap.size, 1, none⟩ = some (.int .i64 hi) ∧ W.cell? ⟨w1.heap.size + 1 + 1 + 1, 0, none⟩ = some (.int .i64 lo) ∧ W.cell? ⟨w1.heap.size + 1 + 1 + 1, 1, none⟩ = some (.int .i64 hi) ∧ W.cell? ⟨w1.heap.size + 1 + 1 + 1, 2, none⟩ = some (.int .i64 du) ∧ W.cell? ⟨w1.heap.size + 1 + 1 + 1, 3, none⟩ = some (.int .i64 ev) ∧ W.cell? ⟨w1.heap.size + 1 + 1 + 1, 4, none⟩ = some (.bool true) ∧ W.cell? ⟨w1.heap.size + 1 + 1 + 1 + 1, 0, none⟩ = some (.int .i64 lo) ∧ W.cell? ⟨w1.heap.size + 1 + 1 + 1 + 1, 1, none⟩ = some (.int .i64 hi) ∧ W.cell? ⟨w1.heap.size + 1 + 1 + 1 + 1, 2, none⟩ = some (.int .i64 du) ∧ W.cell? ⟨w1.heap.size + 1 + 1 + 1 + 1, 3, none⟩ = some (.int .i64 ev) ∧ W.cell? ⟨w1.heap.size + 1 + 1 + 1 + 1, 4, none⟩ = some (.bool false)) (simp [go_sem, World.cell?_alloc_past])
      ((go_at_call 31; refine (iTaskValid_any _ _ _ _ _ _).mono ?_; rintro e w' ⟨rfl, rfl⟩))
    go_wp2
    go_ret
    exact ⟨rfl, by repeat (first | exact hb1.out | refine Below.drew ?_ | refine bl_alloc ?_ _ | refine bl_set ?_ (by dsimp only; omega) _)⟩

end Go.Proofs.Ytnhffadebjibnaa
