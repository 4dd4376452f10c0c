import Derived.Test.YtgponahmkjohiabGreatDoorT2PmA
import Derived.Test.YtgponahmkjohiabGreatDoorT2NE
namespace Go.Proofs.YtgponahmkjohiabGreatDoor
open Go.RowKit
set_option linter.unusedVariables false
theorem m_drL : ∀ w : World, (method 340 124 (.agg #[]) "loop.example/dualmodes/impl.drops").run Tryz.prog w = .ok (187, .agg #[]) w := fun _ => by kernel_rfl
theorem m_drH : ∀ w : World, (method 340 162 (.agg #[]) "loop.example/dualmodes/impl.drops").run Tryz.prog w = .ok (191, .agg #[]) w := fun _ => by kernel_rfl
theorem m_exL : ∀ w : World, (method 340 124 (.agg #[]) "loop.example/dualmodes/impl.exceeded").run Tryz.prog w = .ok (189, .agg #[]) w := fun _ => by kernel_rfl
theorem m_exH : ∀ w : World, (method 340 162 (.agg #[]) "loop.example/dualmodes/impl.exceeded").run Tryz.prog w = .ok (193, .agg #[]) w := fun _ => by kernel_rfl
theorem m_duL : ∀ w : World, (method 340 124 (.agg #[]) "loop.example/dualmodes/impl.dueAfter").run Tryz.prog w = .ok (188, .agg #[]) w := fun _ => by kernel_rfl
theorem m_duH : ∀ w : World, (method 340 162 (.agg #[]) "loop.example/dualmodes/impl.dueAfter").run Tryz.prog w = .ok (192, .agg #[]) w := fun _ => by kernel_rfl
theorem m_hiL : ∀ w : World, (method 340 124 (.agg #[]) "loop.example/dualmodes/impl.high").run Tryz.prog w = .ok (190, .agg #[]) w := fun _ => by kernel_rfl
theorem m_hiH : ∀ w : World, (method 340 162 (.agg #[]) "loop.example/dualmodes/impl.high").run Tryz.prog w = .ok (194, .agg #[]) w := fun _ => by kernel_rfl
def tkV (t : Tk) : Value := .agg #[.int .i64 t.lo, .int .i64 t.hi, .int .i64 t.du, .int .i64 t.ev, .bool t.cr]
theorem hiL_is (w : World) : Calls Tryz.prog 190 #[.agg #[]] w (BRes false w) := by
  go_enter Tryz.func190, Tryz.ntmps190
  go_wp2
  go_ret
  exact ⟨rfl, (by repeat (first | exact Below.refl _ _ | refine bl_alloc ?_ _))⟩
theorem hiH_is (w : World) : Calls Tryz.prog 194 #[.agg #[]] w (BRes true w) := by
  go_enter Tryz.func194, Tryz.ntmps194
  go_wp2
  go_ret
  exact ⟨rfl, (by repeat (first | exact Below.refl _ _ | refine bl_alloc ?_ _))⟩
theorem drL_is (w : World) (t : Tk) : Calls Tryz.prog 187 #[.agg #[], tkV t] w (BRes false w) := by
  unfold tkV
  go_enter Tryz.func187, Tryz.ntmps187
  go_wp2
  go_ret
  exact ⟨rfl, (by repeat (first | exact Below.refl _ _ | refine bl_alloc ?_ _))⟩
theorem drH_is (w : World) (t : Tk) (b : Bool) (hb : (!t.cr) = b) : Calls Tryz.prog 191 #[.agg #[], tkV t] w (BRes b w) := by
  unfold tkV
  obtain ⟨lo, hi, du, ev, cr⟩ := t
  subst hb
  cases cr
  all_goals (
    go_enter Tryz.func191, Tryz.ntmps191
    go_wp2
    go_ret
    exact ⟨rfl, (by repeat (first | exact Below.refl _ _ | refine bl_alloc ?_ _))⟩)
theorem exH_is (w : World) (t : Tk) (d : Int) : Calls Tryz.prog 193 #[.agg #[], tkV t, .int .i64 d] w (BRes false w) := by
  unfold tkV
  go_enter Tryz.func193, Tryz.ntmps193
  go_wp2
  go_ret
  exact ⟨rfl, (by repeat (first | exact Below.refl _ _ | refine bl_alloc ?_ _))⟩
theorem exL_is (w : World) (t : Tk) (d : Int) (b : Bool) (hb : (t.cr && decide (d = t.lo)) = b) : Calls Tryz.prog 189 #[.agg #[], tkV t, .int .i64 d] w (BRes b w) := by
  unfold tkV
  obtain ⟨lo, hi, du, ev, cr⟩ := t
  dsimp only at hb ⊢
  cases cr
  · obtain rfl : b = false := by rw [← hb]; rfl
    clear hb
    go_enter Tryz.func189, Tryz.ntmps189
    go_wp2
    go_ret
    exact ⟨rfl, (by repeat (first | exact Below.refl _ _ | refine bl_alloc ?_ _))⟩
  · rw [Bool.true_and] at hb
    by_cases hd : d = lo
    · obtain rfl : b = true := by rw [← hb]; exact decide_eq_true hd
      subst hd
      clear hb
      have t1 : (d == d) = true := beq_self_eq_true d
      go_enter Tryz.func189, Tryz.ntmps189
      go_wp2
      go_ret
      exact ⟨rfl, (by repeat (first | exact Below.refl _ _ | refine bl_alloc ?_ _))⟩
    · obtain rfl : b = false := by rw [← hb]; exact decide_eq_false hd
      have t1 : (d == lo) = false := by rw [beq_eq_false_iff_ne]; exact hd
      have t2 : decide (d = lo) = false := decide_eq_false hd
      have HD := Lib.hid hd
      clear hb hd
      go_enter Tryz.func189, Tryz.ntmps189
      go_wp2
      go_ret
      exact ⟨rfl, (by repeat (first | exact Below.refl _ _ | refine bl_alloc ?_ _))⟩
def duB (hi : Bool) (t : Tk) (xn xd : Int) : Int := if t.cr && !hi then t.du * xn else t.du * xd
theorem duH_is (w : World) (t : Tk) (xn xd : Int) (h0 : 0 ≤ t.du) (h1 : t.du ≤ 20) (x0 : 0 ≤ xd) (x1 : xd ≤ 1000000000) : Calls Tryz.prog 192 #[.agg #[], tkV t, .agg #[.int .i64 xn, .int .i64 xd]] w fun e w' => e = .returned (.int .i64 (duB true t xn xd)) ∧ Below w.heap.size w w' := by
  unfold tkV
  obtain ⟨lo, hi, du, ev, cr⟩ := t
  dsimp only at h0 h1
  have hb : 0 ≤ du * xd ∧ du * xd ≤ 20 * 1000000000 := ⟨Int.mul_nonneg h0 x0, Int.mul_le_mul h1 x1 x0 (by omega)⟩
  have hw : IntKind.i64.wrap (du * xd) = du * xd := IntWalk.i64_in _ (by omega)
  have e : duB true ⟨lo, hi, du, ev, cr⟩ xn xd = du * xd := by unfold duB; simp
  have HE := Lib.hid e
  clear e hb
  go_enter Tryz.func192, Tryz.ntmps192
  go_wp2
  go_ret
  exact ⟨by rw [HE.out]; rfl, (by repeat (first | exact Below.refl _ _ | refine bl_alloc ?_ _))⟩
theorem duL_is (w : World) (t : Tk) (xn xd : Int) (h0 : 0 ≤ t.du) (h1 : t.du ≤ 20) (y0 : 0 ≤ xn) (y1 : xn ≤ 1000000000) (x0 : 0 ≤ xd) (x1 : xd ≤ 1000000000) : Calls Tryz.prog 188 #[.agg #[], tkV t, .agg #[.int .i64 xn, .int .i64 xd]] w fun e w' => e = .returned (.int .i64 (duB false t xn xd)) ∧ Below w.heap.size w w' := by
  unfold tkV
  obtain ⟨lo, hi, du, ev, cr⟩ := t
  dsimp only at h0 h1
  have hb : 0 ≤ du * xd ∧ du * xd ≤ 20 * 1000000000 := ⟨Int.mul_nonneg h0 x0, Int.mul_le_mul h1 x1 x0 (by omega)⟩
  have hb2 : 0 ≤ du * xn ∧ du * xn ≤ 20 * 1000000000 := ⟨Int.mul_nonneg h0 y0, Int.mul_le_mul h1 y1 y0 (by omega)⟩
  have hw : IntKind.i64.wrap (du * xd) = du * xd := IntWalk.i64_in _ (by omega)
  have hw2 : IntKind.i64.wrap (du * xn) = du * xn := IntWalk.i64_in _ (by omega)
  cases cr
  · have HE := Lib.hid (show duB false ⟨lo, hi, du, ev, false⟩ xn xd = du * xd from rfl)
    clear hb hb2
    go_enter Tryz.func188, Tryz.ntmps188
    go_wp2
    go_ret
    exact ⟨by rw [HE.out]; rfl, (by repeat (first | exact Below.refl _ _ | refine bl_alloc ?_ _))⟩
  · have HE := Lib.hid (show duB false ⟨lo, hi, du, ev, true⟩ xn xd = du * xn from rfl)
    clear hb hb2
    go_enter Tryz.func188, Tryz.ntmps188
    go_wp2
    go_ret
    exact ⟨by rw [HE.out]; rfl, (by repeat (first | exact Below.refl _ _ | refine bl_alloc ?_ _))⟩
end Go.Proofs.YtgponahmkjohiabGreatDoor
