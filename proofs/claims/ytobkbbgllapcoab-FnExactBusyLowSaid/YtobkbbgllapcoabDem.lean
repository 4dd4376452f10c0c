/- Contracts of demands, in the program and in the reference: what a task needs at most within a window. Nothing that was there is written. -/
import Derived.Test.YtobkbbgllapcoabRespT
import Derived.RegionTactic
namespace Go.Proofs.Ytobkbbgllapcoab
open Go.RowKit
set_option linter.unusedVariables false

theorem dem_cast {n z j : Nat} (hz : 1 ≤ z) (hj : (n + z - 1) / z = j) : 0 ≤ (n : Int) + (z : Int) - 1 ∧ Int.tdiv ((n : Int) + (z : Int) - 1) (z : Int) = (j : Int) ∧ ((n : Int) + (z : Int) - 1) / (z : Int) = (j : Int) := by
  have h0 : 0 ≤ (n : Int) + (z : Int) - 1 := by omega
  have h1 : ((n : Int) + (z : Int) - 1) / (z : Int) = (j : Int) := by
    have : (n : Int) + (z : Int) - 1 = ((n + z - 1 : Nat) : Int) := by omega
    rw [this, ← hj]; simp
  exact ⟨h0, by rw [Int.tdiv_eq_ediv_of_nonneg h0]; exact h1, h1⟩

theorem needT_ex (w : World) (lo hi du ev : Int) (cr b : Bool) :
    Calls Try.prog 84 #[.agg #[.int .i64 lo, .int .i64 hi, .int .i64 du, .int .i64 ev, .bool cr], .bool b] w fun e w' => e = .returned (.int .i64 (if b then hi else lo)) ∧ w.alloc (.cells #[.int .i64 lo, .int .i64 hi, .int .i64 du, .int .i64 ev, .bool cr] 32) = w' := by
  cases b <;>
  · go_enter Try.func84, Try.ntmps84
    go_wp2
    go_ret
    exact ⟨rfl, rfl⟩
set_option maxHeartbeats 1000000 in
theorem iDemand_is (w : World) (lo hi du ev : Int) (cr : Bool) (n : Nat) (hb : Bool) (m : Nat) (hv : validB lo hi du ev cr = true) (hn : n ≤ 100000000) (hm : dmd ⟨lo, hi, du, ev, cr⟩ n hb = m) :
    Calls Try.prog 61 #[.agg #[.int .i64 lo, .int .i64 hi, .int .i64 du, .int .i64 ev, .bool cr], .int .i64 (n : Int), .bool hb] w fun e w' =>
      e = .returned (.int .i64 (m : Int)) ∧ (w.alloc (.cells #[.int .i64 lo, .int .i64 hi, .int .i64 du, .int .i64 ev, .bool cr] 32)).alloc (.cells #[.int .i64 lo, .int .i64 hi, .int .i64 du, .int .i64 ev, .bool cr] 32) = w' := by
  obtain ⟨h1, h2, h3, h4, h5, _⟩ := ok_parts (t := ⟨lo, hi, du, ev, cr⟩) hv
  dsimp only at h1 h2 h3 h4 h5
  obtain ⟨a, rfl⟩ := Int.eq_ofNat_of_zero_le (show 0 ≤ lo by omega)
  obtain ⟨b, rfl⟩ := Int.eq_ofNat_of_zero_le (show 0 ≤ hi by omega)
  obtain ⟨z, rfl⟩ := Int.eq_ofNat_of_zero_le (show 0 ≤ ev by omega)
  obtain ⟨j, hj⟩ : ∃ j, (n + z - 1) / z = j := ⟨_, rfl⟩
  have hjn : j ≤ n + 20 := by rw [← hj]; exact Nat.le_trans (Nat.div_le_self _ _) (by omega)
  obtain ⟨q1, q2, q3⟩ := dem_cast (n := n) (z := z) (by omega) hj
  have hjp : 0 ≤ (j : Int) := by omega
  cases hb
  · have hm' : j * a = m := by rw [← hm, ← hj]; rfl
    have hA : (a : Int) * (j : Int) = (m : Int) := by rw [← hm', Int.natCast_mul, Int.mul_comm]
    have hA' : (j : Int) * (a : Int) = (m : Int) := by rw [← hm', Int.natCast_mul]
    have hmb : m ≤ 20 * (n + 20) := by rw [← hm', Nat.mul_comm]; exact Nat.mul_le_mul (by omega) hjn
    clear hm hm' hj hv
    have HNX := Lib.hid (fun W : World => needT_ex W (a : Int) (b : Int) du (z : Int) cr false)
    have cT := (Blk.new w 32 #[.int .i64 (a : Int), .int .i64 (b : Int), .int .i64 du, .int .i64 (z : Int), .bool cr]).cell
    go_enter Try.func61, Try.ntmps61
    go_wp2_with fail
    refine (HNX.out _).mono ?_
    rintro e w' ⟨rfl, rfl⟩
    go_wp2
    go_ret
    exact ⟨by simp [*], by simp [*]⟩
  · have hm' : j * b = m := by rw [← hm, ← hj]; rfl
    have hA : (b : Int) * (j : Int) = (m : Int) := by rw [← hm', Int.natCast_mul, Int.mul_comm]
    have hA' : (j : Int) * (b : Int) = (m : Int) := by rw [← hm', Int.natCast_mul]
    have hmb : m ≤ 20 * (n + 20) := by rw [← hm', Nat.mul_comm]; exact Nat.mul_le_mul (by omega) hjn
    clear hm hm' hj hv
    have HNX := Lib.hid (fun W : World => needT_ex W (a : Int) (b : Int) du (z : Int) cr true)
    have cT := (Blk.new w 32 #[.int .i64 (a : Int), .int .i64 (b : Int), .int .i64 du, .int .i64 (z : Int), .bool cr]).cell
    go_enter Try.func61, Try.ntmps61
    go_wp2_with fail
    refine (HNX.out _).mono ?_
    rintro e w' ⟨rfl, rfl⟩
    go_wp2
    go_ret
    exact ⟨by simp [*], by simp [*]⟩

set_option maxHeartbeats 1000000 in
theorem sDemand_is (w : World) (lo hi du ev : Int) (cr : Bool) (n : Nat) (hb : Bool) (m : Nat) (hv : validB lo hi du ev cr = true) (hn : n ≤ 100000000) (hm : dmd ⟨lo, hi, du, ev, cr⟩ n hb = m) :
    Calls Try.prog 59 #[.agg #[.int .i64 lo, .int .i64 hi, .int .i64 du, .int .i64 ev, .bool cr], .int .i64 (n : Int), .bool hb] w fun e w' =>
      e = .returned (.int .i64 (m : Int)) ∧ w.alloc (.cells #[.int .i64 lo, .int .i64 hi, .int .i64 du, .int .i64 ev, .bool cr] 32) = w' := by
  obtain ⟨h1, h2, h3, h4, h5, _⟩ := ok_parts (t := ⟨lo, hi, du, ev, cr⟩) hv
  dsimp only at h1 h2 h3 h4 h5
  obtain ⟨a, rfl⟩ := Int.eq_ofNat_of_zero_le (show 0 ≤ lo by omega)
  obtain ⟨b, rfl⟩ := Int.eq_ofNat_of_zero_le (show 0 ≤ hi by omega)
  obtain ⟨z, rfl⟩ := Int.eq_ofNat_of_zero_le (show 0 ≤ ev by omega)
  obtain ⟨j, hj⟩ : ∃ j, (n + z - 1) / z = j := ⟨_, rfl⟩
  have hjn : j ≤ n + 20 := by rw [← hj]; exact Nat.le_trans (Nat.div_le_self _ _) (by omega)
  obtain ⟨q1, q2, q3⟩ := dem_cast (n := n) (z := z) (by omega) hj
  have hjp : 0 ≤ (j : Int) := by omega
  cases hb
  · have hm' : j * a = m := by rw [← hm, ← hj]; rfl
    have hA : (a : Int) * (j : Int) = (m : Int) := by rw [← hm', Int.natCast_mul, Int.mul_comm]
    have hA' : (j : Int) * (a : Int) = (m : Int) := by rw [← hm', Int.natCast_mul]
    have hmb : m ≤ 20 * (n + 20) := by rw [← hm', Nat.mul_comm]; exact Nat.mul_le_mul (by omega) hjn
    clear hm hm' hj hv
    go_enter Try.func59, Try.ntmps59
    go_wp2
    go_ret
    exact ⟨by simp [*], by simp [*]⟩
  · have hm' : j * b = m := by rw [← hm, ← hj]; rfl
    have hA : (b : Int) * (j : Int) = (m : Int) := by rw [← hm', Int.natCast_mul, Int.mul_comm]
    have hA' : (j : Int) * (b : Int) = (m : Int) := by rw [← hm', Int.natCast_mul]
    have hmb : m ≤ 20 * (n + 20) := by rw [← hm', Nat.mul_comm]; exact Nat.mul_le_mul (by omega) hjn
    clear hm hm' hj hv
    go_enter Try.func59, Try.ntmps59
    go_wp2
    go_ret
    exact ⟨by simp [*], by simp [*]⟩

/-- What the demand of a task is, and whether there is one. -/
def dmOf (t : Tk) (win : Int) (hb : Bool) : Nat × Bool := if t.ok && (decide (0 ≤ win) && decide (win ≤ 1000000)) then (dmd t win.toNat hb, true) else (0, false)

set_option maxHeartbeats 1000000 in
theorem iDemandOf_is (w : World) (lo hi du ev : Int) (cr : Bool) (win : Int) (hb : Bool) (m : Nat) (b : Bool) (hm : dmOf ⟨lo, hi, du, ev, cr⟩ win hb = (m, b)) :
    Calls Try.prog 28 #[.agg #[.int .i64 lo, .int .i64 hi, .int .i64 du, .int .i64 ev, .bool cr], .int .i64 win, .bool hb] w fun e w' =>
      e = .returned (.tuple #[.int .i64 (m : Int), .bool b]) ∧ Below w.heap.size w w' := by
  cases hv : validB lo hi du ev cr
  · have hr : dmOf ⟨lo, hi, du, ev, cr⟩ win hb = (0, false) := by unfold dmOf Tk.ok; rw [hv]; rfl
    obtain ⟨rfl, rfl⟩ := Prod.mk.inj (hr.symm.trans hm)
    clear hm hr
    go_enter Try.func28, Try.ntmps28
    go_wp2_with (go_at_call 53; refine (iTaskValid_any _ _ _ _ _ _).mono ?_; rintro e w1 ⟨rfl, rfl⟩)
    go_ret2
    exact ⟨rfl, by repeat (first | exact Below.refl _ _ | refine bl_alloc ?_ _)⟩
  by_cases h0 : win < 0
  · have hr : dmOf ⟨lo, hi, du, ev, cr⟩ win hb = (0, false) := by unfold dmOf; rw [decide_eq_false (show ¬ 0 ≤ win by omega)]; simp
    obtain ⟨rfl, rfl⟩ := Prod.mk.inj (hr.symm.trans hm)
    clear hm hr
    go_enter Try.func28, Try.ntmps28
    go_wp2_with (go_at_call 53; refine (iTaskValid_any _ _ _ _ _ _).mono ?_; rintro e w1 ⟨rfl, rfl⟩)
    go_ret2
    exact ⟨rfl, by repeat (first | exact Below.refl _ _ | refine bl_alloc ?_ _)⟩
  by_cases h1 : 1000000 < win
  · have hr : dmOf ⟨lo, hi, du, ev, cr⟩ win hb = (0, false) := by unfold dmOf; rw [decide_eq_false (show ¬ win ≤ 1000000 by omega)]; simp
    obtain ⟨rfl, rfl⟩ := Prod.mk.inj (hr.symm.trans hm)
    clear hm hr
    go_enter Try.func28, Try.ntmps28
    go_wp2_with (go_at_call 53; refine (iTaskValid_any _ _ _ _ _ _).mono ?_; rintro e w1 ⟨rfl, rfl⟩)
    go_ret2
    exact ⟨rfl, by repeat (first | exact Below.refl _ _ | refine bl_alloc ?_ _)⟩
  obtain ⟨n, rfl⟩ := Int.eq_ofNat_of_zero_le (show 0 ≤ win by omega)
  have hr : dmOf ⟨lo, hi, du, ev, cr⟩ (n : Int) hb = (dmd ⟨lo, hi, du, ev, cr⟩ n hb, true) := by
    unfold dmOf Tk.ok; rw [hv, decide_eq_true (show (0 : Int) ≤ n by omega), decide_eq_true (show (n : Int) ≤ 1000000 by omega)]; rfl
  obtain ⟨hm', rfl⟩ := Prod.mk.inj (hr.symm.trans hm)
  have HM := Lib.hid hm'
  have HV := Lib.hid hv
  clear hm hr hm'
  go_enter Try.func28, Try.ntmps28
  go_wp2_with (first | (go_at_call 53; refine (iTaskValid_any _ _ _ _ _ _).mono ?_; rintro e w1 ⟨rfl, rfl⟩) | (go_at_call 61; refine (iDemand_is _ _ _ _ _ _ _ _ m HV.out (by omega) HM.out).mono ?_; rintro e w2 ⟨rfl, rfl⟩))
  go_ret2
  exact ⟨rfl, by repeat (first | exact Below.refl _ _ | refine bl_alloc ?_ _)⟩

set_option maxHeartbeats 1000000 in
theorem sDemandOf_is (w : World) (lo hi du ev : Int) (cr : Bool) (win : Int) (hb : Bool) (m : Nat) (b : Bool) (hm : dmOf ⟨lo, hi, du, ev, cr⟩ win hb = (m, b)) :
    Calls Try.prog 26 #[.agg #[.int .i64 lo, .int .i64 hi, .int .i64 du, .int .i64 ev, .bool cr], .int .i64 win, .bool hb] w fun e w' =>
      e = .returned (.tuple #[.int .i64 (m : Int), .bool b]) ∧ Below w.heap.size w w' := by
  cases hv : validB lo hi du ev cr
  · have hr : dmOf ⟨lo, hi, du, ev, cr⟩ win hb = (0, false) := by unfold dmOf Tk.ok; rw [hv]; rfl
    obtain ⟨rfl, rfl⟩ := Prod.mk.inj (hr.symm.trans hm)
    clear hm hr
    go_enter Try.func26, Try.ntmps26
    go_wp2_with (go_at_call 60; refine (sTaskValid_any _ _ _ _ _ _).mono ?_; rintro e w1 ⟨rfl, rfl⟩)
    go_ret2
    exact ⟨rfl, by repeat (first | exact Below.refl _ _ | refine bl_alloc ?_ _)⟩
  by_cases h0 : win < 0
  · have hr : dmOf ⟨lo, hi, du, ev, cr⟩ win hb = (0, false) := by unfold dmOf; rw [decide_eq_false (show ¬ 0 ≤ win by omega)]; simp
    obtain ⟨rfl, rfl⟩ := Prod.mk.inj (hr.symm.trans hm)
    clear hm hr
    go_enter Try.func26, Try.ntmps26
    go_wp2_with (go_at_call 60; refine (sTaskValid_any _ _ _ _ _ _).mono ?_; rintro e w1 ⟨rfl, rfl⟩)
    go_ret2
    exact ⟨rfl, by repeat (first | exact Below.refl _ _ | refine bl_alloc ?_ _)⟩
  by_cases h1 : 1000000 < win
  · have hr : dmOf ⟨lo, hi, du, ev, cr⟩ win hb = (0, false) := by unfold dmOf; rw [decide_eq_false (show ¬ win ≤ 1000000 by omega)]; simp
    obtain ⟨rfl, rfl⟩ := Prod.mk.inj (hr.symm.trans hm)
    clear hm hr
    go_enter Try.func26, Try.ntmps26
    go_wp2_with (go_at_call 60; refine (sTaskValid_any _ _ _ _ _ _).mono ?_; rintro e w1 ⟨rfl, rfl⟩)
    go_ret2
    exact ⟨rfl, by repeat (first | exact Below.refl _ _ | refine bl_alloc ?_ _)⟩
  obtain ⟨n, rfl⟩ := Int.eq_ofNat_of_zero_le (show 0 ≤ win by omega)
  have hr : dmOf ⟨lo, hi, du, ev, cr⟩ (n : Int) hb = (dmd ⟨lo, hi, du, ev, cr⟩ n hb, true) := by
    unfold dmOf Tk.ok; rw [hv, decide_eq_true (show (0 : Int) ≤ n by omega), decide_eq_true (show (n : Int) ≤ 1000000 by omega)]; rfl
  obtain ⟨hm', rfl⟩ := Prod.mk.inj (hr.symm.trans hm)
  have HM := Lib.hid hm'
  have HV := Lib.hid hv
  clear hm hr hm'
  go_enter Try.func26, Try.ntmps26
  go_wp2_with (first | (go_at_call 60; refine (sTaskValid_any _ _ _ _ _ _).mono ?_; rintro e w1 ⟨rfl, rfl⟩) | (go_at_call 59; refine (sDemand_is _ _ _ _ _ _ _ _ m HV.out (by omega) HM.out).mono ?_; rintro e w2 ⟨rfl, rfl⟩))
  go_ret2
  exact ⟨rfl, by repeat (first | exact Below.refl _ _ | refine bl_alloc ?_ _)⟩

end Go.Proofs.Ytobkbbgllapcoab
