/- Contracts of demands, in the program and in the reference: what a task needs at most within a window. Nothing that was there is written. -/
import Derived.Test.YtncgchlnaobalabDoorRespT
import Derived.RegionTactic
namespace Go.Proofs.YtncgchlnaobalabDoor
open Go.RowKit
set_option linter.unusedVariables false

theorem dem_cast {n z j : Nat} (hz : 1 ≤ z) (hj : (n + z - 1) / z = j) : 0 ≤ (n : Int) + (z : Int) - 1 ∧ Int.tdiv ((n : Int) + (z : Int) - 1) (z : Int) = (j : Int) ∧ ((n : Int) + (z : Int) - 1) / (z : Int) = (j : Int) := by
  have h0 : 0 ≤ (n : Int) + (z : Int) - 1 := by omega
  have h1 : ((n : Int) + (z : Int) - 1) / (z : Int) = (j : Int) := by
    have : (n : Int) + (z : Int) - 1 = ((n + z - 1 : Nat) : Int) := by omega
    rw [this, ← hj]; simp
  exact ⟨h0, by rw [Int.tdiv_eq_ediv_of_nonneg h0]; exact h1, h1⟩

set_option maxHeartbeats 1000000 in
theorem iDemand_is (w : World) (lo hi du ev : Int) (cr : Bool) (n : Nat) (hb : Bool) (m : Nat) (hv : validB lo hi du ev cr = true) (hn : n ≤ 100000000) (hm : dmd ⟨lo, hi, du, ev, cr⟩ n hb = m) :
    Calls Tryd.prog 48 #[.agg #[.int .i64 lo, .int .i64 hi, .int .i64 du, .int .i64 ev, .bool cr], .int .i64 (n : Int), .bool hb] w fun e w' =>
      e = .returned (.int .i64 (m : Int)) ∧ w.alloc (.cells #[.int .i64 lo, .int .i64 hi, .int .i64 du, .int .i64 ev, .bool cr] 48) = w' := by
  obtain ⟨h1, h2, h3, h4, h5, _⟩ := ok_parts (t := ⟨lo, hi, du, ev, cr⟩) hv
  dsimp only at h1 h2 h3 h4 h5
  obtain ⟨a, rfl⟩ := Int.eq_ofNat_of_zero_le (show 0 ≤ lo by omega)
  obtain ⟨b, rfl⟩ := Int.eq_ofNat_of_zero_le (show 0 ≤ hi by omega)
  obtain ⟨z, rfl⟩ := Int.eq_ofNat_of_zero_le (show 0 ≤ ev by omega)
  obtain ⟨j, hj⟩ : ∃ j, (n + z - 1) / z = j := ⟨_, rfl⟩
  have hjn : j ≤ n + 20 := by rw [← hj]; exact Nat.le_trans (Nat.div_le_self _ _) (by omega)
  obtain ⟨q1, q2, q3⟩ := dem_cast (n := n) (z := z) (by omega) hj
  have hjp : 0 ≤ (j : Int) := by omega
  cases hb
  · have hm' : j * a = m := by rw [← hm, ← hj]; rfl
    have hA : (a : Int) * (j : Int) = (m : Int) := by rw [← hm', Int.natCast_mul, Int.mul_comm]
    have hA' : (j : Int) * (a : Int) = (m : Int) := by rw [← hm', Int.natCast_mul]
    have hmb : m ≤ 20 * (n + 20) := by rw [← hm', Nat.mul_comm]; exact Nat.mul_le_mul (by omega) hjn
    clear hm hm' hj hv
    go_enter Tryd.func48, Tryd.ntmps48
    go_wp2
    go_ret
    exact ⟨by simp [*], by simp [*]⟩
  · have hm' : j * b = m := by rw [← hm, ← hj]; rfl
    have hA : (b : Int) * (j : Int) = (m : Int) := by rw [← hm', Int.natCast_mul, Int.mul_comm]
    have hA' : (j : Int) * (b : Int) = (m : Int) := by rw [← hm', Int.natCast_mul]
    have hmb : m ≤ 20 * (n + 20) := by rw [← hm', Nat.mul_comm]; exact Nat.mul_le_mul (by omega) hjn
    clear hm hm' hj hv
    go_enter Tryd.func48, Tryd.ntmps48
    go_wp2
    go_ret
    exact ⟨by simp [*], by simp [*]⟩

set_option maxHeartbeats 1000000 in
theorem sDemand_is (w : World) (lo hi du ev : Int) (cr : Bool) (n : Nat) (hb : Bool) (m : Nat) (hv : validB lo hi du ev cr = true) (hn : n ≤ 100000000) (hm : dmd ⟨lo, hi, du, ev, cr⟩ n hb = m) :
    Calls Tryd.prog 30 #[.agg #[.int .i64 lo, .int .i64 hi, .int .i64 du, .int .i64 ev, .bool cr], .int .i64 (n : Int), .bool hb] w fun e w' =>
      e = .returned (.int .i64 (m : Int)) ∧ w.alloc (.cells #[.int .i64 lo, .int .i64 hi, .int .i64 du, .int .i64 ev, .bool cr] 48) = w' := by
  obtain ⟨h1, h2, h3, h4, h5, _⟩ := ok_parts (t := ⟨lo, hi, du, ev, cr⟩) hv
  dsimp only at h1 h2 h3 h4 h5
  obtain ⟨a, rfl⟩ := Int.eq_ofNat_of_zero_le (show 0 ≤ lo by omega)
  obtain ⟨b, rfl⟩ := Int.eq_ofNat_of_zero_le (show 0 ≤ hi by omega)
  obtain ⟨z, rfl⟩ := Int.eq_ofNat_of_zero_le (show 0 ≤ ev by omega)
  obtain ⟨j, hj⟩ : ∃ j, (n + z - 1) / z = j := ⟨_, rfl⟩
  have hjn : j ≤ n + 20 := by rw [← hj]; exact Nat.le_trans (Nat.div_le_self _ _) (by omega)
  obtain ⟨q1, q2, q3⟩ := dem_cast (n := n) (z := z) (by omega) hj
  have hjp : 0 ≤ (j : Int) := by omega
  cases hb
  · have hm' : j * a = m := by rw [← hm, ← hj]; rfl
    have hA : (a : Int) * (j : Int) = (m : Int) := by rw [← hm', Int.natCast_mul, Int.mul_comm]
    have hA' : (j : Int) * (a : Int) = (m : Int) := by rw [← hm', Int.natCast_mul]
    have hmb : m ≤ 20 * (n + 20) := by rw [← hm', Nat.mul_comm]; exact Nat.mul_le_mul (by omega) hjn
    clear hm hm' hj hv
    go_enter Tryd.func30, Tryd.ntmps30
    go_wp2
    go_ret
    exact ⟨by simp [*], by simp [*]⟩
  · have hm' : j * b = m := by rw [← hm, ← hj]; rfl
    have hA : (b : Int) * (j : Int) = (m : Int) := by rw [← hm', Int.natCast_mul, Int.mul_comm]
    have hA' : (j : Int) * (b : Int) = (m : Int) := by rw [← hm', Int.natCast_mul]
    have hmb : m ≤ 20 * (n + 20) := by rw [← hm', Nat.mul_comm]; exact Nat.mul_le_mul (by omega) hjn
    clear hm hm' hj hv
    go_enter Tryd.func30, Tryd.ntmps30
    go_wp2
    go_ret
    exact ⟨by simp [*], by simp [*]⟩

/-- What the demand of a task is, and whether there is one. -/
def dmOf (t : Tk) (win : Int) (hb : Bool) : Nat × Bool := if t.ok && (decide (0 ≤ win) && decide (win ≤ 1000000)) then (dmd t win.toNat hb, true) else (0, false)

end Go.Proofs.YtncgchlnaobalabDoor
