/- Contracts of the greatest common divisors, in the program (64 bits) and in the reference, for numbers of 62 bits. -/
import Derived.Test.YtncgchlnaobalabDoorNum
import Derived.Test.YtncgchlnaobalabDoorKit
import Derived.LoopTactic
import Derived.Deep.QuietTactic
import Derived.BigQuiet
namespace Go.Proofs.YtncgchlnaobalabDoor
open Go.RowKit

def GcdOf (a b : Nat) (w : World) (e : Ending) (w' : World) : Prop := e = .returned (.int .i64 (Nat.gcd a b)) ∧ Below w.heap.size w w'

set_option maxHeartbeats 1000000 in
theorem iGcd_big (w : World) (a b : Nat) (ha : a ≤ 4611686018427387904) (hb : b ≤ 4611686018427387904) :
    Calls Tryd.prog 43 #[.int .i64 a, .int .i64 b] w (GcdOf a b w) := by
  go_enter Tryd.func43, Tryd.ntmps43
  go_wp2
  go_loopw [0, 1] (fun u v wr => ∃ x y : Nat, x ≤ 4611686018427387904 ∧ y ≤ 4611686018427387904 ∧ u = .int .i64 x ∧ v = .int .i64 y ∧ Hid (Nat.gcd x y = Nat.gcd a b) ∧ Below w.heap.size w wr) (fun _ v _ => (intOf v).toNat)
  case atStart => exact ⟨a, b, ha, hb, rfl, rfl, by show _ = _; rfl, Below.refl _ _⟩
  case round =>
    obtain ⟨x, y, hx, hy, rfl, rfl, hg, hbl⟩ := hrel
    have HB := Lib.hid hbl
    clear hbl
    by_cases h0 : y = 0
    · subst h0
      go_wp2
      go_ret
      exact ⟨by have h := hg.out; rw [Nat.gcd_zero_right] at h; rw [← h]; rfl, HB.out⟩
    · have h0' : ((y : Int) != 0) = true := by simp; omega
      have h1 : 1 ≤ y := by omega
      have hm : x % y < y := Nat.mod_lt _ (by omega)
      have HG : Hid (Nat.gcd y (x % y) = Nat.gcd a b) := by show _ = _; rw [← hg.out, Nat.gcd_comm y, ← Nat.gcd_rec, Nat.gcd_comm]
      clear h0
      go_wp2
      go_quiet (fail)
      go_wp2
      go_roundw
      case rel => exact ⟨y, x % y, hy, by omega, rfl, by go_num, HG, bl_drewN HB.out _⟩
      case measure => simp [intOf]; omega

set_option maxHeartbeats 1000000 in
theorem sGcd_big (w : World) (a b : Nat) (ha : a ≤ 4611686018427387904) (hb : b ≤ 4611686018427387904) :
    Calls Tryd.prog 49 #[.int .i64 a, .int .i64 b] w fun e w' => e = .returned (.int .i64 (Nat.gcd a b)) ∧ w' = w := by
  go_enter Tryd.func49, Tryd.ntmps49
  go_wp2
  go_loop [0, 1] (fun u v => ∃ x y : Nat, x ≤ 4611686018427387904 ∧ y ≤ 4611686018427387904 ∧ u = .int .i64 x ∧ v = .int .i64 y ∧ Hid (Nat.gcd x y = Nat.gcd a b)) (fun _ v => (intOf v).toNat)
  case atStart => exact ⟨a, b, ha, hb, rfl, rfl, by show _ = _; rfl⟩
  case round =>
    obtain ⟨x, y, hx, hy, rfl, rfl, hg⟩ := hrel
    by_cases h0 : y = 0
    · subst h0
      go_wp2
      go_ret
      exact ⟨by have h := hg.out; rw [Nat.gcd_zero_right] at h; rw [← h]; rfl, rfl⟩
    · have h0' : ((y : Int) != 0) = true := by simp; omega
      have h1 : 1 ≤ y := by omega
      have hm : x % y < y := Nat.mod_lt _ (by omega)
      have HG : Hid (Nat.gcd y (x % y) = Nat.gcd a b) := by show _ = _; rw [← hg.out, Nat.gcd_comm y, ← Nat.gcd_rec, Nat.gcd_comm]
      clear h0
      go_wp2
      go_round
      case rel => exact ⟨y, x % y, hy, by omega, rfl, by go_num, HG⟩
      case measure => simp [intOf]; omega

end Go.Proofs.YtncgchlnaobalabDoor
