/- What the exact laws do with lists of numbers: compare, copy. -/
import Derived.Test.YthdclaljgimclaaM1
import Derived.Test.YthdclaljgimclaaM3
namespace Go.Proofs.Ythdclaljgimclaa
open Go.RowKit
set_option linter.unusedVariables false

set_option maxHeartbeats 1000000 in
theorem eqIntS_any (w : World) (A A' : Option Addr) (n c c' : Nat) (zs : List Int) (h : Zs w w.heap.size A n zs) (h' : Zs w w.heap.size A' n zs) (hn : n ≤ 1048576) :
    Calls Try.prog 21 #[.slice A n c, .slice A' n c'] w fun e w' => e = .returned (.bool true) ∧ Below w.heap.size w w' := by
  have H := Lib.hid h
  have H' := Lib.hid h'
  clear h h'
  go_enter Try.func21, Try.ntmps21
  go_wp2
  go_loopw [5] (fun i wr => ∃ k : Nat, k ≤ n ∧ i = .int .i64 k ∧ Below w.heap.size w wr) (fun i _ => n - (intOf i).toNat)
  case atStart => exact ⟨0, Nat.zero_le _, rfl, Below.refl _ _⟩
  case round =>
    obtain ⟨k, hk, rfl, hb⟩ := hrel
    have HB := Lib.hid hb
    clear hb
    by_cases hlt : k < n
    · obtain ⟨z, hz⟩ := zs_at H.out hlt
      obtain ⟨b, o, rfl, hbl, c0⟩ := (H.out.below HB.out).at_ k z hz
      obtain ⟨b', o', rfl, hbl', d0⟩ := (H'.out.below HB.out).at_ k z hz
      clear hz
      have i1 : (0 : Int) ≤ (k : Int) := by omega
      have i2 : (k : Int) < (n : Int) := by omega
      go_wp2
      go_quiet (fail)
      go_wp2
      go_roundw
      case rel => exact ⟨k + 1, by omega, by go_num, bl_drewN HB.out _⟩
      case measure => simp [intOf]; omega
    · obtain rfl : k = n := by omega
      go_wp2
      go_ret
      exact ⟨rfl, HB.out⟩

theorem zs_put {zs : List Int} {k : Nat} {z : Int} (h : zs[k]? = some z) : (zs.take k ++ List.replicate (zs.length - k) (0 : Int)).set k z = zs.take (k + 1) ++ List.replicate (zs.length - (k + 1)) (0 : Int) := by
  obtain ⟨hk, rfl⟩ := List.getElem?_eq_some_iff.1 h
  rw [List.take_succ_eq_append_getElem hk]
  have e : zs.length - k = (zs.length - (k + 1)) + 1 := by omega
  rw [e, List.replicate_succ, List.set_append_right _ _ (by rw [List.length_take]; omega)]
  have e2 : k - (zs.take k).length = 0 := by rw [List.length_take]; omega
  rw [e2, List.set_cons_zero, List.append_assoc]
  rfl

end Go.Proofs.Ythdclaljgimclaa
