/- Contracts of LeaveTask, the reference's and the program's. Nothing that was there is written. -/
import Derived.Test.YtgfnlfjaekkdfaaGreatDoorNB
namespace Go.Proofs.YtgfnlfjaekkdfaaGreatDoor
open Go.RowKit
set_option linter.unusedVariables false

/-- Whether a list is valid and has a place. -/
def hasB (ts : List Tk) (n : Nat) (a : Int) : Bool := setB ts && (decide (0 ≤ a) && decide (a < (n : Int)))
theorem has_at {ts : List Tk} {n : Nat} {a : Int} (h : hasB ts n a = true) : setB ts = true ∧ ∃ k : Nat, a = k ∧ k < n := by
  unfold hasB at h
  rw [Bool.and_eq_true, Bool.and_eq_true, decide_eq_true_iff, decide_eq_true_iff] at h
  exact ⟨h.1, a.toNat, by omega, by omega⟩

set_option maxHeartbeats 1000000 in
theorem iLeave_is (w : World) (A : Option Addr) (n c : Nat) (ts : List Tk) (a : Int) (us : List Tk) (b : Bool) (h : Tks w w.heap.size A n ts) (hn : n ≤ 1048576) (hnc : n ≤ c) (hb : hasB ts n a = b) (hu : us = if b then ts.eraseIdx a.toNat else []) :
    Calls Tryz.prog 13 #[.slice A n c, .int .i64 a] w (LsRes2 us b w) := by
  have H := Lib.hid h
  have HL := Lib.hid h.len
  have HBB := Lib.hid hb
  clear h
  cases b
  · obtain rfl : us = [] := by rw [hu]; rfl
    clear hb hu
    go_enter Tryz.func13, Tryz.ntmps13
    go_wp2_with (go_at_call 43; refine (iHas5_is _ A n c ts a H.out hn false HBB.out).mono ?_; rintro e w1 ⟨rfl, hb1⟩; have HB1 := Lib.hid hb1; clear hb1)
    go_ret2
    exact ⟨none, 0, rfl, Own.nil_ _ _, HB1.out⟩
  obtain rfl : us = ts.eraseIdx a.toNat := by rw [hu]; rfl
  obtain ⟨hs, k, rfl, hk⟩ := has_at hb
  have h5 := setB_len hs
  have hkn : ((k : Int)).toNat = k := by omega
  have HK := Lib.hid hkn
  have hl := HL.out
  clear hb hu hkn
  go_enter Tryz.func13, Tryz.ntmps13
  go_wp2_with fail
  refine (iHas5_is _ A n c ts k H.out hn true HBB.out).mono ?_
  rintro e w1 ⟨rfl, hb1⟩
  have HB1 := Lib.hid hb1
  clear hb1
  go_wp2_with fail
  refine (iWithoutT_is w1 A n c ts k ((H.out.below HB1.out).more HB1.out.size) (by omega) hnc hk).mono ?_
  rintro e w2 ⟨A3, c3, rfl, ho, hb2⟩
  have HB2 := Lib.hid (bl_trans HB1.out hb2)
  have HO2 := Lib.hid (own_more ho HB1.out.size)
  clear hb2 ho
  go_wp2
  go_ret2
  rw [HK.out]
  exact ⟨A3, c3, rfl, HO2.out, HB2.out⟩

end Go.Proofs.YtgfnlfjaekkdfaaGreatDoor
