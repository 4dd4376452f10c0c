/- Contracts of CanHold, the reference's and the program's. Nothing that was there is written. -/
import Derived.Test.YtgfnlfjaekkdfaaGreatDoorHb
import Derived.Test.YtgfnlfjaekkdfaaGreatDoorNB
namespace Go.Proofs.YtgfnlfjaekkdfaaGreatDoor
open Go.RowKit
set_option linter.unusedVariables false

/-- Whether tasks can hold on one processor by a policy. -/
def canB (ts : List Tk) (pol : Int) : Bool := if pol = 0 then (assignOf ts).isSome else hBy ts pol
theorem can_holds {ts : List Tk} {pol : Int} (h : hBy ts pol = true) : canB ts pol = true := by
  unfold canB
  split
  · rename_i h0
    subst h0
    obtain ⟨o, ho, _⟩ := holds_assign (ts := ts) h
    rw [ho]; rfl
  · exact h
theorem can_drop {ts : List Tk} (h : canB ts 0 = true) : canB (ts.drop 1) 0 = true := by
  have h' : (assignOf ts).isSome = true := h
  show (assignOf (ts.drop 1)).isSome = true
  cases ts with
  | nil => exact h'
  | cons t us =>
    have hs : setB (t :: us) = true := by
      cases hs : setB (t :: us)
      · rw [assign_bad hs] at h'; cases h'
      · rfl
    exact (assign_iff (set_cons hs).2).2 (can_less ((assign_iff hs).1 h'))

set_option maxRecDepth 100000 in
set_option maxHeartbeats 2000000 in
theorem iCanHold_is (w : World) (A : Option Addr) (n c : Nat) (ts : List Tk) (pol : Int) (h : Tks w w.heap.size A n ts) (hn : n ≤ 1048576) (hnc : n ≤ c) (e0 : Addr) (he : EG w e0) (b : Bool) (hb : canB ts pol = b) :
    Calls Tryz.prog 20 #[.slice A n c, .int .i64 pol] w (BoolRes b w) := by
  have H := Lib.hid h
  have HE := Lib.hid he
  clear h he
  by_cases h0 : pol = 0
  · subst h0
    have HB : Hid ((assignOf ts).isSome = b) := hb
    clear hb
    go_enter Tryz.func20, Tryz.ntmps20
    go_wp2_with fail
    refine (iAssign_is _ A n c ts H.out hn _ rfl).mono ?_
    rintro e w1 ⟨A1, c1, rfl, ho, hb1⟩
    have HB1 := Lib.hid hb1
    rw [HB.out]
    clear hb1 ho
    go_wp2
    go_ret
    exact ⟨rfl, HB1.out⟩
  have HB : Hid (hBy ts pol = b) := by show _ = _; rw [← hb]; unfold canB; rw [if_neg h0]
  have p0 : (pol == 0) = false := by simpa using h0
  clear hb
  go_enter Tryz.func20, Tryz.ntmps20
  go_wp2_with fail
  refine (iHoldsBy_is _ A n c ts pol H.out hn hnc e0 HE.out b HB.out).mono ?_
  rintro e w1 ⟨rfl, hb1⟩
  have HB1 := Lib.hid hb1
  clear hb1
  go_wp2
  go_ret
  exact ⟨rfl, HB1.out⟩

end Go.Proofs.YtgfnlfjaekkdfaaGreatDoor
