/- Contracts of HoldsBy, the reference's and the program's. Nothing that was there is written. -/
import Derived.Test.YtgfnlfjaekkdfaaDoorHbD
import Derived.Test.YtgfnlfjaekkdfaaDoorNB
import Derived.Test.YtgfnlfjaekkdfaaDoorNE
import Derived.Test.YtgfnlfjaekkdfaaDoorNF
namespace Go.Proofs.YtgfnlfjaekkdfaaDoor
open Go.RowKit
set_option linter.unusedVariables false

set_option maxRecDepth 100000 in
set_option maxHeartbeats 2000000 in
theorem sHoldsBy_is (w : World) (A : Option Addr) (n c : Nat) (ts : List Tk) (pol : Int) (h : Tks w w.heap.size A n ts) (hn : n ≤ 1048576) (b : Bool) (hb : hBy ts pol = b) :
    Calls Tryd.prog 24 #[.slice A n c, .int .i64 pol] w (BoolRes b w) := by
  have H := Lib.hid h
  clear h
  by_cases h0 : pol = 0
  · subst h0
    have HB : Hid (hBoth ts = b) := hb
    clear hb
    go_enter Tryd.func24, Tryd.ntmps24
    go_wp2_with fail
    refine (sHBoth_is _ A n c ts H.out hn b HB.out).mono ?_
    rintro e w1 ⟨rfl, hb1⟩
    have HB1 := Lib.hid hb1
    clear hb1
    go_wp2
    go_ret
    exact ⟨rfl, HB1.out⟩
  by_cases h1 : pol = 1
  · subst h1
    have HB : Hid (virtV ts = b) := hb
    clear hb h0
    go_enter Tryd.func24, Tryd.ntmps24
    go_wp2_with fail
    refine (sVirt_is _ A n c ts H.out hn b HB.out).mono ?_
    rintro e w1 ⟨rfl, hb1⟩
    have HB1 := Lib.hid hb1
    clear hb1
    go_wp2
    go_ret
    exact ⟨rfl, HB1.out⟩
  obtain rfl : b = false := by rw [← hb]; exact hBy_no h0 h1
  have p0 : (pol == 0) = false := by simpa using h0
  have p1 : (pol == 1) = false := by simpa using h1
  clear hb
  go_enter Tryd.func24, Tryd.ntmps24
  go_wp2
  go_ret
  exact ⟨rfl, Below.refl _ _⟩

set_option maxRecDepth 100000 in
set_option maxHeartbeats 2000000 in
theorem iHoldsBy_is (w : World) (A : Option Addr) (n c : Nat) (ts : List Tk) (pol : Int) (h : Tks w w.heap.size A n ts) (hn : n ≤ 1048576) (hnc : n ≤ c) (e0 : Addr) (he : EG w e0) (b : Bool) (hb : hBy ts pol = b) :
    Calls Tryd.prog 11 #[.slice A n c, .int .i64 pol] w (BoolRes b w) := by
  have H := Lib.hid h
  have HE := Lib.hid he
  clear h he
  by_cases h0 : pol = 0
  · subst h0
    have HB : Hid (hBoth ts = b) := hb
    clear hb
    go_enter Tryd.func11, Tryd.ntmps11
    go_wp2_with fail
    refine (iHBoth_is _ A n c ts H.out hn hnc b HB.out).mono ?_
    rintro e w1 ⟨rfl, hb1⟩
    have HB1 := Lib.hid hb1
    clear hb1
    go_wp2
    go_ret
    exact ⟨rfl, HB1.out⟩
  by_cases h1 : pol = 1
  · subst h1
    have HB : Hid (virtV ts = b) := hb
    clear hb h0
    go_enter Tryd.func11, Tryd.ntmps11
    go_wp2_with fail
    refine (iVirt_is _ A n c ts H.out hn e0 HE.out b HB.out).mono ?_
    rintro e w1 ⟨rfl, hb1⟩
    have HB1 := Lib.hid hb1
    clear hb1
    go_wp2
    go_ret
    exact ⟨rfl, HB1.out⟩
  obtain rfl : b = false := by rw [← hb]; exact hBy_no h0 h1
  have p0 : (pol == 0) = false := by simpa using h0
  have p1 : (pol == 1) = false := by simpa using h1
  clear hb
  go_enter Tryd.func11, Tryd.ntmps11
  go_wp2
  go_ret
  exact ⟨rfl, Below.refl _ _⟩

end Go.Proofs.YtgfnlfjaekkdfaaDoor
