/- The draw of LeaveTask's arguments. -/
import Derived.Test.YtfjbkblodgdcnaaDoorNA
namespace Go.Proofs.YtfjbkblodgdcnaaDoor
open Go.RowKit

set_option maxRecDepth 100000 in
theorem dDrawLeaveTask_any (w : World) (A : Option Addr) (n c : Nat) (f : Nat → Int) (h : Code w w.heap.size A n c f) :
    Calls Tryd.prog 13 #[.slice A n c] w (DrewLI 6 w) := by
  have H := Lib.hid h
  clear h
  go_enter Tryd.func13, Tryd.ntmps13
  go_wp2_with fail
  refine (l3Case_any _ A n c f H.out).mono ?_
  rintro e w1 ⟨A2, c2, ts, z, rfl, hl, z0, z1, ho, hb⟩
  have HX : Hid (DrewLI 6 w (.returned (.tuple #[.slice A2 ts.length c2, .int .i64 z])) w1) := ⟨A2, c2, ts, z, rfl, hl, z0, z1, ho, hb⟩
  clear hl z0 z1 ho hb
  go_wp2_with fail
  go_ret2
  exact HX.out

end Go.Proofs.YtfjbkblodgdcnaaDoor
