/- Contracts of what the reference draws as arguments of LowShare and HighShare; nothing that was there is written. -/
import Derived.Test.YtbaecbibkmdbiaaDoorDraws
import Derived.Test.YtbaecbibkmdbiaaDoorOwn
namespace Go.Proofs.YtbaecbibkmdbiaaDoor
open Go.RowKit

def DrewLB (m : Nat) (w : World) (e : Ending) (w' : World) : Prop :=
  ∃ (A : Option Addr) (c : Nat) (ts : List Tk) (b : Bool), e = .returned (.tuple #[.slice A ts.length c, .bool b]) ∧ ts.length ≤ m ∧ Own w' w.heap.size (.slice A ts.length c) ts ∧ Below w.heap.size w w'

set_option maxRecDepth 100000 in
set_option maxHeartbeats 1000000 in
theorem dDrawHighShare_any (w : World) (A : Option Addr) (n c : Nat) (f : Nat → Int) (h : Code w w.heap.size A n c f) :
    Calls Tryd.prog 19 #[.slice A n c] w (DrewList 6 smallTk w) := by
  have H := Lib.hid h
  clear h
  go_enter Tryd.func19, Tryd.ntmps19
  go_wp2_with fail
  refine (open_any _ A n c f H.out).mono ?_
  rintro e w1 ⟨rfl, m, hr, hb⟩
  have HR := Lib.hid hr
  have HB := Lib.hid hb
  clear hr hb
  go_wp2_with fail
  refine (some_any _ _ _ _ _ _ _ _ HR.out (by omega)).mono ?_
  rintro e w2 ⟨v, ts, p, rfl, hl, hg, hp, hr, hgb, ho⟩
  have HX : Hid (DrewList 6 smallTk w (.returned v) w2) := drewList HB.out hgb ho hl hg
  clear hr hgb ho hg
  go_wp2_with fail
  go_ret
  exact HX.out

set_option maxRecDepth 100000 in
set_option maxHeartbeats 1000000 in
theorem dDrawLowShare_any (w : World) (A : Option Addr) (n c : Nat) (f : Nat → Int) (h : Code w w.heap.size A n c f) :
    Calls Tryd.prog 12 #[.slice A n c] w (DrewLB 6 w) := by
  have H := Lib.hid h
  clear h
  go_enter Tryd.func12, Tryd.ntmps12
  go_wp2_with fail
  refine (open_any _ A n c f H.out).mono ?_
  rintro e w1 ⟨rfl, m, hr, hb⟩
  have hgl := hr.lt
  have HR := Lib.hid hr
  have HB := Lib.hid hb
  clear hr hb
  go_wp2_with fail
  refine (some_any _ _ _ _ _ _ _ _ HR.out (by omega)).mono ?_
  rintro e w2 ⟨v, ts, p, rfl, hl, hg, hp, hr, hgb, ho⟩
  obtain ⟨A2, c2, rfl⟩ := ho.form
  have HR2 := Lib.hid hr
  have HB2 := Lib.hid (below_of_gb HB.out hgb HB.out.size (Nat.le_refl _))
  have HO2 := Lib.hid ho
  clear hr hgb ho hg
  go_wp2_with fail
  refine (pick_any _ _ _ _ _ _ _ p 2 HR2.out (by omega) (by omega)).mono ?_
  rintro e w3 ⟨z, rfl, z0, _, _, hr, hg⟩
  have HB3 := Lib.hid (below_of_gb HB2.out hg HB2.out.size (Nat.le_refl _))
  have HO3 := Lib.hid (HO2.out.kept hg (fun k e => by injection e with e; omega))
  have HX : Hid (Own w3 w.heap.size (.slice A2 ts.length c2) ts) := own_more HO3.out HB.out.size
  clear hr hg HO3
  go_wp2_with fail
  refine bodyPost_ret (v := .tuple #[.slice A2 ts.length c2, .bool (z == 0)]) (by simp [results, Tryd.results12, go_sem]) rfl ⟨A2, c2, ts, (z == 0), rfl, hl, HX.out, HB3.out⟩

end Go.Proofs.YtbaecbibkmdbiaaDoor
