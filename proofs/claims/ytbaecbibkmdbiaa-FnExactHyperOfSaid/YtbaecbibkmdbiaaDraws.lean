/- Contracts of what the reference draws as arguments that are lists of tasks; nothing that was there is written. -/
import Derived.Test.YtbaecbibkmdbiaaSome
namespace Go.Proofs.Ytbaecbibkmdbiaa
open Go.RowKit

theorem drewList {w w1 w2 : World} {v : Value} {ts : List Tk} (h1 : Below w.heap.size w w1) (h2 : w1.grownBy w2 (some w.heap.size)) (ho : Own w2 w1.heap.size v ts) (hl : ts.length ≤ 6) (hg : ∀ t ∈ ts, smallTk t) :
    DrewList 6 smallTk w (.returned v) w2 := by
  obtain ⟨A, c, rfl⟩ := ho.form
  refine ⟨A, c, ts, rfl, hl, hg, ?_, below_of_gb h1 h2 h1.size (Nat.le_refl _)⟩
  refine ⟨ho.1, ?_⟩
  rcases ho.2 with h | ⟨g, cap, cur, e, hb, rest⟩
  · exact .inl h
  · exact .inr ⟨g, cap, cur, e, Nat.le_trans h1.size hb, rest⟩

set_option maxRecDepth 100000 in
set_option maxHeartbeats 1000000 in
theorem dDrawCriticalOf_any (w : World) (A : Option Addr) (n c : Nat) (f : Nat → Int) (h : Code w w.heap.size A n c f) :
    Calls Try.prog 12 #[.slice A n c] w (DrewList 6 smallTk w) := by
  have H := Lib.hid h
  clear h
  go_enter Try.func12, Try.ntmps12
  go_wp2_with fail
  refine (open_any _ A n c f H.out).mono ?_
  rintro e w1 ⟨rfl, m, hr, hb⟩
  have HR := Lib.hid hr
  have HB := Lib.hid hb
  clear hr hb
  go_wp2_with fail
  refine (some_any _ _ _ _ _ _ _ _ HR.out (by omega)).mono ?_
  rintro e w2 ⟨v, ts, p, rfl, hl, hg, hp, hr, hgb, ho⟩
  have HX : Hid (DrewList 6 smallTk w (.returned v) w2) := drewList HB.out hgb ho hl hg
  clear hr hgb ho hg
  go_wp2_with fail
  go_ret
  exact HX.out

set_option maxRecDepth 100000 in
set_option maxHeartbeats 1000000 in
theorem dDrawHyperOf_any (w : World) (A : Option Addr) (n c : Nat) (f : Nat → Int) (h : Code w w.heap.size A n c f) :
    Calls Try.prog 8 #[.slice A n c] w (DrewList 6 smallTk w) := by
  have H := Lib.hid h
  clear h
  go_enter Try.func8, Try.ntmps8
  go_wp2_with fail
  refine (open_any _ A n c f H.out).mono ?_
  rintro e w1 ⟨rfl, m, hr, hb⟩
  have HR := Lib.hid hr
  have HB := Lib.hid hb
  clear hr hb
  go_wp2_with fail
  refine (some_any _ _ _ _ _ _ _ _ HR.out (by omega)).mono ?_
  rintro e w2 ⟨v, ts, p, rfl, hl, hg, hp, hr, hgb, ho⟩
  have HX : Hid (DrewList 6 smallTk w (.returned v) w2) := drewList HB.out hgb ho hl hg
  clear hr hgb ho hg
  go_wp2_with fail
  go_ret
  exact HX.out

end Go.Proofs.Ytbaecbibkmdbiaa
