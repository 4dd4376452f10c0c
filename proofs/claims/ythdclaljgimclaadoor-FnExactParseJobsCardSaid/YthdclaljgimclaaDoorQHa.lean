/- The swap in the program's heap of jobs, cell by cell. -/
import Derived.Test.YthdclaljgimclaaDoorQOrd
import Derived.RegionTactic
import Derived.ChangeAlike
import Derived.BigRegion
namespace Go.Proofs.YthdclaljgimclaaDoor
open Go.RowKit
set_option linter.unusedVariables false

/-- Three numbers written one after another. -/
def put3 (w : World) (a : Addr) (x y z : Int) : World := ((w.setCell a (.int .i64 x)).setCell ⟨a.block, a.off + 1, none⟩ (.int .i64 y)).setCell ⟨a.block, a.off + 2, none⟩ (.int .i64 z)
/-- No result; the world is W. -/
def SwRes (W : World) (e : Ending) (w' : World) : Prop := e = .returned (.tuple #[]) ∧ w' = W
set_option maxRecDepth 100000 in
set_option maxHeartbeats 4000000 in
theorem swap_ne (w : World) (hb g o n c a b : Nat) (x0 x1 x2 y0 y1 y2 : Int) (h0 : w.cell? ⟨hb, 0, none⟩ = some (.slice (some ⟨g, o, none⟩) n c)) (hne : hb ≠ g) (hab : a ≠ b) (ha : a < n) (hbn : b < n)
    (a0 : w.cell? ⟨g, o + a * 3, none⟩ = some (.int .i64 x0)) (a1 : w.cell? ⟨g, o + a * 3 + 1, none⟩ = some (.int .i64 x1)) (a2 : w.cell? ⟨g, o + a * 3 + 2, none⟩ = some (.int .i64 x2))
    (b0 : w.cell? ⟨g, o + b * 3, none⟩ = some (.int .i64 y0)) (b1 : w.cell? ⟨g, o + b * 3 + 1, none⟩ = some (.int .i64 y1)) (b2 : w.cell? ⟨g, o + b * 3 + 2, none⟩ = some (.int .i64 y2))
    (fz : ∀ i, w.frozen? ⟨g, i, none⟩ = false) :
    Calls Tryd.prog 68 #[.pointer (some ⟨hb, 0, none⟩), .int .i64 a, .int .i64 b] w (SwRes ((put3 (put3 w ⟨g, o + a * 3, none⟩ y0 y1 y2) ⟨g, o + b * 3, none⟩ x0 x1 x2).drew)) := by
  have i1 : (0 : Int) ≤ (a : Int) := by omega
  have i2 : (a : Int) < (n : Int) := by omega
  have i3 : (0 : Int) ≤ (b : Int) := by omega
  have i4 : (b : Int) < (n : Int) := by omega
  generalize hW9 : (put3 (put3 w ⟨g, o + a * 3, none⟩ y0 y1 y2) ⟨g, o + b * 3, none⟩ x0 x1 x2).drew = W9
  have HW := Lib.hid hW9
  clear hW9
  go_enter Tryd.func68, Tryd.ntmps68
  go_wp2
  go_region
  all_goals
    go_end0
    exact ⟨rfl, HW.out⟩

set_option maxRecDepth 100000 in
set_option maxHeartbeats 4000000 in
theorem swap_eq (w : World) (hb g o n c a : Nat) (x0 x1 x2 : Int) (h0 : w.cell? ⟨hb, 0, none⟩ = some (.slice (some ⟨g, o, none⟩) n c)) (hne : hb ≠ g) (ha : a < n)
    (a0 : w.cell? ⟨g, o + a * 3, none⟩ = some (.int .i64 x0)) (a1 : w.cell? ⟨g, o + a * 3 + 1, none⟩ = some (.int .i64 x1)) (a2 : w.cell? ⟨g, o + a * 3 + 2, none⟩ = some (.int .i64 x2))
    (fz : ∀ i, w.frozen? ⟨g, i, none⟩ = false) :
    Calls Tryd.prog 68 #[.pointer (some ⟨hb, 0, none⟩), .int .i64 a, .int .i64 a] w (SwRes ((put3 (put3 w ⟨g, o + a * 3, none⟩ x0 x1 x2) ⟨g, o + a * 3, none⟩ x0 x1 x2).drew)) := by
  have i1 : (0 : Int) ≤ (a : Int) := by omega
  have i2 : (a : Int) < (n : Int) := by omega
  generalize hW9 : (put3 (put3 w ⟨g, o + a * 3, none⟩ x0 x1 x2) ⟨g, o + a * 3, none⟩ x0 x1 x2).drew = W9
  have HW := Lib.hid hW9
  clear hW9
  go_enter Tryd.func68, Tryd.ntmps68
  go_wp2
  go_region
  all_goals
    go_end0
    exact ⟨rfl, HW.out⟩

end Go.Proofs.YthdclaljgimclaaDoor
