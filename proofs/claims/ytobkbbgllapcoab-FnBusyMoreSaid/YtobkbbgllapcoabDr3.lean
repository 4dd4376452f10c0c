/- Contracts of what the reference draws as arguments of chapter 3's functions; nothing that was there is written. -/
import Derived.Test.YtobkbbgllapcoabSome
import Derived.Test.YtobkbbgllapcoabSort2
import Derived.Test.YtobkbbgllapcoabLit
namespace Go.Proofs.Ytobkbbgllapcoab
open Go.RowKit
set_option linter.unusedVariables false

def DrewLI (m : Nat) (w : World) (e : Ending) (w' : World) : Prop :=
  ∃ (A : Option Addr) (c : Nat) (ts : List Tk) (z : Int), e = .returned (.tuple #[.slice A ts.length c, .int .i64 z]) ∧ ts.length ≤ m ∧ -1 ≤ z ∧ z ≤ 5 ∧ Own w' w.heap.size (.slice A ts.length c) ts ∧ Below w.heap.size w w'
theorem sortOf_le (ts : List Tk) : (sortOf ts).length ≤ ts.length := by
  unfold sortOf
  split
  · rw [sortL_len]; exact Nat.le_refl _
  · simp
def DrewL1 (m : Nat) (w : World) (e : Ending) (w' : World) : Prop :=
  ∃ (A : Option Addr) (c : Nat) (ts : List Tk), e = .returned (.slice A ts.length c) ∧ ts.length ≤ m ∧ Own w' w.heap.size (.slice A ts.length c) ts ∧ Below w.heap.size w w'

set_option maxRecDepth 100000 in
set_option maxHeartbeats 2000000 in
theorem l3Case_any (w : World) (A : Option Addr) (n c : Nat) (f : Nat → Int) (h : Code w w.heap.size A n c f) :
    Calls Try.prog 79 #[.slice A n c] w (DrewLI 6 w) := by
  have H := Lib.hid h
  clear h
  go_enter Try.func79, Try.ntmps79
  go_wp2_with fail
  refine (open_any _ A n c f H.out).mono ?_
  rintro e w1 ⟨rfl, m, hr, hb⟩
  have hgl := hr.lt
  have HR := Lib.hid hr
  have HB := Lib.hid hb
  clear hr hb
  go_wp2_with fail
  refine (some_any _ _ _ _ _ _ _ _ HR.out (by omega)).mono ?_
  rintro e w2 ⟨v, ts, p, rfl, hl, hg, hp, hr, hgb, ho⟩
  obtain ⟨A2, c2, rfl⟩ := ho.form
  have hlt2 := hr.lt
  have HR2 := Lib.hid hr
  have HB2 := Lib.hid (below_of_gb HB.out hgb HB.out.size (Nat.le_refl _))
  have HO2 := Lib.hid ho
  clear hr hgb ho hg
  go_wp2_with fail
  refine (num_any _ _ _ _ _ _ _ p _ 6 (-1) 5 (HR2.out.alloc _) (by omega) (by omega) (by omega) (by omega) ?_).mono ?_
  · exact lit_cells_at _ _ _ _ _ _ (by simp) (fun i hi => by rcases (by omega : i = 0 ∨ i = 1 ∨ i = 2 ∨ i = 3 ∨ i = 4 ∨ i = 5) with rfl | rfl | rfl | rfl | rfl | rfl <;> exact ⟨_, rfl, by decide, by decide⟩)
  rintro e w3 ⟨z, rfl, z0, z1, hr3, hg3⟩
  have hgw3 : w2.grownBy w3 (some w.heap.size) := gb_trans (gb_alloc (World.grownBy.refl w2 _) _) hg3 (fun x e => .inl (by injection e with e; exact e.symm))
  have HB3 := Lib.hid (below_of_gb HB2.out hgw3 HB2.out.size (Nat.le_refl _))
  have HO3 := Lib.hid (HO2.out.kept hgw3 (fun k e => by injection e with e; omega))
  have HR3 := Lib.hid hr3
  have Z := Lib.hid (And.intro z0 z1)
  clear hr3 hg3 hgw3 z0 z1
  go_wp2_with fail
  refine (pick_any _ _ _ _ _ _ _ (p + 1) 3 HR3.out (by omega) (by omega)).mono ?_
  rintro e w4 ⟨y, rfl, y0, _, _, hr4, hg4⟩
  have HB4 := Lib.hid (below_of_gb HB3.out hg4 HB3.out.size (Nat.le_refl _))
  have HO4 := Lib.hid (HO3.out.kept hg4 (fun k e => by injection e with e; omega))
  have HR4 := Lib.hid hr4
  clear hr4 hg4
  by_cases hy : 0 < y
  · go_wp2_with fail
    refine (set_any _ _ _ _ _ _ _ _ HR4.out (by omega)).mono ?_
    rintro e w5 ⟨v5, us, p5, rfl, hl5, hg5, hp5, hr5, hgb5, ho5⟩
    obtain ⟨A5, c5, rfl⟩ := ho5.form
    have HB5 := Lib.hid (below_of_gb HB4.out hgb5 HB4.out.size (Nat.le_refl _))
    have HT5 := Lib.hid ho5.reads.2
    clear hgb5 ho5 hr5 hg5
    go_wp2_with fail
    refine (sSortDue_any _ A5 _ c5 us HT5.out (by omega)).mono ?_
    rintro e w6 ⟨A6, c6, rfl, ho6, hb6⟩
    have HB6 := Lib.hid (bl_trans HB5.out hb6)
    have HO6 := Lib.hid (own_more ho6 HB5.out.size)
    have hlen := sortOf_le us
    have hl6 : (sortOf us).length ≤ 6 := by omega
    clear ho6 hb6
    go_wp2_with fail
    go_ret2
    exact ⟨A6, c6, sortOf us, z, rfl, hl6, Z.out.1, Z.out.2, HO6.out, HB6.out⟩
  · go_wp2_with fail
    go_ret2
    exact ⟨A2, c2, ts, z, rfl, hl, Z.out.1, Z.out.2, own_more HO4.out HB.out.size, HB4.out⟩

set_option maxRecDepth 100000 in
theorem dDrawHoldsLow_any (w : World) (A : Option Addr) (n c : Nat) (f : Nat → Int) (h : Code w w.heap.size A n c f) :
    Calls Try.prog 49 #[.slice A n c] w (DrewL1 6 w) := by
  have H := Lib.hid h
  clear h
  go_enter Try.func49, Try.ntmps49
  go_wp2_with fail
  refine (l3Case_any _ A n c f H.out).mono ?_
  rintro e w1 ⟨A2, c2, ts, z, rfl, hl, z0, z1, ho, hb⟩
  have HX : Hid (DrewL1 6 w (.returned (.slice A2 ts.length c2)) w1) := ⟨A2, c2, ts, rfl, hl, ho, hb⟩
  clear hl z0 z1 ho hb
  go_wp2_with fail
  go_ret
  exact HX.out

set_option maxRecDepth 100000 in
theorem dDrawHoldsBoth_any (w : World) (A : Option Addr) (n c : Nat) (f : Nat → Int) (h : Code w w.heap.size A n c f) :
    Calls Try.prog 16 #[.slice A n c] w (DrewL1 6 w) := by
  have H := Lib.hid h
  clear h
  go_enter Try.func16, Try.ntmps16
  go_wp2_with fail
  refine (dDrawHoldsLow_any _ A n c f H.out).mono ?_
  rintro e w1 ⟨A2, c2, ts, rfl, hl, ho, hb⟩
  have HX : Hid (DrewL1 6 w (.returned (.slice A2 ts.length c2)) w1) := ⟨A2, c2, ts, rfl, hl, ho, hb⟩
  clear hl ho hb
  go_wp2_with fail
  go_ret
  exact HX.out

set_option maxRecDepth 100000 in
theorem dDrawFirstBad_any (w : World) (A : Option Addr) (n c : Nat) (f : Nat → Int) (h : Code w w.heap.size A n c f) :
    Calls Try.prog 19 #[.slice A n c] w (DrewL1 6 w) := by
  have H := Lib.hid h
  clear h
  go_enter Try.func19, Try.ntmps19
  go_wp2_with fail
  refine (dDrawHoldsLow_any _ A n c f H.out).mono ?_
  rintro e w1 ⟨A2, c2, ts, rfl, hl, ho, hb⟩
  have HX : Hid (DrewL1 6 w (.returned (.slice A2 ts.length c2)) w1) := ⟨A2, c2, ts, rfl, hl, ho, hb⟩
  clear hl ho hb
  go_wp2_with fail
  go_ret
  exact HX.out

set_option maxRecDepth 100000 in
theorem dDrawBusyLow_any (w : World) (A : Option Addr) (n c : Nat) (f : Nat → Int) (h : Code w w.heap.size A n c f) :
    Calls Try.prog 23 #[.slice A n c] w (DrewL1 6 w) := by
  have H := Lib.hid h
  clear h
  go_enter Try.func23, Try.ntmps23
  go_wp2_with fail
  refine (dDrawHoldsLow_any _ A n c f H.out).mono ?_
  rintro e w1 ⟨A2, c2, ts, rfl, hl, ho, hb⟩
  have HX : Hid (DrewL1 6 w (.returned (.slice A2 ts.length c2)) w1) := ⟨A2, c2, ts, rfl, hl, ho, hb⟩
  clear hl ho hb
  go_wp2_with fail
  go_ret
  exact HX.out

end Go.Proofs.Ytobkbbgllapcoab
