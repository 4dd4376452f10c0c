/- Contracts of what the reference draws: a task that is valid, and one that may be wrong; its numbers are small. -/
import Derived.Test.YthdclaljgimclaaDoorNum
import Derived.Test.YthdclaljgimclaaDoorLit
import Derived.Test.YthdclaljgimclaaDoorBase
import Derived.Deep.RegionHeld3
import Derived.Deep.RegionLaw
namespace Go.Proofs.YthdclaljgimclaaDoor
open Go.RowKit

/-- The numbers of a task are small. -/
def smallT (lo hi du ev : Int) (_ : Bool) : Prop := (-1 ≤ lo ∧ lo ≤ 21) ∧ (-1 ≤ hi ∧ hi ≤ 21) ∧ (-1 ≤ du ∧ du ≤ 21) ∧ (-1 ≤ ev ∧ ev ≤ 21)

/-- What a draw of a task leaves: a task of the kind 'good'; the reader at most d on. -/
def TkOut (B g : Nat) (A : Option Addr) (n c : Nat) (f : Nat → Int) (p d : Nat) (good : Int → Int → Int → Int → Bool → Prop) (w : World) (e : Ending) (w' : World) : Prop :=
  ∃ (lo hi du ev : Int) (cr : Bool) (p' : Nat), e = .returned (.agg #[.int .i64 lo, .int .i64 hi, .int .i64 du, .int .i64 ev, .bool cr]) ∧ good lo hi du ev cr ∧ p' ≤ p + d ∧ Rd w' B g A n c f p' ∧ w.grownBy w' (some g)

set_option maxHeartbeats 2000000 in
theorem wrong_any (w : World) (B g : Nat) (A : Option Addr) (n c : Nat) (f : Nat → Int) (p : Nat) (lo hi du ev : Int) (cr : Bool) (hr : Rd w B g A n c f p) (hp : p ≤ 100000) (hs : smallT lo hi du ev cr) :
    Calls Tryd.prog 54 #[.pointer (some ⟨g, 0, none⟩), .agg #[.int .i64 lo, .int .i64 hi, .int .i64 du, .int .i64 ev, .bool cr]] w (TkOut B g A n c f p 2 smallT w) := by
  have HR := Lib.hid hr
  have HS := Lib.hid hs
  have hgl := hr.lt
  have hBg := hr.ge
  clear hr hs
  go_enter Tryd.func54, Tryd.ntmps54
  go_wp2_with fail
  refine (pick_any _ B g A n c f p 20 ((HR.out.alloc _).alloc _) (by omega) (by omega)).mono ?_
  rintro e w1 ⟨v, rfl, h0, h1, h2, hr1, hg1⟩
  have h1' := h1 (by omega)
  clear h1 h2
  have hsz : w.heap.size + 1 < w1.heap.size := by have := hg1.size; simp at this; omega
  have bT : Blk w1 w.heap.size 74 _ := (((Blk.new w 74 _).alloc _).grown hg1 (by intro e; injection e; omega))
  have bR : Blk w1 (w.heap.size + 1) 74 #[.int .i64 0, .int .i64 0, .int .i64 0, .int .i64 0, .bool false] := by
    refine Blk.grown ?_ hg1 (by intro e; injection e; omega)
    have h := Blk.new (w.alloc (.cells #[.int .i64 lo, .int .i64 hi, .int .i64 du, .int .i64 ev, .bool cr] 74)) 74 #[.int .i64 0, .int .i64 0, .int .i64 0, .int .i64 0, .bool false]
    simpa using h
  have hgw : w.grownBy w1 (some g) := gb_trans (gb_alloc (gb_alloc (World.grownBy.refl w _) _) _) hg1 (fun x e => .inl (by injection e with e; exact e.symm))
  have HR1 := Lib.hid hr1
  have HG1 := Lib.hid hgw
  clear hr1 hg1 hgw
  by_cases e0 : v = 0
  · subst e0
    go_wp2_with fail
    refine (num_any _ B g A n c f (p + 1) _ 4 (-1) 21 (HR1.out.alloc _) (by omega) (by omega) (by omega) (by omega) ?_).mono ?_
    · exact lit_cells _ _ _ _ _ (fun i hi => by rcases (by omega : i = 0 ∨ i = 1 ∨ i = 2 ∨ i = 3) with rfl | rfl | rfl | rfl <;> exact ⟨_, rfl, by decide, by decide⟩)
    rintro e w2 ⟨x, rfl, hx1, hx2, hr2, hg2⟩
    have hg3 := gb_trans (gb_alloc HG1.out _) hg2 (fun x e => .inl (by injection e with e; exact e.symm))
    have bT2 := (bT.alloc (.cells #[.int .i64 0, .int .i64 (-1), .int .i64 21, .int .i64 1] 3)).grown hg2 (by intro e; injection e; omega)
    have bR2 := (bR.alloc (.cells #[.int .i64 0, .int .i64 (-1), .int .i64 21, .int .i64 1] 3)).grown hg2 (by intro e; injection e; omega)
    have cT := bT2.cell; have fT := bT2.frozen; have cR := bR2.cell; have fR := bR2.frozen
    clear bT2 bR2 bT bR
    have HR2 := Lib.hid hr2
    have HG2 := Lib.hid hg3
    clear hr2 hg3 hg2
    go_wp2
    refine bodyPost_ret (v := .agg #[.int .i64 x, .int .i64 hi, .int .i64 du, .int .i64 ev, .bool cr]) (by simp [results, Tryd.results54, go_sem, cR]) rfl ⟨x, hi, du, ev, cr, p + 1 + 1, rfl, ?_, by omega, ?_, ?_⟩
    · obtain ⟨s1, s2, s3, s4⟩ := HS.out; exact ⟨⟨hx1, hx2⟩, s2, s3, s4⟩
    · repeat (refine Rd.set ?_ (by dsimp only; omega) (by dsimp only; omega) _)
      exact HR2.out
    · repeat (refine gb_set ?_ (.inr (by dsimp only; omega)) _)
      exact HG2.out
  by_cases e1 : v = 1
  · subst e1
    go_wp2_with fail
    refine (num_any _ B g A n c f (p + 1) _ 3 (-1) 21 (HR1.out.alloc _) (by omega) (by omega) (by omega) (by omega) ?_).mono ?_
    · exact lit_cells _ _ _ _ _ (fun i hi => by rcases (by omega : i = 0 ∨ i = 1 ∨ i = 2) with rfl | rfl | rfl <;> exact ⟨_, rfl, by decide, by decide⟩)
    rintro e w2 ⟨x, rfl, hx1, hx2, hr2, hg2⟩
    have hg3 := gb_trans (gb_alloc HG1.out _) hg2 (fun x e => .inl (by injection e with e; exact e.symm))
    have bT2 := (bT.alloc (.cells #[.int .i64 0, .int .i64 21, .int .i64 5] 3)).grown hg2 (by intro e; injection e; omega)
    have bR2 := (bR.alloc (.cells #[.int .i64 0, .int .i64 21, .int .i64 5] 3)).grown hg2 (by intro e; injection e; omega)
    have cT := bT2.cell; have fT := bT2.frozen; have cR := bR2.cell; have fR := bR2.frozen
    clear bT2 bR2 bT bR
    have HR2 := Lib.hid hr2
    have HG2 := Lib.hid hg3
    clear hr2 hg3 hg2
    go_wp2
    refine bodyPost_ret (v := .agg #[.int .i64 lo, .int .i64 x, .int .i64 du, .int .i64 ev, .bool cr]) (by simp [results, Tryd.results54, go_sem, cR]) rfl ⟨lo, x, du, ev, cr, p + 1 + 1, rfl, ?_, by omega, ?_, ?_⟩
    · obtain ⟨s1, s2, s3, s4⟩ := HS.out; exact ⟨s1, ⟨hx1, hx2⟩, s3, s4⟩
    · repeat (refine Rd.set ?_ (by dsimp only; omega) (by dsimp only; omega) _)
      exact HR2.out
    · repeat (refine gb_set ?_ (.inr (by dsimp only; omega)) _)
      exact HG2.out
  by_cases e2 : v = 2
  · subst e2
    go_wp2_with fail
    refine (num_any _ B g A n c f (p + 1) _ 3 (-1) 21 (HR1.out.alloc _) (by omega) (by omega) (by omega) (by omega) ?_).mono ?_
    · exact lit_cells _ _ _ _ _ (fun i hi => by rcases (by omega : i = 0 ∨ i = 1 ∨ i = 2) with rfl | rfl | rfl <;> exact ⟨_, rfl, by decide, by decide⟩)
    rintro e w2 ⟨x, rfl, hx1, hx2, hr2, hg2⟩
    have hg3 := gb_trans (gb_alloc HG1.out _) hg2 (fun x e => .inl (by injection e with e; exact e.symm))
    have bT2 := (bT.alloc (.cells #[.int .i64 0, .int .i64 21, .int .i64 20] 3)).grown hg2 (by intro e; injection e; omega)
    have bR2 := (bR.alloc (.cells #[.int .i64 0, .int .i64 21, .int .i64 20] 3)).grown hg2 (by intro e; injection e; omega)
    have cT := bT2.cell; have fT := bT2.frozen; have cR := bR2.cell; have fR := bR2.frozen
    clear bT2 bR2 bT bR
    have HR2 := Lib.hid hr2
    have HG2 := Lib.hid hg3
    clear hr2 hg3 hg2
    go_wp2
    refine bodyPost_ret (v := .agg #[.int .i64 lo, .int .i64 hi, .int .i64 x, .int .i64 ev, .bool cr]) (by simp [results, Tryd.results54, go_sem, cR]) rfl ⟨lo, hi, x, ev, cr, p + 1 + 1, rfl, ?_, by omega, ?_, ?_⟩
    · obtain ⟨s1, s2, s3, s4⟩ := HS.out; exact ⟨s1, s2, ⟨hx1, hx2⟩, s4⟩
    · repeat (refine Rd.set ?_ (by dsimp only; omega) (by dsimp only; omega) _)
      exact HR2.out
    · repeat (refine gb_set ?_ (.inr (by dsimp only; omega)) _)
      exact HG2.out
  by_cases e3 : v = 3
  · subst e3
    have cT := bT.cell; have fT := bT.frozen; have cR := bR.cell; have fR := bR.frozen
    clear bT bR
    go_wp2
    refine bodyPost_ret (v := .agg #[.int .i64 lo, .int .i64 hi, .int .i64 du, .int .i64 ev, .bool (!cr)]) (by simp [results, Tryd.results54, go_sem, cR]) rfl ⟨lo, hi, du, ev, !cr, p + 1, rfl, HS.out, by omega, ?_, ?_⟩
    · repeat (refine Rd.set ?_ (by dsimp only; omega) (by dsimp only; omega) _)
      exact HR1.out
    · repeat (refine gb_set ?_ (.inr (by dsimp only; omega)) _)
      exact HG1.out
  by_cases e4 : v = 4
  · subst e4
    go_wp2_with fail
    refine (num_any _ B g A n c f (p + 1) _ 3 (-1) 21 (HR1.out.alloc _) (by omega) (by omega) (by omega) (by omega) ?_).mono ?_
    · exact lit_cells _ _ _ _ _ (fun i hi => by rcases (by omega : i = 0 ∨ i = 1 ∨ i = 2) with rfl | rfl | rfl <;> exact ⟨_, rfl, by decide, by decide⟩)
    rintro e w2 ⟨x, rfl, hx1, hx2, hr2, hg2⟩
    have hg3 := gb_trans (gb_alloc HG1.out _) hg2 (fun x e => .inl (by injection e with e; exact e.symm))
    have bT2 := (bT.alloc (.cells #[.int .i64 21, .int .i64 0, .int .i64 20] 3)).grown hg2 (by intro e; injection e; omega)
    have bR2 := (bR.alloc (.cells #[.int .i64 21, .int .i64 0, .int .i64 20] 3)).grown hg2 (by intro e; injection e; omega)
    have cT := bT2.cell; have fT := bT2.frozen; have cR := bR2.cell; have fR := bR2.frozen
    clear bT2 bR2 bT bR
    have HR2 := Lib.hid hr2
    have HG2 := Lib.hid hg3
    clear hr2 hg3 hg2
    go_wp2
    refine bodyPost_ret (v := .agg #[.int .i64 lo, .int .i64 hi, .int .i64 du, .int .i64 x, .bool cr]) (by simp [results, Tryd.results54, go_sem, cR]) rfl ⟨lo, hi, du, x, cr, p + 1 + 1, rfl, ?_, by omega, ?_, ?_⟩
    · obtain ⟨s1, s2, s3, s4⟩ := HS.out; exact ⟨s1, s2, s3, ⟨hx1, hx2⟩⟩
    · repeat (refine Rd.set ?_ (by dsimp only; omega) (by dsimp only; omega) _)
      exact HR2.out
    · repeat (refine gb_set ?_ (.inr (by dsimp only; omega)) _)
      exact HG2.out
  have t0 : (v == 0) = false := by simpa using e0
  have t1 : (v == 1) = false := by simpa using e1
  have t2 : (v == 2) = false := by simpa using e2
  have t3 : (v == 3) = false := by simpa using e3
  have t4 : (v == 4) = false := by simpa using e4
  clear e0 e1 e2 e3 e4
  have cT := bT.cell; have fT := bT.frozen; have cR := bR.cell; have fR := bR.frozen
  clear bT bR
  go_wp2
  refine bodyPost_ret (v := .agg #[.int .i64 lo, .int .i64 hi, .int .i64 du, .int .i64 ev, .bool cr]) (by simp [results, Tryd.results54, go_sem, cR]) rfl ⟨lo, hi, du, ev, cr, p + 1, rfl, HS.out, by omega, ?_, ?_⟩
  · repeat (refine Rd.set ?_ (by dsimp only; omega) (by dsimp only; omega) _)
    exact HR1.out
  · repeat (refine gb_set ?_ (.inr (by dsimp only; omega)) _)
    exact HG1.out

end Go.Proofs.YthdclaljgimclaaDoor
