/- What the reference draws as tasks, once more: periods are told to divide 120, or to be no period at all. -/
import Derived.Test.YtobkbbgllapcoaaSome
import Derived.Test.YtobkbbgllapcoaaSort2
import Derived.Test.YtobkbbgllapcoaaLit
import Derived.Test.YtobkbbgllapcoaaDr3
import Derived.Deep.RegionHeld3
import Derived.Deep.RegionLaw
namespace Go.Proofs.Ytobkbbgllapcoaa.Dv
open Go.RowKit
set_option linter.unusedVariables false

def evD (e : Int) : Prop := (120 : Int) % e = 0 ∧ 2 ≤ e ∧ e ≤ 20
theorem lit_cellsP (w : World) (cs : Array Value) (g k : Nat) (P : Int → Prop) (hg : g = w.heap.size) (h : ∀ i, i < k → ∃ v, cs[i]? = some (.int .i64 v) ∧ P v) :
    ∀ i, i < k → ∃ v, (w.alloc (.cells cs 3)).cell? ⟨g, i, none⟩ = some (.int .i64 v) ∧ P v := fun i hi => by
  subst hg
  obtain ⟨v, hv, h1⟩ := h i hi
  exact ⟨v, by rw [(Blk.new w 3 cs).cell i]; exact hv, h1⟩
set_option maxHeartbeats 1000000 in
theorem num_anyP (w : World) (B g : Nat) (A : Option Addr) (n c : Nat) (f : Nat → Int) (p : Nat) (h k : Nat) (P : Int → Prop) (hr : Rd w B g A n c f p) (hp : p ≤ 1000000)
    (hk1 : 1 ≤ k) (hk2 : k ≤ 1000) (hne : h ≠ g) (hcells : ∀ i, i < k → ∃ v, w.cell? ⟨h, i, none⟩ = some (.int .i64 v) ∧ P v) :
    Calls Try.prog 45 #[.pointer (some ⟨g, 0, none⟩), .slice (some ⟨h, 0, none⟩) k k] w fun e w' => ∃ v : Int, e = .returned (.int .i64 v) ∧ P v ∧ Rd w' B g A n c f (p + 1) ∧ w.grownBy w' (some g) := by
  have HR := Lib.hid hr
  have HC := Lib.hid hcells
  clear hr hcells
  go_enter Try.func45, Try.ntmps45
  go_wp2_with fail
  refine (pick_any w B g A n c f p k HR.out hp (by omega)).mono ?_
  rintro e w' ⟨v, rfl, h0, h1, h2, hr', hg⟩
  have h1' := h1 (by omega)
  clear h1 h2
  obtain ⟨j, rfl⟩ := Int.eq_ofNat_of_zero_le h0
  have hj : j < k := by omega
  obtain ⟨x, hx, hx1⟩ := HC.out j hj
  have hx' : w'.cell? ⟨h, j, none⟩ = some (.int .i64 x) := hg.cell hx (fun e => hne (by injection e))
  have HR' := Lib.hid hr'
  have HG := Lib.hid hg
  clear hr' hg hx
  go_wp2_with fail
  go_ret
  exact ⟨x, rfl, hx1, HR'.out, HG.out⟩

/-- The numbers of a task are small. -/
def smallT (lo hi du ev : Int) (_ : Bool) : Prop := (-1 ≤ lo ∧ lo ≤ 21) ∧ (-1 ≤ hi ∧ hi ≤ 21) ∧ (-1 ≤ du ∧ du ≤ 21) ∧ (-1 ≤ ev ∧ ev ≤ 21) ∧ (evD ev ∨ ev < 1 ∨ 20 < ev)

/-- What a draw of a task leaves: a task of the kind 'good'; the reader at most d on. -/
def TkOut (B g : Nat) (A : Option Addr) (n c : Nat) (f : Nat → Int) (p d : Nat) (good : Int → Int → Int → Int → Bool → Prop) (w : World) (e : Ending) (w' : World) : Prop :=
  ∃ (lo hi du ev : Int) (cr : Bool) (p' : Nat), e = .returned (.agg #[.int .i64 lo, .int .i64 hi, .int .i64 du, .int .i64 ev, .bool cr]) ∧ good lo hi du ev cr ∧ p' ≤ p + d ∧ Rd w' B g A n c f p' ∧ w.grownBy w' (some g)

set_option maxHeartbeats 2000000 in
theorem wrong_any (w : World) (B g : Nat) (A : Option Addr) (n c : Nat) (f : Nat → Int) (p : Nat) (lo hi du ev : Int) (cr : Bool) (hr : Rd w B g A n c f p) (hp : p ≤ 100000) (hs : smallT lo hi du ev cr) :
    Calls Try.prog 43 #[.pointer (some ⟨g, 0, none⟩), .agg #[.int .i64 lo, .int .i64 hi, .int .i64 du, .int .i64 ev, .bool cr]] w (TkOut B g A n c f p 2 smallT w) := by
  have HR := Lib.hid hr
  have HS := Lib.hid hs
  have hgl := hr.lt
  have hBg := hr.ge
  clear hr hs
  go_enter Try.func43, Try.ntmps43
  go_wp2_with fail
  refine (pick_any _ B g A n c f p 20 ((HR.out.alloc _).alloc _) (by omega) (by omega)).mono ?_
  rintro e w1 ⟨v, rfl, h0, h1, h2, hr1, hg1⟩
  have h1' := h1 (by omega)
  clear h1 h2
  have hsz : w.heap.size + 1 < w1.heap.size := by have := hg1.size; simp at this; omega
  have bT : Blk w1 w.heap.size 24 _ := (((Blk.new w 24 _).alloc _).grown hg1 (by intro e; injection e; omega))
  have bR : Blk w1 (w.heap.size + 1) 24 #[.int .i64 0, .int .i64 0, .int .i64 0, .int .i64 0, .bool false] := by
    refine Blk.grown ?_ hg1 (by intro e; injection e; omega)
    have h := Blk.new (w.alloc (.cells #[.int .i64 lo, .int .i64 hi, .int .i64 du, .int .i64 ev, .bool cr] 24)) 24 #[.int .i64 0, .int .i64 0, .int .i64 0, .int .i64 0, .bool false]
    simpa using h
  have hgw : w.grownBy w1 (some g) := gb_trans (gb_alloc (gb_alloc (World.grownBy.refl w _) _) _) hg1 (fun x e => .inl (by injection e with e; exact e.symm))
  have HR1 := Lib.hid hr1
  have HG1 := Lib.hid hgw
  clear hr1 hg1 hgw
  by_cases e0 : v = 0
  · subst e0
    go_wp2_with fail
    refine (num_any _ B g A n c f (p + 1) _ 4 (-1) 21 (HR1.out.alloc _) (by omega) (by omega) (by omega) (by omega) ?_).mono ?_
    · exact lit_cells _ _ _ _ _ (fun i hi => by rcases (by omega : i = 0 ∨ i = 1 ∨ i = 2 ∨ i = 3) with rfl | rfl | rfl | rfl <;> exact ⟨_, rfl, by decide, by decide⟩)
    rintro e w2 ⟨x, rfl, hx1, hx2, hr2, hg2⟩
    have hg3 := gb_trans (gb_alloc HG1.out _) hg2 (fun x e => .inl (by injection e with e; exact e.symm))
    have bT2 := (bT.alloc (.cells #[.int .i64 0, .int .i64 (-1), .int .i64 21, .int .i64 1] 3)).grown hg2 (by intro e; injection e; omega)
    have bR2 := (bR.alloc (.cells #[.int .i64 0, .int .i64 (-1), .int .i64 21, .int .i64 1] 3)).grown hg2 (by intro e; injection e; omega)
    have cT := bT2.cell; have fT := bT2.frozen; have cR := bR2.cell; have fR := bR2.frozen
    clear bT2 bR2 bT bR
    have HR2 := Lib.hid hr2
    have HG2 := Lib.hid hg3
    clear hr2 hg3 hg2
    go_wp2
    refine bodyPost_ret (v := .agg #[.int .i64 x, .int .i64 hi, .int .i64 du, .int .i64 ev, .bool cr]) (by simp [results, Try.results43, go_sem, cR]) rfl ⟨x, hi, du, ev, cr, p + 1 + 1, rfl, ?_, by omega, ?_, ?_⟩
    · obtain ⟨s1, s2, s3, s4⟩ := HS.out; exact ⟨⟨hx1, hx2⟩, s2, s3, s4⟩
    · repeat (refine Rd.set ?_ (by dsimp only; omega) (by dsimp only; omega) _)
      exact HR2.out
    · repeat (refine gb_set ?_ (.inr (by dsimp only; omega)) _)
      exact HG2.out
  by_cases e1 : v = 1
  · subst e1
    go_wp2_with fail
    refine (num_any _ B g A n c f (p + 1) _ 3 (-1) 21 (HR1.out.alloc _) (by omega) (by omega) (by omega) (by omega) ?_).mono ?_
    · exact lit_cells _ _ _ _ _ (fun i hi => by rcases (by omega : i = 0 ∨ i = 1 ∨ i = 2) with rfl | rfl | rfl <;> exact ⟨_, rfl, by decide, by decide⟩)
    rintro e w2 ⟨x, rfl, hx1, hx2, hr2, hg2⟩
    have hg3 := gb_trans (gb_alloc HG1.out _) hg2 (fun x e => .inl (by injection e with e; exact e.symm))
    have bT2 := (bT.alloc (.cells #[.int .i64 0, .int .i64 21, .int .i64 5] 3)).grown hg2 (by intro e; injection e; omega)
    have bR2 := (bR.alloc (.cells #[.int .i64 0, .int .i64 21, .int .i64 5] 3)).grown hg2 (by intro e; injection e; omega)
    have cT := bT2.cell; have fT := bT2.frozen; have cR := bR2.cell; have fR := bR2.frozen
    clear bT2 bR2 bT bR
    have HR2 := Lib.hid hr2
    have HG2 := Lib.hid hg3
    clear hr2 hg3 hg2
    go_wp2
    refine bodyPost_ret (v := .agg #[.int .i64 lo, .int .i64 x, .int .i64 du, .int .i64 ev, .bool cr]) (by simp [results, Try.results43, go_sem, cR]) rfl ⟨lo, x, du, ev, cr, p + 1 + 1, rfl, ?_, by omega, ?_, ?_⟩
    · obtain ⟨s1, s2, s3, s4⟩ := HS.out; exact ⟨s1, ⟨hx1, hx2⟩, s3, s4⟩
    · repeat (refine Rd.set ?_ (by dsimp only; omega) (by dsimp only; omega) _)
      exact HR2.out
    · repeat (refine gb_set ?_ (.inr (by dsimp only; omega)) _)
      exact HG2.out
  by_cases e2 : v = 2
  · subst e2
    go_wp2_with fail
    refine (num_any _ B g A n c f (p + 1) _ 3 (-1) 21 (HR1.out.alloc _) (by omega) (by omega) (by omega) (by omega) ?_).mono ?_
    · exact lit_cells _ _ _ _ _ (fun i hi => by rcases (by omega : i = 0 ∨ i = 1 ∨ i = 2) with rfl | rfl | rfl <;> exact ⟨_, rfl, by decide, by decide⟩)
    rintro e w2 ⟨x, rfl, hx1, hx2, hr2, hg2⟩
    have hg3 := gb_trans (gb_alloc HG1.out _) hg2 (fun x e => .inl (by injection e with e; exact e.symm))
    have bT2 := (bT.alloc (.cells #[.int .i64 0, .int .i64 21, .int .i64 20] 3)).grown hg2 (by intro e; injection e; omega)
    have bR2 := (bR.alloc (.cells #[.int .i64 0, .int .i64 21, .int .i64 20] 3)).grown hg2 (by intro e; injection e; omega)
    have cT := bT2.cell; have fT := bT2.frozen; have cR := bR2.cell; have fR := bR2.frozen
    clear bT2 bR2 bT bR
    have HR2 := Lib.hid hr2
    have HG2 := Lib.hid hg3
    clear hr2 hg3 hg2
    go_wp2
    refine bodyPost_ret (v := .agg #[.int .i64 lo, .int .i64 hi, .int .i64 x, .int .i64 ev, .bool cr]) (by simp [results, Try.results43, go_sem, cR]) rfl ⟨lo, hi, x, ev, cr, p + 1 + 1, rfl, ?_, by omega, ?_, ?_⟩
    · obtain ⟨s1, s2, s3, s4⟩ := HS.out; exact ⟨s1, s2, ⟨hx1, hx2⟩, s4⟩
    · repeat (refine Rd.set ?_ (by dsimp only; omega) (by dsimp only; omega) _)
      exact HR2.out
    · repeat (refine gb_set ?_ (.inr (by dsimp only; omega)) _)
      exact HG2.out
  by_cases e3 : v = 3
  · subst e3
    have cT := bT.cell; have fT := bT.frozen; have cR := bR.cell; have fR := bR.frozen
    clear bT bR
    go_wp2
    refine bodyPost_ret (v := .agg #[.int .i64 lo, .int .i64 hi, .int .i64 du, .int .i64 ev, .bool (!cr)]) (by simp [results, Try.results43, go_sem, cR]) rfl ⟨lo, hi, du, ev, !cr, p + 1, rfl, HS.out, by omega, ?_, ?_⟩
    · repeat (refine Rd.set ?_ (by dsimp only; omega) (by dsimp only; omega) _)
      exact HR1.out
    · repeat (refine gb_set ?_ (.inr (by dsimp only; omega)) _)
      exact HG1.out
  by_cases e4 : v = 4
  · subst e4
    go_wp2_with fail
    refine (num_anyP _ B g A n c f (p + 1) _ 3 (fun x => (-1 ≤ x ∧ x ≤ 21) ∧ (evD x ∨ x < 1 ∨ 20 < x)) (HR1.out.alloc _) (by omega) (by omega) (by omega) (by omega) ?_).mono ?_
    · exact lit_cellsP _ _ _ _ _ rfl (fun i hi => by rcases (by omega : i = 0 ∨ i = 1 ∨ i = 2) with rfl | rfl | rfl <;> exact ⟨_, rfl, by decide, by first | exact .inr (.inl (by decide)) | exact .inr (.inr (by decide)) | exact .inl (by unfold evD; decide)⟩)
    rintro e w2 ⟨x, rfl, ⟨⟨hx1, hx2⟩, hxd⟩, hr2, hg2⟩
    have HXD := Lib.hid hxd
    clear hxd
    have hg3 := gb_trans (gb_alloc HG1.out _) hg2 (fun x e => .inl (by injection e with e; exact e.symm))
    have bT2 := (bT.alloc (.cells #[.int .i64 21, .int .i64 0, .int .i64 20] 3)).grown hg2 (by intro e; injection e; omega)
    have bR2 := (bR.alloc (.cells #[.int .i64 21, .int .i64 0, .int .i64 20] 3)).grown hg2 (by intro e; injection e; omega)
    have cT := bT2.cell; have fT := bT2.frozen; have cR := bR2.cell; have fR := bR2.frozen
    clear bT2 bR2 bT bR
    have HR2 := Lib.hid hr2
    have HG2 := Lib.hid hg3
    clear hr2 hg3 hg2
    go_wp2
    refine bodyPost_ret (v := .agg #[.int .i64 lo, .int .i64 hi, .int .i64 du, .int .i64 x, .bool cr]) (by simp [results, Try.results43, go_sem, cR]) rfl ⟨lo, hi, du, x, cr, p + 1 + 1, rfl, ?_, by omega, ?_, ?_⟩
    · obtain ⟨s1, s2, s3, s4, s5⟩ := HS.out; exact ⟨s1, s2, s3, ⟨hx1, hx2⟩, HXD.out⟩
    · repeat (refine Rd.set ?_ (by dsimp only; omega) (by dsimp only; omega) _)
      exact HR2.out
    · repeat (refine gb_set ?_ (.inr (by dsimp only; omega)) _)
      exact HG2.out
  have t0 : (v == 0) = false := by simpa using e0
  have t1 : (v == 1) = false := by simpa using e1
  have t2 : (v == 2) = false := by simpa using e2
  have t3 : (v == 3) = false := by simpa using e3
  have t4 : (v == 4) = false := by simpa using e4
  clear e0 e1 e2 e3 e4
  have cT := bT.cell; have fT := bT.frozen; have cR := bR.cell; have fR := bR.frozen
  clear bT bR
  go_wp2
  refine bodyPost_ret (v := .agg #[.int .i64 lo, .int .i64 hi, .int .i64 du, .int .i64 ev, .bool cr]) (by simp [results, Try.results43, go_sem, cR]) rfl ⟨lo, hi, du, ev, cr, p + 1, rfl, HS.out, by omega, ?_, ?_⟩
  · repeat (refine Rd.set ?_ (by dsimp only; omega) (by dsimp only; omega) _)
    exact HR1.out
  · repeat (refine gb_set ?_ (.inr (by dsimp only; omega)) _)
    exact HG1.out

def goodT (lo hi du ev : Int) (cr : Bool) : Prop := 1 ≤ lo ∧ lo ≤ hi ∧ hi ≤ du ∧ du ≤ ev ∧ ev ≤ 20 ∧ (cr = false → lo = hi) ∧ evD ev

theorem goodT.small {lo hi du ev : Int} {cr : Bool} (h : goodT lo hi du ev cr) : smallT lo hi du ev cr := by
  obtain ⟨h1, h2, h3, h4, h5, _, h7⟩ := h; exact ⟨⟨by omega, by omega⟩, ⟨by omega, by omega⟩, ⟨by omega, by omega⟩, ⟨by omega, by omega⟩, .inl h7⟩
theorem goodT.valid {lo hi du ev : Int} {cr : Bool} (h : goodT lo hi du ev cr) : validB lo hi du ev cr = true := by
  obtain ⟨h1, h2, h3, h4, h5, h6, _⟩ := h
  cases cr
  · obtain rfl := h6 rfl
    simp [validB]; omega
  · simp [validB]; omega

set_option maxHeartbeats 2000000 in
theorem task_any (w : World) (B g : Nat) (A : Option Addr) (n c : Nat) (f : Nat → Int) (p : Nat) (hr : Rd w B g A n c f p) (hp : p ≤ 100000) :
    Calls Try.prog 44 #[.pointer (some ⟨g, 0, none⟩)] w (TkOut B g A n c f p 6 goodT w) := by
  have HR := Lib.hid hr
  have hgl := hr.lt
  have hBg := hr.ge
  clear hr
  go_enter Try.func44, Try.ntmps44
  go_wp2_with fail
  -- every
  refine (num_anyP _ B g A n c f p _ 8 (fun v => (2 ≤ v ∧ v ≤ 20) ∧ evD v) ((HR.out.alloc _).alloc _) (by omega) (by omega) (by omega) (by simp; omega) ?_).mono ?_
  · exact lit_cellsP _ _ _ _ _ (by simp) (fun i hi => by rcases (by omega : i = 0 ∨ i = 1 ∨ i = 2 ∨ i = 3 ∨ i = 4 ∨ i = 5 ∨ i = 6 ∨ i = 7) with rfl | rfl | rfl | rfl | rfl | rfl | rfl | rfl <;> exact ⟨_, rfl, by decide, by unfold evD; decide⟩)
  rintro e w1 ⟨ev, rfl, ⟨⟨hev1, hev2⟩, hevd⟩, hr1, hg1⟩
  have HEV := Lib.hid hevd
  clear hevd
  have hsz1 : w.heap.size + 1 < w1.heap.size := by have := hg1.size; simp at this; omega
  have bR : Blk w1 w.heap.size 24 #[.int .i64 0, .int .i64 0, .int .i64 0, .int .i64 0, .bool false] := ((Blk.new w 24 _).alloc _).grown hg1 (by intro e; injection e; omega)
  have hgw1 : w.grownBy w1 (some g) := gb_trans (gb_alloc (gb_alloc (World.grownBy.refl w _) _) _) hg1 (fun x e => .inl (by injection e with e; exact e.symm))
  have HR1 := Lib.hid hr1
  have HG1 := Lib.hid hgw1
  have BR1 := Lib.hid bR
  clear hr1 hg1 hgw1 bR
  -- low
  go_wp2_with fail
  refine (pick_any _ B g A n c f _ (ev / 3 + 1) HR1.out (by omega) (by omega)).mono ?_
  rintro e w2 ⟨x, rfl, hx0, hx1, hx2, hr2, hg2⟩
  have hx := hx1 (by omega)
  clear hx1 hx2
  have hsz2 : w.heap.size + 1 < w2.heap.size := by have := hg2.size; omega
  have HR2 := Lib.hid hr2
  have HG2 := Lib.hid (gb_trans HG1.out hg2 (fun x e => .inl (by injection e with e; exact e.symm)))
  have BR2 := Lib.hid (BR1.out.grown hg2 (by intro e; injection e; omega))
  clear hr2 hg2 BR1 HR1 HG1
  -- the task; critical?
  go_wp2_with fail
  refine (pick_any _ B g A n c f _ 2 (HR2.out.alloc _) (by omega) (by omega)).mono ?_
  rintro e w3 ⟨y, rfl, hy0, _, _, hr3, hg3⟩
  have hsz3 : w2.heap.size < w3.heap.size := by have := hg3.size; simp at this; omega
  have HR3 := Lib.hid hr3
  have HG3 := Lib.hid (gb_trans (gb_alloc HG2.out _) hg3 (fun x e => .inl (by injection e with e; exact e.symm)))
  have BR3 := Lib.hid ((BR2.out.alloc (.cells #[.int .i64 (1 + x), .int .i64 (1 + x), .int .i64 ev, .int .i64 ev, .bool false] 24)).grown hg3 (by intro e; injection e; omega))
  have BT3 := Lib.hid ((Blk.new w2 24 #[.int .i64 (1 + x), .int .i64 (1 + x), .int .i64 ev, .int .i64 ev, .bool false]).grown hg3 (by intro e; injection e; omega))
  clear hr3 hg3 BR2 HR2 HG2
  by_cases hy : y = 0
  · subst hy
    have cT := BT3.out.cell; have fT := BT3.out.frozen
    go_wp2_with fail
    refine (pick_any _ B g A n c f (p + 1 + 1 + 1) (ev / 3 + 1) (HR3.out.set (by dsimp only; omega) (by dsimp only; omega) _) (by omega) (by omega)).mono ?_
    rintro e w4 ⟨z, rfl, hz0, hz1, hz2, hr4, hg4⟩
    have hz := hz1 (by omega)
    clear hz1 hz2 cT fT
    have hsz4 : w2.heap.size < w4.heap.size := by have := hg4.size; simp [World.setCell] at this; omega
    have HR4 := Lib.hid hr4
    have HG4 := Lib.hid (gb_trans (gb_set HG3.out (.inr (by dsimp only; omega)) _) hg4 (fun x e => .inl (by injection e with e; exact e.symm)))
    have BR4 := Lib.hid ((BR3.out.far (by dsimp only; omega) _).grown hg4 (by intro e; injection e; omega))
    have BT4 : Hid (Blk w4 w2.heap.size 24 #[.int .i64 (1 + x), .int .i64 (1 + x), .int .i64 ev, .int .i64 ev, .bool true]) := (BT3.out.set_ 4 (.bool true)).grown hg4 (by intro e; injection e; omega)
    clear hr4 hg4 HR3 HG3 BR3 BT3
    have cT := BT4.out.cell; have fT := BT4.out.frozen
    have hc : ¬ ev < 1 + x + z := by omega
    go_wp2_with fail
    clear cT fT
    refine (pick_any _ B g A n c f (p + 1 + 1 + 1 + 1) 3 ?_ (by omega) (by omega)).mono ?_
    · repeat (refine Rd.set ?_ (by dsimp only; omega) (by dsimp only; omega) _)
      exact HR4.out
    rintro e w5 ⟨u, rfl, hu0, _, _, hr5, hg5⟩
    have hsz5 : w2.heap.size < w5.heap.size := by have := hg5.size; first | omega | (simp [World.setCell] at this; omega)
    have HR5 := Lib.hid hr5
    have HG5 : Hid (w.grownBy w5 (some g)) := gb_trans (by
      repeat (refine gb_set ?_ (.inr (by dsimp only; omega)) _)
      exact HG4.out) hg5 (fun x e => .inl (by injection e with e; exact e.symm))
    have BR5 : Hid (Blk w5 w.heap.size 24 #[.int .i64 0, .int .i64 0, .int .i64 0, .int .i64 0, .bool false]) := Blk.grown (by
      repeat (refine Blk.far ?_ (by dsimp only; omega) _)
      exact BR4.out) hg5 (by intro e; injection e; omega)
    have BT5 : Hid (Blk w5 w2.heap.size 24 #[.int .i64 (1 + x), .int .i64 (1 + x + z), .int .i64 ev, .int .i64 ev, .bool true]) := Blk.grown (by
      first
        | exact BT4.out
        | exact BT4.out.set_ _ _
        | exact (BT4.out.set_ _ _).set_ _ _) hg5 (by intro e; injection e; omega)
    clear hr5 hg5
    have cT5 := BT5.out.cell; have fT5 := BT5.out.frozen; have cR5 := BR5.out.cell; have fR5 := BR5.out.frozen
    by_cases hu : u = 0
    · subst hu
      go_wp2_with fail
      have b1 : p + 1 + 1 + 1 + 1 + 1 ≤ 1000000 := by omega
      have b2 : ev - (1 + x + z) + 1 ≤ 1000000 := by omega
      have b3 : 1 ≤ ev - (1 + x + z) + 1 := by omega
      have b4 : ∀ q : Int, 0 ≤ q → q < ev - (1 + x + z) + 1 → IntKind.i64.wrap (1 + x + z + q) = 1 + x + z + q := fun q _ _ => IntWalk.i64_in _ (by omega)
      have b5 : some w2.heap.size ≠ some g := by intro e; injection e; omega
      have B4 := Lib.hid b4
      have B5 := Lib.hid b5
      clear b4 b5
      have k1 : IntKind.i64.wrap (ev - (1 + x + z)) = ev - (1 + x + z) := IntWalk.i64_in _ (by omega)
      have k2 : IntKind.i64.wrap (ev - (1 + x + z) + 1) = ev - (1 + x + z) + 1 := IntWalk.i64_in _ (by clear k1; omega)
      go_region_held3 (fun W => W.cell? ⟨w2.heap.size, 1, none⟩ = some (.int .i64 (1 + x + z))) (first | assumption | (simp [go_sem, *]; done))
        ((go_at_call 46; refine (pick_any _ B g A n c f (p + 1 + 1 + 1 + 1 + 1) (ev - (1 + x + z) + 1) (by exact ⟨HR5.out.blk, HR5.out.ge, HR5.out.len, HR5.out.at_, HR5.out.byte⟩) b1 b2).mono ?_; rintro e w6 ⟨q, rfl, hq0, hq1, hq2, hr6, hg6⟩; have k3 := B4.out q hq0 (hq1 b3); have BT6 := Lib.hid (BT5.out.grown (w' := w6) ⟨hg6.os, hg6.tape, hg6.output, hg6.size, hg6.block⟩ B5.out); have cT6 := BT6.out.cell; have fT6 := BT6.out.frozen; clear cT5 fT5; have HR6 := Lib.hid hr6; have HG6 := Lib.hid hg6; clear hr6 hg6))
      clear k1 k2 k3
      have hq := hq1 b3
      have hg6 : w5.grownBy w6 (some g) := ⟨HG6.out.os, HG6.out.tape, HG6.out.output, HG6.out.size, HG6.out.block⟩
      have HG7 := Lib.hid (gb_trans HG5.out hg6 (fun x e => .inl (by injection e with e; exact e.symm)))
      have BR6 := Lib.hid (BR5.out.grown hg6 (by intro e; injection e; omega))
      clear hg6 cR5 fR5 hq1 hq2
      have cR6 := BR6.out.cell; have fR6 := BR6.out.frozen
      go_wp2
      refine bodyPost_ret (v := .agg #[.int .i64 (1 + x), .int .i64 (1 + x + z), .int .i64 (1 + x + z + q), .int .i64 ev, .bool true]) (by simp [results, Try.results44, go_sem, cR6]) rfl ⟨1 + x, 1 + x + z, 1 + x + z + q, ev, true, p + 1 + 1 + 1 + 1 + 1 + 1, rfl, ⟨by omega, by omega, by omega, by omega, by omega, fun h => (by cases h), HEV.out⟩, by omega, ?_, ?_⟩
      · repeat (refine Rd.set ?_ (by dsimp only; omega) (by dsimp only; omega) _)
        exact HR6.out
      · repeat (refine gb_set ?_ (.inr (by dsimp only; omega)) _)
        exact HG7.out
    · have tu : (u == 0) = false := by simpa using hu
      clear hu
      go_wp2
      refine bodyPost_ret (v := .agg #[.int .i64 (1 + x), .int .i64 (1 + x + z), .int .i64 ev, .int .i64 ev, .bool true]) (by simp [results, Try.results44, go_sem, cR5]) rfl ⟨1 + x, 1 + x + z, ev, ev, true, p + 1 + 1 + 1 + 1 + 1, rfl, ⟨by omega, by omega, by omega, by omega, by omega, fun h => (by cases h), HEV.out⟩, by omega, ?_, ?_⟩
      · repeat (refine Rd.set ?_ (by dsimp only; omega) (by dsimp only; omega) _)
        exact HR5.out
      · repeat (refine gb_set ?_ (.inr (by dsimp only; omega)) _)
        exact HG5.out
  · have ty : (y == 0) = false := by simpa using hy
    clear hy
    have cT := BT3.out.cell; have fT := BT3.out.frozen
    have hc : ¬ ev < 1 + x := by omega
    go_wp2_with fail
    clear cT fT
    refine (pick_any _ B g A n c f (p + 1 + 1 + 1) 3 ?_ (by omega) (by omega)).mono ?_
    · repeat (refine Rd.set ?_ (by dsimp only; omega) (by dsimp only; omega) _)
      exact HR3.out
    rintro e w5 ⟨u, rfl, hu0, _, _, hr5, hg5⟩
    have hsz5 : w2.heap.size < w5.heap.size := by have := hg5.size; first | omega | (simp [World.setCell] at this; omega)
    have HR5 := Lib.hid hr5
    have HG5 : Hid (w.grownBy w5 (some g)) := gb_trans (by
      repeat (refine gb_set ?_ (.inr (by dsimp only; omega)) _)
      exact HG3.out) hg5 (fun x e => .inl (by injection e with e; exact e.symm))
    have BR5 : Hid (Blk w5 w.heap.size 24 #[.int .i64 0, .int .i64 0, .int .i64 0, .int .i64 0, .bool false]) := Blk.grown (by
      repeat (refine Blk.far ?_ (by dsimp only; omega) _)
      exact BR3.out) hg5 (by intro e; injection e; omega)
    have BT5 : Hid (Blk w5 w2.heap.size 24 #[.int .i64 (1 + x), .int .i64 (1 + x), .int .i64 ev, .int .i64 ev, .bool false]) := Blk.grown (by
      first
        | exact BT3.out
        | exact BT3.out.set_ _ _
        | exact (BT3.out.set_ _ _).set_ _ _) hg5 (by intro e; injection e; omega)
    clear hr5 hg5
    have cT5 := BT5.out.cell; have fT5 := BT5.out.frozen; have cR5 := BR5.out.cell; have fR5 := BR5.out.frozen
    by_cases hu : u = 0
    · subst hu
      go_wp2_with fail
      have b1 : p + 1 + 1 + 1 + 1 ≤ 1000000 := by omega
      have b2 : ev - (1 + x) + 1 ≤ 1000000 := by omega
      have b3 : 1 ≤ ev - (1 + x) + 1 := by omega
      have b4 : ∀ q : Int, 0 ≤ q → q < ev - (1 + x) + 1 → IntKind.i64.wrap (1 + x + q) = 1 + x + q := fun q _ _ => IntWalk.i64_in _ (by omega)
      have b5 : some w2.heap.size ≠ some g := by intro e; injection e; omega
      have B4 := Lib.hid b4
      have B5 := Lib.hid b5
      clear b4 b5
      have k1 : IntKind.i64.wrap (ev - (1 + x)) = ev - (1 + x) := IntWalk.i64_in _ (by omega)
      have k2 : IntKind.i64.wrap (ev - (1 + x) + 1) = ev - (1 + x) + 1 := IntWalk.i64_in _ (by clear k1; omega)
      go_region_held3 (fun W => W.cell? ⟨w2.heap.size, 1, none⟩ = some (.int .i64 (1 + x))) (first | assumption | (simp [go_sem, *]; done))
        ((go_at_call 46; refine (pick_any _ B g A n c f (p + 1 + 1 + 1 + 1) (ev - (1 + x) + 1) (by exact ⟨HR5.out.blk, HR5.out.ge, HR5.out.len, HR5.out.at_, HR5.out.byte⟩) b1 b2).mono ?_; rintro e w6 ⟨q, rfl, hq0, hq1, hq2, hr6, hg6⟩; have k3 := B4.out q hq0 (hq1 b3); have BT6 := Lib.hid (BT5.out.grown (w' := w6) ⟨hg6.os, hg6.tape, hg6.output, hg6.size, hg6.block⟩ B5.out); have cT6 := BT6.out.cell; have fT6 := BT6.out.frozen; clear cT5 fT5; have HR6 := Lib.hid hr6; have HG6 := Lib.hid hg6; clear hr6 hg6))
      clear k1 k2 k3
      have hq := hq1 b3
      have hg6 : w5.grownBy w6 (some g) := ⟨HG6.out.os, HG6.out.tape, HG6.out.output, HG6.out.size, HG6.out.block⟩
      have HG7 := Lib.hid (gb_trans HG5.out hg6 (fun x e => .inl (by injection e with e; exact e.symm)))
      have BR6 := Lib.hid (BR5.out.grown hg6 (by intro e; injection e; omega))
      clear hg6 cR5 fR5 hq1 hq2
      have cR6 := BR6.out.cell; have fR6 := BR6.out.frozen
      go_wp2
      refine bodyPost_ret (v := .agg #[.int .i64 (1 + x), .int .i64 (1 + x), .int .i64 (1 + x + q), .int .i64 ev, .bool false]) (by simp [results, Try.results44, go_sem, cR6]) rfl ⟨1 + x, 1 + x, 1 + x + q, ev, false, p + 1 + 1 + 1 + 1 + 1, rfl, ⟨by omega, by omega, by omega, by omega, by omega, fun _ => by omega, HEV.out⟩, by omega, ?_, ?_⟩
      · repeat (refine Rd.set ?_ (by dsimp only; omega) (by dsimp only; omega) _)
        exact HR6.out
      · repeat (refine gb_set ?_ (.inr (by dsimp only; omega)) _)
        exact HG7.out
    · have tu : (u == 0) = false := by simpa using hu
      clear hu
      go_wp2
      refine bodyPost_ret (v := .agg #[.int .i64 (1 + x), .int .i64 (1 + x), .int .i64 ev, .int .i64 ev, .bool false]) (by simp [results, Try.results44, go_sem, cR5]) rfl ⟨1 + x, 1 + x, ev, ev, false, p + 1 + 1 + 1 + 1, rfl, ⟨by omega, by omega, by omega, by omega, by omega, fun _ => by omega, HEV.out⟩, by omega, ?_, ?_⟩
      · repeat (refine Rd.set ?_ (by dsimp only; omega) (by dsimp only; omega) _)
        exact HR5.out
      · repeat (refine gb_set ?_ (.inr (by dsimp only; omega)) _)
        exact HG5.out

def goodTk (t : Tk) : Prop := goodT t.lo t.hi t.du t.ev t.cr
def smallTk (t : Tk) : Prop := smallT t.lo t.hi t.du t.ev t.cr

/-- What a draw of a list of tasks leaves. -/
def LsOut (B g : Nat) (A : Option Addr) (n c : Nat) (f : Nat → Int) (p d m : Nat) (good : Tk → Prop) (w : World) (e : Ending) (w' : World) : Prop :=
  ∃ (v : Value) (ts : List Tk) (p' : Nat), e = .returned v ∧ ts.length ≤ m ∧ (∀ t ∈ ts, good t) ∧ p' ≤ p + d ∧ Rd w' B g A n c f p' ∧ w.grownBy w' (some g) ∧ Own w' w.heap.size v ts

set_option maxRecDepth 100000 in
set_option maxHeartbeats 1000000 in
theorem set_any (w : World) (B g : Nat) (A : Option Addr) (n c : Nat) (f : Nat → Int) (p : Nat) (hr : Rd w B g A n c f p) (hp : p ≤ 10000) :
    Calls Try.prog 70 #[.pointer (some ⟨g, 0, none⟩)] w (LsOut B g A n c f p 40 5 goodTk w) := by
  obtain ⟨i0, hi, hz0, hz1, hz2⟩ := info_parts info_task
  have HR := Lib.hid hr
  have hgl := hr.lt
  have hBg := hr.ge
  clear hr
  go_enter Try.func70, Try.ntmps70
  go_wp2_with fail
  refine (num_any _ B g A n c f p _ 6 0 5 ((HR.out.alloc _).alloc _) (by omega) (by omega) (by omega) (by simp; omega) ?_).mono ?_
  · exact lit_cells_at _ _ _ _ _ _ (by simp) (fun i hi => by rcases (by omega : i = 0 ∨ i = 1 ∨ i = 2 ∨ i = 3 ∨ i = 4 ∨ i = 5) with rfl | rfl | rfl | rfl | rfl | rfl <;> exact ⟨_, rfl, by decide, by decide⟩)
  rintro e w1 ⟨m, rfl, hm0, hm1, hr1, hg1⟩
  obtain ⟨m, rfl⟩ := Int.eq_ofNat_of_zero_le hm0
  have hm : m ≤ 5 := by omega
  have own1 : Own w1 w.heap.size (.slice (some ⟨w.heap.size, 0, none⟩) 0 0) [] := by
    have b0 : Blk w1 w.heap.size 24 #[] := ((Blk.new w 24 _).alloc _).grown hg1 (by intro e; injection e; omega)
    exact ⟨rfl, .inr ⟨w.heap.size, 0, #[], rfl, Nat.le_refl _, b0, Nat.le_refl _, Nat.zero_le _, rfl, rfl⟩⟩
  have hgw1 : w.grownBy w1 (some g) := gb_trans (gb_alloc (gb_alloc (World.grownBy.refl w _) _) _) hg1 (fun x e => .inl (by injection e with e; exact e.symm))
  have HR1 := Lib.hid hr1
  have HG1 := Lib.hid hgw1
  have HO1 := Lib.hid own1
  clear hr1 hg1 hgw1 own1
  go_wp2
  go_loopw [3, 4] (fun v i wr => ∃ (j : Nat) (ts : List Tk) (p' : Nat), i = .int .i64 j ∧ ts.length + j ≤ 5 ∧ p' ≤ p + 2 + ts.length * 6 ∧ Hid (∀ t ∈ ts, goodTk t) ∧ Rd wr B g A n c f p' ∧ w.grownBy wr (some g) ∧ Own wr w.heap.size v ts) (fun _ i _ => (intOf i).toNat)
  case atStart => exact ⟨m, [], p + 1, rfl, by simpa using hm, by omega, fun t ht => by simp at ht, HR1.out, HG1.out, HO1.out⟩
  case round =>
    obtain ⟨j, ts, p', rfl, hj, hp', hgood, hr2, hg2, ho2⟩ := hrel
    have HR2 := Lib.hid hr2
    have HG2 := Lib.hid hg2
    have HO2 := Lib.hid ho2
    clear hr2 hg2 ho2
    by_cases h0 : 0 < j
    · go_wp2_with fail
      refine (task_any _ B g A n c f p' HR2.out (by omega)).mono ?_
      rintro e w3 ⟨lo, hi', du, ev, cr, p3, rfl, hg, hp3, hr3, hgb3⟩
      have HO3 := Lib.hid (HO2.out.kept hgb3 (fun k e => by injection e with e; omega))
      have HG3 := Lib.hid (gb_trans HG2.out hgb3 (fun x e => .inl (by injection e with e; exact e.symm)))
      have HR3 := Lib.hid hr3
      have hsz3 : w.heap.size ≤ w3.heap.size := HG3.out.size
      clear hr3 hgb3
      have b1 : ts.length + 1 ≤ maxLen := by unfold maxLen; omega
      have b2 : (ts.length + 1) * 40 ≤ 140737488355328 := by omega
      go_wp2_with (at_builtin; refine wpList_append_own _ rfl (.tmp 13) (.tmp 16) 30 rfl w.heap.size 24 i0 _ 5 40 Try.underlying30 hi hz0 hz1 hz2 rfl (by decide) _ ts.length (ts.flatMap Tk.cells) rfl (HO3.out.alloc _) ⟨w3.heap.size, 0, none⟩ 1 1 (Tk.cells ⟨lo, hi', du, ev, cr⟩) rfl rfl (cell_new5 _ ⟨lo, hi', du, ev, cr⟩ _) (by intro u hu; exact cells_one [⟨lo, hi', du, ev, cr⟩] u (by simpa using hu)) b1 b2 (by simp; omega) ?_; intro v' w4 hown' hgrow _)
      have HO4 := Lib.hid (Own.snoc hown')
      have HG4 := Lib.hid (gb_trans (gb_alloc HG3.out _) hgrow (fun x e => .inr ((World.ownsRow.lt HO3.out x e).1)))
      have HR4 := Lib.hid ((HR3.out.alloc _).grown hgrow (fun k e => by have := (World.ownsRow.lt HO3.out k e).1; exact ⟨by omega, by omega⟩))
      have hgood' : Hid (∀ t ∈ ts ++ [⟨lo, hi', du, ev, cr⟩], goodTk t) := fun t ht => by
        rcases List.mem_append.1 ht with h | h
        · exact hgood.out t h
        · simp at h; subst h; exact hg
      clear hown' hgrow hg
      go_wp2
      go_roundw
      case rel => exact ⟨j - 1, ts ++ [⟨lo, hi', du, ev, cr⟩], p3, by go_num, by simp; omega, by simp; omega, hgood', HR4.out, HG4.out, HO4.out⟩
      case measure => simp [intOf]; omega
    · obtain rfl : j = 0 := by omega
      go_wp2
      go_ret
      exact ⟨_, ts, p', rfl, by omega, hgood.out, by omega, HR2.out, HG2.out, HO2.out⟩

set_option maxRecDepth 100000 in
set_option maxHeartbeats 2000000 in
theorem some_any (w : World) (B g : Nat) (A : Option Addr) (n c : Nat) (f : Nat → Int) (p : Nat) (hr : Rd w B g A n c f p) (hp : p ≤ 1000) :
    Calls Try.prog 68 #[.pointer (some ⟨g, 0, none⟩)] w (LsOut B g A n c f p 100 6 smallTk w) := by
  obtain ⟨i0, hi, hz0, hz1, hz2⟩ := info_parts info_task
  have HR0 := Lib.hid hr
  have hgl := hr.lt
  have hBg := hr.ge
  clear hr
  go_enter Try.func68, Try.ntmps68
  go_wp2_with fail
  refine (set_any _ B g A n c f p HR0.out (by omega)).mono ?_
  rintro e w1 ⟨v, ts, p1, rfl, hl1, hg1, hp1, hr1, hgb1, ho1⟩
  obtain ⟨A1, c1, rfl⟩ := ho1.form
  have HR := Lib.hid hr1
  have HG := Lib.hid hgb1
  have HO := Lib.hid ho1
  have HS := Lib.hid (fun t ht => (hg1 t ht).small : ∀ t ∈ ts, smallTk t)
  clear hr1 hgb1 ho1 hg1
  by_cases h0 : ts.length = 0
  · have h0' : ¬ 0 < ts.length := by omega
    clear h0
    go_wp2_with fail
    refine (pick_any _ B g A n c f _ 24 HR.out (by omega) (by omega)).mono ?_
    rintro e w4 ⟨y, rfl, hy0, _, _, hr4, hg4⟩
    have HR4 := Lib.hid hr4
    have HG4 := Lib.hid (gb_trans HG.out hg4 (fun x e => .inl (by injection e with e; exact e.symm)))
    have HO4 := Lib.hid (HO.out.kept hg4 (fun k e => by injection e with e; omega))
    clear hr4 hg4 HR HG HO
    by_cases hy : y = 0
    · subst hy
      go_wp2
      go_loopw [3] (fun v wr => ∃ (ts : List Tk) (p' : Nat), ts.length ≤ 6 ∧ p' ≤ p + 60 + ts.length * 6 ∧ Hid (∀ t ∈ ts, smallTk t) ∧ Rd wr B g A n c f p' ∧ w.grownBy wr (some g) ∧ Own wr w.heap.size v ts) (fun v _ => 7 - sliceLen v)
      case atStart => exact ⟨ts, _, by omega, by omega, HS.out, HR4.out, HG4.out, HO4.out⟩
      case round =>
        obtain ⟨ts5, p5, hl5, hp5, hgood5, hr5, hg5, ho5⟩ := hrel
        obtain ⟨A5, c5, rfl⟩ := ho5.form
        have HR5 := Lib.hid hr5
        have HG5 := Lib.hid hg5
        have HO5 := Lib.hid ho5
        clear hr5 hg5 ho5
        by_cases h6 : ts5.length ≤ 5
        · go_wp2_with fail
          refine (task_any _ B g A n c f p5 HR5.out (by omega)).mono ?_
          rintro e w6 ⟨lo, hi', du, ev, cr, p6, rfl, hg, hp6, hr6, hgb6⟩
          have HO6 := Lib.hid (HO5.out.kept hgb6 (fun k e => by injection e with e; omega))
          have HG6 := Lib.hid (gb_trans HG5.out hgb6 (fun x e => .inl (by injection e with e; exact e.symm)))
          have HR6 := Lib.hid hr6
          have hsz6 : w.heap.size ≤ w6.heap.size := HG6.out.size
          clear hr6 hgb6
          have b1 : ts5.length + 1 ≤ maxLen := by unfold maxLen; omega
          have b2 : (ts5.length + 1) * 40 ≤ 140737488355328 := by omega
          go_wp2_with (at_builtin; refine wpList_append_own _ rfl (.tmp 29) (.tmp 32) 30 rfl w.heap.size 24 i0 _ 5 40 Try.underlying30 hi hz0 hz1 hz2 rfl (by decide) _ ts5.length (ts5.flatMap Tk.cells) rfl (HO6.out.alloc _) ⟨w6.heap.size, 0, none⟩ 1 1 (Tk.cells ⟨lo, hi', du, ev, cr⟩) rfl rfl (cell_new5 _ ⟨lo, hi', du, ev, cr⟩ _) (by intro u hu; exact cells_one [⟨lo, hi', du, ev, cr⟩] u (by simpa using hu)) b1 b2 (by simp; omega) ?_; intro v' w7 hown' hgrow _)
          have HO7 := Lib.hid (Own.snoc hown')
          have HG7 := Lib.hid (gb_trans (gb_alloc HG6.out _) hgrow (fun x e => .inr ((World.ownsRow.lt HO6.out x e).1)))
          have HR7 := Lib.hid ((HR6.out.alloc _).grown hgrow (fun k e => by have := (World.ownsRow.lt HO6.out k e).1; exact ⟨by omega, by omega⟩))
          have hgood' : Hid (∀ t ∈ ts5 ++ [⟨lo, hi', du, ev, cr⟩], smallTk t) := fun t ht => by
            rcases List.mem_append.1 ht with h | h
            · exact hgood5.out t h
            · simp at h; subst h; exact hg.small
          have hl7 : sliceLen v' = ts5.length + 1 := by obtain ⟨_, _, e⟩ := HO7.out.form; rw [e]; simp [sliceLen]
          have HL7 := Lib.hid hl7
          clear hown' hgrow hg hl7
          go_wp2
          go_roundw
          case rel => exact ⟨ts5 ++ [⟨lo, hi', du, ev, cr⟩], p6, by simp; omega, by simp; omega, hgood', HR7.out, HG7.out, HO7.out⟩
          case measure => have := HL7.out; simp [sliceLen] at this ⊢; omega
        · go_wp2
          go_ret
          exact ⟨_, ts5, p5, rfl, hl5, hgood5.out, by omega, HR5.out, HG5.out, HO5.out⟩
    · have ty : (y == 0) = false := by simpa using hy
      clear hy
      go_wp2
      go_ret
      exact ⟨_, ts, _, rfl, by omega, HS.out, by omega, HR4.out, HG4.out, HO4.out⟩
  · have h0' : 0 < ts.length := by omega
    clear h0
    obtain ⟨h, hA1⟩ : ∃ h, A1 = some ⟨h, 0, none⟩ := by
      rcases HO.out.2 with ⟨e, e0⟩ | ⟨h, cap, cur, e, _⟩
      · omega
      · injection e with e1 e2 e3; exact ⟨h, e1⟩
    subst hA1
    go_wp2_with fail
    refine (pick_any _ B g A n c f _ (ts.length : Int) HR.out (by omega) (by omega)).mono ?_
    rintro e w2 ⟨k, rfl, hk0, hk1, _, hr2, hg2⟩
    obtain ⟨k, rfl⟩ := Int.eq_ofNat_of_zero_le hk0
    have hk : k < ts.length := by have := hk1 (by omega); omega
    clear hk1
    have HR2 := Lib.hid hr2
    have HG2 := Lib.hid (gb_trans HG.out hg2 (fun x e => .inl (by injection e with e; exact e.symm)))
    have HO2 := Lib.hid (HO.out.kept hg2 (fun k e => by injection e with e; omega))
    clear hr2 hg2 HR HG HO
    obtain ⟨t, ht⟩ : ∃ t, ts[k]? = some t := ⟨ts[k], List.getElem?_eq_getElem hk⟩
    have hst := HS.out t (List.mem_of_getElem? ht)
    obtain ⟨b, o, eA, hbl, c0, c1', c2, c3, c4⟩ := HO2.out.reads.2.at_ k t ht
    injection eA with eA
    injection eA with eA1 eA2
    subst eA1 eA2
    simp only [Nat.zero_add] at c0 c1' c2 c3 c4
    have HST := Lib.hid hst
    have HT := Lib.hid ht
    clear hst ht
    go_wp2_with fail
    refine (wrong_any _ B g A n c f _ t.lo t.hi t.du t.ev t.cr HR2.out (by omega) HST.out).mono ?_
    rintro e w3 ⟨lo, hi', du, ev, cr, p3, rfl, hs3, hp3, hr3, hg3⟩
    clear c0 c1' c2 c3 c4
    have HR3 := Lib.hid hr3
    have HG3 := Lib.hid (gb_trans HG2.out hg3 (fun x e => .inl (by injection e with e; exact e.symm)))
    have HO3 := Lib.hid (HO2.out.kept hg3 (fun k e => by injection e with e; omega))
    have hge : w.heap.size ≤ h := (World.ownsRow.lt HO3.out h rfl).1
    have hfz := World.ownsRow.frozenAt HO3.out
    obtain ⟨b, o, eA, hbl, c0, c1', c2, c3, c4⟩ := HO3.out.reads.2.at_ k t HT.out
    injection eA with eA
    injection eA with eA1 eA2
    subst eA1 eA2
    simp only [Nat.zero_add] at c0 c1' c2 c3 c4
    have HS3 := Lib.hid hs3
    clear hr3 hg3 hs3
    go_wp2_with fail
    have HO := Lib.hid (HO3.out.put k ⟨lo, hi', du, ev, cr⟩ hk)
    have HR : Hid (Rd _ B g A n c f p3) := Rd.set (Rd.set (Rd.set (Rd.set (Rd.set HR3.out (q := ⟨h, k * 5, none⟩) (by dsimp only; omega) (by dsimp only; omega) (.int .i64 lo)) (q := ⟨h, k * 5 + 1, none⟩) (by dsimp only; omega) (by dsimp only; omega) (.int .i64 hi')) (q := ⟨h, k * 5 + 2, none⟩) (by dsimp only; omega) (by dsimp only; omega) (.int .i64 du)) (q := ⟨h, k * 5 + 3, none⟩) (by dsimp only; omega) (by dsimp only; omega) (.int .i64 ev)) (q := ⟨h, k * 5 + 4, none⟩) (by dsimp only; omega) (by dsimp only; omega) (.bool cr)
    have HG : Hid (w.grownBy _ (some g)) := gb_set (gb_set (gb_set (gb_set (gb_set HG3.out (p := ⟨h, k * 5, none⟩) (.inr (by dsimp only; omega)) (.int .i64 lo)) (p := ⟨h, k * 5 + 1, none⟩) (.inr (by dsimp only; omega)) (.int .i64 hi')) (p := ⟨h, k * 5 + 2, none⟩) (.inr (by dsimp only; omega)) (.int .i64 du)) (p := ⟨h, k * 5 + 3, none⟩) (.inr (by dsimp only; omega)) (.int .i64 ev)) (p := ⟨h, k * 5 + 4, none⟩) (.inr (by dsimp only; omega)) (.bool cr)
    obtain ⟨ts', hts', hlen'⟩ : ∃ ts', ts' = ts.set k ⟨lo, hi', du, ev, cr⟩ ∧ ts'.length = ts.length := ⟨_, rfl, by simp⟩
    have HSS : Hid (∀ t ∈ ts', smallTk t) := by rw [hts']; exact mem_set_small HS.out HS3.out
    clear HS
    have HS := HSS
    clear HSS
    rw [← hts'] at HO
    clear c0 c1' c2 c3 c4 hfz hts'
    have hlen6 : ts'.length ≤ 5 := by omega
    have HLL := Lib.hid hlen'
    clear hlen'
    refine (pick_any _ B g A n c f _ 24 HR.out (by omega) (by omega)).mono ?_
    rintro e w4 ⟨y, rfl, hy0, _, _, hr4, hg4⟩
    have HR4 := Lib.hid hr4
    have HG4 := Lib.hid (gb_trans HG.out hg4 (fun x e => .inl (by injection e with e; exact e.symm)))
    have HO4 := Lib.hid (HO.out.kept hg4 (fun k e => by injection e with e; omega))
    clear hr4 hg4 HR HG HO
    by_cases hy : y = 0
    · subst hy
      go_wp2
      go_loopw [3] (fun v wr => ∃ (ts : List Tk) (p' : Nat), ts.length ≤ 6 ∧ p' ≤ p + 60 + ts.length * 6 ∧ Hid (∀ t ∈ ts, smallTk t) ∧ Rd wr B g A n c f p' ∧ w.grownBy wr (some g) ∧ Own wr w.heap.size v ts) (fun v _ => 7 - sliceLen v)
      case atStart => exact ⟨ts', _, by omega, by omega, HS.out, HR4.out, HG4.out, HO4.out⟩
      case round =>
        obtain ⟨ts5, p5, hl5, hp5, hgood5, hr5, hg5, ho5⟩ := hrel
        obtain ⟨A5, c5, rfl⟩ := ho5.form
        have HR5 := Lib.hid hr5
        have HG5 := Lib.hid hg5
        have HO5 := Lib.hid ho5
        clear hr5 hg5 ho5
        by_cases h6 : ts5.length ≤ 5
        · go_wp2_with fail
          refine (task_any _ B g A n c f p5 HR5.out (by omega)).mono ?_
          rintro e w6 ⟨lo, hi', du, ev, cr, p6, rfl, hg, hp6, hr6, hgb6⟩
          have HO6 := Lib.hid (HO5.out.kept hgb6 (fun k e => by injection e with e; omega))
          have HG6 := Lib.hid (gb_trans HG5.out hgb6 (fun x e => .inl (by injection e with e; exact e.symm)))
          have HR6 := Lib.hid hr6
          have hsz6 : w.heap.size ≤ w6.heap.size := HG6.out.size
          clear hr6 hgb6
          have b1 : ts5.length + 1 ≤ maxLen := by unfold maxLen; omega
          have b2 : (ts5.length + 1) * 40 ≤ 140737488355328 := by omega
          go_wp2_with (at_builtin; refine wpList_append_own _ rfl (.tmp 29) (.tmp 32) 30 rfl w.heap.size 24 i0 _ 5 40 Try.underlying30 hi hz0 hz1 hz2 rfl (by decide) _ ts5.length (ts5.flatMap Tk.cells) rfl (HO6.out.alloc _) ⟨w6.heap.size, 0, none⟩ 1 1 (Tk.cells ⟨lo, hi', du, ev, cr⟩) rfl rfl (cell_new5 _ ⟨lo, hi', du, ev, cr⟩ _) (by intro u hu; exact cells_one [⟨lo, hi', du, ev, cr⟩] u (by simpa using hu)) b1 b2 (by simp; omega) ?_; intro v' w7 hown' hgrow _)
          have HO7 := Lib.hid (Own.snoc hown')
          have HG7 := Lib.hid (gb_trans (gb_alloc HG6.out _) hgrow (fun x e => .inr ((World.ownsRow.lt HO6.out x e).1)))
          have HR7 := Lib.hid ((HR6.out.alloc _).grown hgrow (fun k e => by have := (World.ownsRow.lt HO6.out k e).1; exact ⟨by omega, by omega⟩))
          have hgood' : Hid (∀ t ∈ ts5 ++ [⟨lo, hi', du, ev, cr⟩], smallTk t) := fun t ht => by
            rcases List.mem_append.1 ht with h | h
            · exact hgood5.out t h
            · simp at h; subst h; exact hg.small
          have hl7 : sliceLen v' = ts5.length + 1 := by obtain ⟨_, _, e⟩ := HO7.out.form; rw [e]; simp [sliceLen]
          have HL7 := Lib.hid hl7
          clear hown' hgrow hg hl7
          go_wp2
          go_roundw
          case rel => exact ⟨ts5 ++ [⟨lo, hi', du, ev, cr⟩], p6, by simp; omega, by simp; omega, hgood', HR7.out, HG7.out, HO7.out⟩
          case measure => have := HL7.out; simp [sliceLen] at this ⊢; omega
        · go_wp2
          go_ret
          exact ⟨_, ts5, p5, rfl, hl5, hgood5.out, by omega, HR5.out, HG5.out, HO5.out⟩
    · have ty : (y == 0) = false := by simpa using hy
      clear hy
      go_wp2
      go_ret
      exact ⟨_, ts', _, rfl, by omega, HS.out, by omega, HR4.out, HG4.out, HO4.out⟩


def DrewLE (m : Nat) (w : World) (e : Ending) (w' : World) : Prop :=
  ∃ (A : Option Addr) (c : Nat) (ts : List Tk) (z : Int), e = .returned (.tuple #[.slice A ts.length c, .int .i64 z]) ∧ ts.length ≤ m ∧ (∀ t ∈ ts, smallTk t) ∧ -1 ≤ z ∧ z ≤ 5 ∧ Own w' w.heap.size (.slice A ts.length c) ts ∧ Below w.heap.size w w'
def DrewL1 (m : Nat) (w : World) (e : Ending) (w' : World) : Prop :=
  ∃ (A : Option Addr) (c : Nat) (ts : List Tk), e = .returned (.slice A ts.length c) ∧ ts.length ≤ m ∧ (∀ t ∈ ts, smallTk t) ∧ Own w' w.heap.size (.slice A ts.length c) ts ∧ Below w.heap.size w w'
theorem insB_perm (t : Tk) (out : List Tk) : (insB t out).Perm (t :: out) := by
  unfold insB
  refine List.perm_middle.trans ?_
  rw [List.take_append_drop]
theorem foldl_perm (ts : List Tk) : ∀ out : List Tk, (ts.foldl (fun out t => insB t out) out).Perm (out ++ ts) := by
  induction ts with
  | nil => intro out; simp
  | cons t ts ih =>
    intro out
    rw [List.foldl_cons]
    refine (ih _).trans ?_
    refine ((insB_perm t out).append_right ts).trans ?_
    rw [List.cons_append]
    exact List.perm_middle.symm
theorem sortL_perm' (ts : List Tk) : (sortL ts).Perm ts := by simpa [sortL] using foldl_perm ts []
theorem sort_mem {ts : List Tk} {t : Tk} (h : t ∈ sortOf ts) : t ∈ ts := by
  unfold sortOf at h
  split at h
  · exact (sortL_perm' ts).mem_iff.1 h
  · cases h
set_option maxRecDepth 100000 in
set_option maxHeartbeats 2000000 in
theorem l3Case_any (w : World) (A : Option Addr) (n c : Nat) (f : Nat → Int) (h : Code w w.heap.size A n c f) :
    Calls Try.prog 51 #[.slice A n c] w (DrewLE 6 w) := by
  have H := Lib.hid h
  clear h
  go_enter Try.func51, Try.ntmps51
  go_wp2_with fail
  refine (open_any _ A n c f H.out).mono ?_
  rintro e w1 ⟨rfl, m, hr, hb⟩
  have hgl := hr.lt
  have HR := Lib.hid hr
  have HB := Lib.hid hb
  clear hr hb
  go_wp2_with fail
  refine (some_any _ _ _ _ _ _ _ _ HR.out (by omega)).mono ?_
  rintro e w2 ⟨v, ts, p, rfl, hl, hg, hp, hr, hgb, ho⟩
  obtain ⟨A2, c2, rfl⟩ := ho.form
  have hlt2 := hr.lt
  have HR2 := Lib.hid hr
  have HB2 := Lib.hid (below_of_gb HB.out hgb HB.out.size (Nat.le_refl _))
  have HO2 := Lib.hid ho
  have HS2 := Lib.hid hg
  clear hr hgb ho hg
  go_wp2_with fail
  refine (num_any _ _ _ _ _ _ _ p _ 6 (-1) 5 (HR2.out.alloc _) (by omega) (by omega) (by omega) (by omega) ?_).mono ?_
  · exact lit_cells_at _ _ _ _ _ _ (by simp) (fun i hi => by rcases (by omega : i = 0 ∨ i = 1 ∨ i = 2 ∨ i = 3 ∨ i = 4 ∨ i = 5) with rfl | rfl | rfl | rfl | rfl | rfl <;> exact ⟨_, rfl, by decide, by decide⟩)
  rintro e w3 ⟨z, rfl, z0, z1, hr3, hg3⟩
  have hgw3 : w2.grownBy w3 (some w.heap.size) := gb_trans (gb_alloc (World.grownBy.refl w2 _) _) hg3 (fun x e => .inl (by injection e with e; exact e.symm))
  have HB3 := Lib.hid (below_of_gb HB2.out hgw3 HB2.out.size (Nat.le_refl _))
  have HO3 := Lib.hid (HO2.out.kept hgw3 (fun k e => by injection e with e; omega))
  have HR3 := Lib.hid hr3
  have Z := Lib.hid (And.intro z0 z1)
  clear hr3 hg3 hgw3 z0 z1
  go_wp2_with fail
  refine (pick_any _ _ _ _ _ _ _ (p + 1) 3 HR3.out (by omega) (by omega)).mono ?_
  rintro e w4 ⟨y, rfl, y0, _, _, hr4, hg4⟩
  have HB4 := Lib.hid (below_of_gb HB3.out hg4 HB3.out.size (Nat.le_refl _))
  have HO4 := Lib.hid (HO3.out.kept hg4 (fun k e => by injection e with e; omega))
  have HR4 := Lib.hid hr4
  clear hr4 hg4
  by_cases hy : 0 < y
  · go_wp2_with fail
    refine (set_any _ _ _ _ _ _ _ _ HR4.out (by omega)).mono ?_
    rintro e w5 ⟨v5, us, p5, rfl, hl5, hg5, hp5, hr5, hgb5, ho5⟩
    obtain ⟨A5, c5, rfl⟩ := ho5.form
    have HB5 := Lib.hid (below_of_gb HB4.out hgb5 HB4.out.size (Nat.le_refl _))
    have HT5 := Lib.hid ho5.reads.2
    have HS5 : Hid (∀ t ∈ us, smallTk t) := fun t ht => (hg5 t ht).small
    clear hgb5 ho5 hr5 hg5
    go_wp2_with fail
    refine (sSortDue_any _ A5 _ c5 us HT5.out (by omega)).mono ?_
    rintro e w6 ⟨A6, c6, rfl, ho6, hb6⟩
    have HB6 := Lib.hid (bl_trans HB5.out hb6)
    have HO6 := Lib.hid (own_more ho6 HB5.out.size)
    have hlen := sortOf_le us
    have hl6 : (sortOf us).length ≤ 6 := by omega
    clear ho6 hb6
    go_wp2_with fail
    go_ret2
    exact ⟨A6, c6, sortOf us, z, rfl, hl6, fun t ht => HS5.out t (sort_mem ht), Z.out.1, Z.out.2, HO6.out, HB6.out⟩
  · go_wp2_with fail
    go_ret2
    exact ⟨A2, c2, ts, z, rfl, hl, HS2.out, Z.out.1, Z.out.2, own_more HO4.out HB.out.size, HB4.out⟩


set_option maxRecDepth 100000 in
theorem dDrawHoldsLow_any (w : World) (A : Option Addr) (n c : Nat) (f : Nat → Int) (h : Code w w.heap.size A n c f) :
    Calls Try.prog 60 #[.slice A n c] w (DrewL1 6 w) := by
  have H := Lib.hid h
  clear h
  go_enter Try.func60, Try.ntmps60
  go_wp2_with fail
  refine (l3Case_any _ A n c f H.out).mono ?_
  rintro e w1 ⟨A2, c2, ts, z, rfl, hl, hsm, z0, z1, ho, hb⟩
  have HX : Hid (DrewL1 6 w (.returned (.slice A2 ts.length c2)) w1) := ⟨A2, c2, ts, rfl, hl, hsm, ho, hb⟩
  clear hl hsm ho hb
  go_wp2_with fail
  go_ret
  exact HX.out

set_option maxRecDepth 100000 in
theorem dDrawBusyLow_any (w : World) (A : Option Addr) (n c : Nat) (f : Nat → Int) (h : Code w w.heap.size A n c f) :
    Calls Try.prog 38 #[.slice A n c] w (DrewL1 6 w) := by
  have H := Lib.hid h
  clear h
  go_enter Try.func38, Try.ntmps38
  go_wp2_with fail
  refine (dDrawHoldsLow_any _ A n c f H.out).mono ?_
  rintro e w1 ⟨A2, c2, ts, rfl, hl, hsm, ho, hb⟩
  have HX : Hid (DrewL1 6 w (.returned (.slice A2 ts.length c2)) w1) := ⟨A2, c2, ts, rfl, hl, hsm, ho, hb⟩
  clear hl hsm ho hb
  go_wp2_with fail
  go_ret
  exact HX.out

end Go.Proofs.Ytobkbbgllapcoaa.Dv
