/- Contract of what the reference draws as a task: it is a valid one. -/
import Derived.Test.YtjondedkgkohfaaDraw
namespace Go.Proofs.Ytjondedkgkohfaa
open Go.RowKit

def goodT (lo hi du ev : Int) (cr : Bool) : Prop := 1 ≤ lo ∧ lo ≤ hi ∧ hi ≤ du ∧ du ≤ ev ∧ ev ≤ 20 ∧ (cr = false → lo = hi)

theorem goodT.small {lo hi du ev : Int} {cr : Bool} (h : goodT lo hi du ev cr) : smallT lo hi du ev cr := by
  obtain ⟨h1, h2, h3, h4, h5, _⟩ := h; exact ⟨⟨by omega, by omega⟩, ⟨by omega, by omega⟩, ⟨by omega, by omega⟩, ⟨by omega, by omega⟩⟩
theorem goodT.valid {lo hi du ev : Int} {cr : Bool} (h : goodT lo hi du ev cr) : validB lo hi du ev cr = true := by
  obtain ⟨h1, h2, h3, h4, h5, h6⟩ := h
  cases cr
  · obtain rfl := h6 rfl
    simp [validB]; omega
  · simp [validB]; omega

set_option maxHeartbeats 2000000 in
theorem task_any (w : World) (B g : Nat) (A : Option Addr) (n c : Nat) (f : Nat → Int) (p : Nat) (hr : Rd w B g A n c f p) (hp : p ≤ 100000) :
    Calls Try.prog 94 #[.pointer (some ⟨g, 0, none⟩)] w (TkOut B g A n c f p 6 goodT w) := by
  have HR := Lib.hid hr
  have hgl := hr.lt
  have hBg := hr.ge
  clear hr
  go_enter Try.func94, Try.ntmps94
  go_wp2_with fail
  -- every
  refine (num_any _ B g A n c f p _ 8 2 20 ((HR.out.alloc _).alloc _) (by omega) (by omega) (by omega) (by simp; omega) ?_).mono ?_
  · exact lit_cells_at _ _ _ _ _ _ (by simp) (fun i hi => by rcases (by omega : i = 0 ∨ i = 1 ∨ i = 2 ∨ i = 3 ∨ i = 4 ∨ i = 5 ∨ i = 6 ∨ i = 7) with rfl | rfl | rfl | rfl | rfl | rfl | rfl | rfl <;> exact ⟨_, rfl, by decide, by decide⟩)
  rintro e w1 ⟨ev, rfl, hev1, hev2, hr1, hg1⟩
  have hsz1 : w.heap.size + 1 < w1.heap.size := by have := hg1.size; simp at this; omega
  have bR : Blk w1 w.heap.size 73 #[.int .i64 0, .int .i64 0, .int .i64 0, .int .i64 0, .bool false] := ((Blk.new w 73 _).alloc _).grown hg1 (by intro e; injection e; omega)
  have hgw1 : w.grownBy w1 (some g) := gb_trans (gb_alloc (gb_alloc (World.grownBy.refl w _) _) _) hg1 (fun x e => .inl (by injection e with e; exact e.symm))
  have HR1 := Lib.hid hr1
  have HG1 := Lib.hid hgw1
  have BR1 := Lib.hid bR
  clear hr1 hg1 hgw1 bR
  -- low
  go_wp2_with fail
  refine (pick_any _ B g A n c f _ (ev / 3 + 1) HR1.out (by omega) (by omega)).mono ?_
  rintro e w2 ⟨x, rfl, hx0, hx1, hx2, hr2, hg2⟩
  have hx := hx1 (by omega)
  clear hx1 hx2
  have hsz2 : w.heap.size + 1 < w2.heap.size := by have := hg2.size; omega
  have HR2 := Lib.hid hr2
  have HG2 := Lib.hid (gb_trans HG1.out hg2 (fun x e => .inl (by injection e with e; exact e.symm)))
  have BR2 := Lib.hid (BR1.out.grown hg2 (by intro e; injection e; omega))
  clear hr2 hg2 BR1 HR1 HG1
  -- the task; critical?
  go_wp2_with fail
  refine (pick_any _ B g A n c f _ 2 (HR2.out.alloc _) (by omega) (by omega)).mono ?_
  rintro e w3 ⟨y, rfl, hy0, _, _, hr3, hg3⟩
  have hsz3 : w2.heap.size < w3.heap.size := by have := hg3.size; simp at this; omega
  have HR3 := Lib.hid hr3
  have HG3 := Lib.hid (gb_trans (gb_alloc HG2.out _) hg3 (fun x e => .inl (by injection e with e; exact e.symm)))
  have BR3 := Lib.hid ((BR2.out.alloc (.cells #[.int .i64 (1 + x), .int .i64 (1 + x), .int .i64 ev, .int .i64 ev, .bool false] 73)).grown hg3 (by intro e; injection e; omega))
  have BT3 := Lib.hid ((Blk.new w2 73 #[.int .i64 (1 + x), .int .i64 (1 + x), .int .i64 ev, .int .i64 ev, .bool false]).grown hg3 (by intro e; injection e; omega))
  clear hr3 hg3 BR2 HR2 HG2
  by_cases hy : y = 0
  · subst hy
    have cT := BT3.out.cell; have fT := BT3.out.frozen
    go_wp2_with fail
    refine (pick_any _ B g A n c f (p + 1 + 1 + 1) (ev / 3 + 1) (HR3.out.set (by dsimp only; omega) (by dsimp only; omega) _) (by omega) (by omega)).mono ?_
    rintro e w4 ⟨z, rfl, hz0, hz1, hz2, hr4, hg4⟩
    have hz := hz1 (by omega)
    clear hz1 hz2 cT fT
    have hsz4 : w2.heap.size < w4.heap.size := by have := hg4.size; simp [World.setCell] at this; omega
    have HR4 := Lib.hid hr4
    have HG4 := Lib.hid (gb_trans (gb_set HG3.out (.inr (by dsimp only; omega)) _) hg4 (fun x e => .inl (by injection e with e; exact e.symm)))
    have BR4 := Lib.hid ((BR3.out.far (by dsimp only; omega) _).grown hg4 (by intro e; injection e; omega))
    have BT4 : Hid (Blk w4 w2.heap.size 73 #[.int .i64 (1 + x), .int .i64 (1 + x), .int .i64 ev, .int .i64 ev, .bool true]) := (BT3.out.set_ 4 (.bool true)).grown hg4 (by intro e; injection e; omega)
    clear hr4 hg4 HR3 HG3 BR3 BT3
    have cT := BT4.out.cell; have fT := BT4.out.frozen
    have hc : ¬ ev < 1 + x + z := by omega
    go_wp2_with fail
    clear cT fT
    refine (pick_any _ B g A n c f (p + 1 + 1 + 1 + 1) 3 ?_ (by omega) (by omega)).mono ?_
    · repeat (refine Rd.set ?_ (by dsimp only; omega) (by dsimp only; omega) _)
      exact HR4.out
    rintro e w5 ⟨u, rfl, hu0, _, _, hr5, hg5⟩
    have hsz5 : w2.heap.size < w5.heap.size := by have := hg5.size; first | omega | (simp [World.setCell] at this; omega)
    have HR5 := Lib.hid hr5
    have HG5 : Hid (w.grownBy w5 (some g)) := gb_trans (by
      repeat (refine gb_set ?_ (.inr (by dsimp only; omega)) _)
      exact HG4.out) hg5 (fun x e => .inl (by injection e with e; exact e.symm))
    have BR5 : Hid (Blk w5 w.heap.size 73 #[.int .i64 0, .int .i64 0, .int .i64 0, .int .i64 0, .bool false]) := Blk.grown (by
      repeat (refine Blk.far ?_ (by dsimp only; omega) _)
      exact BR4.out) hg5 (by intro e; injection e; omega)
    have BT5 : Hid (Blk w5 w2.heap.size 73 #[.int .i64 (1 + x), .int .i64 (1 + x + z), .int .i64 ev, .int .i64 ev, .bool true]) := Blk.grown (by
      first
        | exact BT4.out
        | exact BT4.out.set_ _ _
        | exact (BT4.out.set_ _ _).set_ _ _) hg5 (by intro e; injection e; omega)
    clear hr5 hg5
    have cT5 := BT5.out.cell; have fT5 := BT5.out.frozen; have cR5 := BR5.out.cell; have fR5 := BR5.out.frozen
    by_cases hu : u = 0
    · subst hu
      go_wp2_with fail
      have b1 : p + 1 + 1 + 1 + 1 + 1 ≤ 1000000 := by omega
      have b2 : ev - (1 + x + z) + 1 ≤ 1000000 := by omega
      have b3 : 1 ≤ ev - (1 + x + z) + 1 := by omega
      have b4 : ∀ q : Int, 0 ≤ q → q < ev - (1 + x + z) + 1 → IntKind.i64.wrap (1 + x + z + q) = 1 + x + z + q := fun q _ _ => IntWalk.i64_in _ (by omega)
      have b5 : some w2.heap.size ≠ some g := by intro e; injection e; omega
      have B4 := Lib.hid b4
      have B5 := Lib.hid b5
      clear b4 b5
      have k1 : IntKind.i64.wrap (ev - (1 + x + z)) = ev - (1 + x + z) := IntWalk.i64_in _ (by omega)
      have k2 : IntKind.i64.wrap (ev - (1 + x + z) + 1) = ev - (1 + x + z) + 1 := IntWalk.i64_in _ (by clear k1; omega)
      go_region_held3 (fun W => W.cell? ⟨w2.heap.size, 1, none⟩ = some (.int .i64 (1 + x + z))) (first | assumption | (simp [go_sem, *]; done))
        ((go_at_call 64; refine (pick_any _ B g A n c f (p + 1 + 1 + 1 + 1 + 1) (ev - (1 + x + z) + 1) (by exact ⟨HR5.out.blk, HR5.out.ge, HR5.out.len, HR5.out.at_, HR5.out.byte⟩) b1 b2).mono ?_; rintro e w6 ⟨q, rfl, hq0, hq1, hq2, hr6, hg6⟩; have k3 := B4.out q hq0 (hq1 b3); have BT6 := Lib.hid (BT5.out.grown (w' := w6) ⟨hg6.os, hg6.tape, hg6.output, hg6.size, hg6.block⟩ B5.out); have cT6 := BT6.out.cell; have fT6 := BT6.out.frozen; clear cT5 fT5; have HR6 := Lib.hid hr6; have HG6 := Lib.hid hg6; clear hr6 hg6))
      clear k1 k2 k3
      have hq := hq1 b3
      have hg6 : w5.grownBy w6 (some g) := ⟨HG6.out.os, HG6.out.tape, HG6.out.output, HG6.out.size, HG6.out.block⟩
      have HG7 := Lib.hid (gb_trans HG5.out hg6 (fun x e => .inl (by injection e with e; exact e.symm)))
      have BR6 := Lib.hid (BR5.out.grown hg6 (by intro e; injection e; omega))
      clear hg6 cR5 fR5 hq1 hq2
      have cR6 := BR6.out.cell; have fR6 := BR6.out.frozen
      go_wp2
      refine bodyPost_ret (v := .agg #[.int .i64 (1 + x), .int .i64 (1 + x + z), .int .i64 (1 + x + z + q), .int .i64 ev, .bool true]) (by simp [results, Try.results94, go_sem, cR6]) rfl ⟨1 + x, 1 + x + z, 1 + x + z + q, ev, true, p + 1 + 1 + 1 + 1 + 1 + 1, rfl, ⟨by omega, by omega, by omega, by omega, by omega, fun h => by cases h⟩, by omega, ?_, ?_⟩
      · repeat (refine Rd.set ?_ (by dsimp only; omega) (by dsimp only; omega) _)
        exact HR6.out
      · repeat (refine gb_set ?_ (.inr (by dsimp only; omega)) _)
        exact HG7.out
    · have tu : (u == 0) = false := by simpa using hu
      clear hu
      go_wp2
      refine bodyPost_ret (v := .agg #[.int .i64 (1 + x), .int .i64 (1 + x + z), .int .i64 ev, .int .i64 ev, .bool true]) (by simp [results, Try.results94, go_sem, cR5]) rfl ⟨1 + x, 1 + x + z, ev, ev, true, p + 1 + 1 + 1 + 1 + 1, rfl, ⟨by omega, by omega, by omega, by omega, by omega, fun h => by cases h⟩, by omega, ?_, ?_⟩
      · repeat (refine Rd.set ?_ (by dsimp only; omega) (by dsimp only; omega) _)
        exact HR5.out
      · repeat (refine gb_set ?_ (.inr (by dsimp only; omega)) _)
        exact HG5.out
  · have ty : (y == 0) = false := by simpa using hy
    clear hy
    have cT := BT3.out.cell; have fT := BT3.out.frozen
    have hc : ¬ ev < 1 + x := by omega
    go_wp2_with fail
    clear cT fT
    refine (pick_any _ B g A n c f (p + 1 + 1 + 1) 3 ?_ (by omega) (by omega)).mono ?_
    · repeat (refine Rd.set ?_ (by dsimp only; omega) (by dsimp only; omega) _)
      exact HR3.out
    rintro e w5 ⟨u, rfl, hu0, _, _, hr5, hg5⟩
    have hsz5 : w2.heap.size < w5.heap.size := by have := hg5.size; first | omega | (simp [World.setCell] at this; omega)
    have HR5 := Lib.hid hr5
    have HG5 : Hid (w.grownBy w5 (some g)) := gb_trans (by
      repeat (refine gb_set ?_ (.inr (by dsimp only; omega)) _)
      exact HG3.out) hg5 (fun x e => .inl (by injection e with e; exact e.symm))
    have BR5 : Hid (Blk w5 w.heap.size 73 #[.int .i64 0, .int .i64 0, .int .i64 0, .int .i64 0, .bool false]) := Blk.grown (by
      repeat (refine Blk.far ?_ (by dsimp only; omega) _)
      exact BR3.out) hg5 (by intro e; injection e; omega)
    have BT5 : Hid (Blk w5 w2.heap.size 73 #[.int .i64 (1 + x), .int .i64 (1 + x), .int .i64 ev, .int .i64 ev, .bool false]) := Blk.grown (by
      first
        | exact BT3.out
        | exact BT3.out.set_ _ _
        | exact (BT3.out.set_ _ _).set_ _ _) hg5 (by intro e; injection e; omega)
    clear hr5 hg5
    have cT5 := BT5.out.cell; have fT5 := BT5.out.frozen; have cR5 := BR5.out.cell; have fR5 := BR5.out.frozen
    by_cases hu : u = 0
    · subst hu
      go_wp2_with fail
      have b1 : p + 1 + 1 + 1 + 1 ≤ 1000000 := by omega
      have b2 : ev - (1 + x) + 1 ≤ 1000000 := by omega
      have b3 : 1 ≤ ev - (1 + x) + 1 := by omega
      have b4 : ∀ q : Int, 0 ≤ q → q < ev - (1 + x) + 1 → IntKind.i64.wrap (1 + x + q) = 1 + x + q := fun q _ _ => IntWalk.i64_in _ (by omega)
      have b5 : some w2.heap.size ≠ some g := by intro e; injection e; omega
      have B4 := Lib.hid b4
      have B5 := Lib.hid b5
      clear b4 b5
      have k1 : IntKind.i64.wrap (ev - (1 + x)) = ev - (1 + x) := IntWalk.i64_in _ (by omega)
      have k2 : IntKind.i64.wrap (ev - (1 + x) + 1) = ev - (1 + x) + 1 := IntWalk.i64_in _ (by clear k1; omega)
      go_region_held3 (fun W => W.cell? ⟨w2.heap.size, 1, none⟩ = some (.int .i64 (1 + x))) (first | assumption | (simp [go_sem, *]; done))
        ((go_at_call 64; refine (pick_any _ B g A n c f (p + 1 + 1 + 1 + 1) (ev - (1 + x) + 1) (by exact ⟨HR5.out.blk, HR5.out.ge, HR5.out.len, HR5.out.at_, HR5.out.byte⟩) b1 b2).mono ?_; rintro e w6 ⟨q, rfl, hq0, hq1, hq2, hr6, hg6⟩; have k3 := B4.out q hq0 (hq1 b3); have BT6 := Lib.hid (BT5.out.grown (w' := w6) ⟨hg6.os, hg6.tape, hg6.output, hg6.size, hg6.block⟩ B5.out); have cT6 := BT6.out.cell; have fT6 := BT6.out.frozen; clear cT5 fT5; have HR6 := Lib.hid hr6; have HG6 := Lib.hid hg6; clear hr6 hg6))
      clear k1 k2 k3
      have hq := hq1 b3
      have hg6 : w5.grownBy w6 (some g) := ⟨HG6.out.os, HG6.out.tape, HG6.out.output, HG6.out.size, HG6.out.block⟩
      have HG7 := Lib.hid (gb_trans HG5.out hg6 (fun x e => .inl (by injection e with e; exact e.symm)))
      have BR6 := Lib.hid (BR5.out.grown hg6 (by intro e; injection e; omega))
      clear hg6 cR5 fR5 hq1 hq2
      have cR6 := BR6.out.cell; have fR6 := BR6.out.frozen
      go_wp2
      refine bodyPost_ret (v := .agg #[.int .i64 (1 + x), .int .i64 (1 + x), .int .i64 (1 + x + q), .int .i64 ev, .bool false]) (by simp [results, Try.results94, go_sem, cR6]) rfl ⟨1 + x, 1 + x, 1 + x + q, ev, false, p + 1 + 1 + 1 + 1 + 1, rfl, ⟨by omega, by omega, by omega, by omega, by omega, fun _ => by omega⟩, by omega, ?_, ?_⟩
      · repeat (refine Rd.set ?_ (by dsimp only; omega) (by dsimp only; omega) _)
        exact HR6.out
      · repeat (refine gb_set ?_ (.inr (by dsimp only; omega)) _)
        exact HG7.out
    · have tu : (u == 0) = false := by simpa using hu
      clear hu
      go_wp2
      refine bodyPost_ret (v := .agg #[.int .i64 (1 + x), .int .i64 (1 + x), .int .i64 ev, .int .i64 ev, .bool false]) (by simp [results, Try.results94, go_sem, cR5]) rfl ⟨1 + x, 1 + x, ev, ev, false, p + 1 + 1 + 1 + 1, rfl, ⟨by omega, by omega, by omega, by omega, by omega, fun _ => by omega⟩, by omega, ?_, ?_⟩
      · repeat (refine Rd.set ?_ (by dsimp only; omega) (by dsimp only; omega) _)
        exact HR5.out
      · repeat (refine gb_set ?_ (.inr (by dsimp only; omega)) _)
        exact HG5.out

end Go.Proofs.Ytjondedkgkohfaa
