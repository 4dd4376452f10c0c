/- Contract of what the reference draws as a share: its numbers are from -1 to 1000000000; nothing that was there is written but the reader. -/
import Derived.Test.YtbaecbibkmdbiacDoorLit
import Derived.Test.YtbaecbibkmdbiacDoorOpenB
import Derived.Test.YtbaecbibkmdbiacDoorMk
namespace Go.Proofs.YtbaecbibkmdbiacDoor
open Go.RowKit

def smallS (x y : Int) : Prop := (-1 ≤ x ∧ x ≤ 1000000000) ∧ (-1 ≤ y ∧ y ≤ 1000000000)
def ShDrawn (B g : Nat) (A : Option Addr) (n c : Nat) (f : Nat → Int) (p d : Nat) (w : World) (e : Ending) (w' : World) : Prop :=
  ∃ (x y : Int) (p' : Nat), e = .returned (.agg #[.int .i64 x, .int .i64 y]) ∧ smallS x y ∧ p' ≤ p + d ∧ Rd w' B g A n c f p' ∧ w.grownBy w' (some g)
theorem gb_below {a w : World} (h : Below a.heap.size a w) (row : Option Nat) : a.grownBy w row := ⟨h.os, h.tape, h.output, h.size, fun i hi _ => h.block i hi⟩
theorem rd_below {w w' : World} {B g : Nat} {A : Option Addr} {n c : Nat} {f : Nat → Int} {p : Nat} (h : Rd w B g A n c f p) (hb : Below w.heap.size w w') : Rd w' B g A n c f p :=
  h.grown (gb_below hb none) (fun _ e => by cases e)
theorem mkS_small (x y : Int) : smallS (mkS x y).1 (mkS x y).2 := by
  cases h : mkB x y
  · rw [mkS_no h]; exact ⟨⟨by decide, by decide⟩, ⟨by decide, by decide⟩⟩
  · obtain ⟨a, c, rfl, rfl, h1, h2, h3⟩ := mk_nat h
    rw [mkS_nat h1 h2 h3]
    obtain ⟨s1, s2, s3, _⟩ := sh_red h1 h2 h3
    exact ⟨⟨by omega, by omega⟩, ⟨by omega, by omega⟩⟩

set_option maxHeartbeats 2000000 in
theorem shDraw_any (w : World) (B g : Nat) (A : Option Addr) (n c : Nat) (f : Nat → Int) (p : Nat) (hr : Rd w B g A n c f p) (hp : p ≤ 1000) :
    Calls Tryd.prog 13 #[.pointer (some ⟨g, 0, none⟩)] w (ShDrawn B g A n c f p 5 w) := by
  have HR0 := Lib.hid hr
  have hgl := hr.lt
  have hBg := hr.ge
  have HG0 := Lib.hid (World.grownBy.refl w (some g))
  clear hr
  go_enter Tryd.func13, Tryd.ntmps13
  go_wp2_with fail
  refine (num_any _ B g A n c f (p) _ 7 (0) 999999999 (by repeat (first | exact HR0.out | refine Rd.alloc ?_ _)) (by omega) (by omega) (by omega) (by simp; omega) ?_).mono ?_
  · exact lit_cells_at _ _ _ _ _ _ (by simp) (fun i hi => by rcases (by omega : i = 0 ∨ i = 1 ∨ i = 2 ∨ i = 3 ∨ i = 4 ∨ i = 5 ∨ i = 6) with rfl | rfl | rfl | rfl | rfl | rfl | rfl <;> exact ⟨_, rfl, by decide, by decide⟩)
  rintro e w1 ⟨x, rfl, x1, x2, hr, hg⟩
  have HR1 := Lib.hid hr
  have HG1 := Lib.hid (show w.grownBy w1 (some g) from gb_trans (by repeat (first | exact HG0.out | refine gb_alloc ?_ _)) hg (fun x e => .inl (by injection e with e; exact e.symm)))
  have hs1 := HG1.out.size
  have bR1 := Lib.hid (show Blk w1 w.heap.size 24 #[.int .i64 0, .int .i64 0] from Blk.grown (by repeat (first | exact Blk.new w 24 #[.int .i64 0, .int .i64 0] | refine Blk.alloc ?_ _)) hg (by intro e; injection e; omega))
  clear hr hg HR0 HG0
  go_wp2_with fail
  refine (num_any _ B g A n c f (p + 1) _ 7 (1) 1000000000 (by repeat (first | exact HR1.out | refine Rd.alloc ?_ _)) (by omega) (by omega) (by omega) (by simp; omega) ?_).mono ?_
  · exact lit_cells_at _ _ _ _ _ _ (by simp) (fun i hi => by rcases (by omega : i = 0 ∨ i = 1 ∨ i = 2 ∨ i = 3 ∨ i = 4 ∨ i = 5 ∨ i = 6) with rfl | rfl | rfl | rfl | rfl | rfl | rfl <;> exact ⟨_, rfl, by decide, by decide⟩)
  rintro e w2 ⟨y, rfl, y1, y2, hr, hg⟩
  have HR2 := Lib.hid hr
  have HG2 := Lib.hid (show w.grownBy w2 (some g) from gb_trans (by repeat (first | exact HG1.out | refine gb_alloc ?_ _)) hg (fun x e => .inl (by injection e with e; exact e.symm)))
  have hs2 := HG2.out.size
  have bR2 := Lib.hid (show Blk w2 w.heap.size 24 #[.int .i64 0, .int .i64 0] from Blk.grown (by repeat (first | exact bR1.out | refine Blk.alloc ?_ _)) hg (by intro e; injection e; omega))
  clear bR1
  clear hr hg HR1 HG1
  obtain ⟨P, Q, hPQ⟩ : ∃ P Q, mkS x y = (P, Q) := ⟨_, _, rfl⟩
  have hsm := mkS_small x y
  rw [hPQ] at hsm
  obtain ⟨⟨m1, m2⟩, ⟨m3, m4⟩⟩ := hsm
  dsimp only at m1 m2 m3 m4
  go_wp2_with fail
  refine (sMake_is _ x y P Q _ hPQ rfl).mono ?_
  rintro e w3 ⟨rfl, hb⟩
  have HR3 := Lib.hid (rd_below HR2.out hb)
  have HG3 := Lib.hid (gb_trans HG2.out (gb_below hb none) (fun x e => by cases e))
  have hs3 := HG3.out.size
  have bR3 := Lib.hid (bR2.out.below hb bR2.out.lt)
  clear hb HR2 HG2 bR2
  go_wp2_with fail
  refine (pick_any _ B g A n c f (p + 1 + 1) 16 (by repeat (first | exact HR3.out | refine Rd.alloc ?_ _)) (by omega) (by omega)).mono ?_
  rintro e w4 ⟨z, rfl, z0, _, _, hr, hg⟩
  have HR4 := Lib.hid hr
  have HG4 := Lib.hid (show w.grownBy w4 (some g) from gb_trans (by repeat (first | exact HG3.out | refine gb_alloc ?_ _)) hg (fun x e => .inl (by injection e with e; exact e.symm)))
  have hs4 := HG4.out.size
  have bR4 := Lib.hid (show Blk w4 w.heap.size 24 #[.int .i64 0, .int .i64 0] from Blk.grown (by repeat (first | exact bR3.out | refine Blk.alloc ?_ _)) hg (by intro e; injection e; omega))
  have bS4 := Lib.hid (show Blk w4 w3.heap.size 24 #[.int .i64 (P : Int), .int .i64 (Q : Int)] from Blk.grown (Blk.new w3 24 _) hg (by intro e; injection e; omega))
  clear bR3
  clear hr hg HR3 HG3
  by_cases hz : z = 0
  · subst hz
    go_wp2_with fail
    refine (num_any _ B g A n c f (p + 1 + 1 + 1) _ 3 (-1) 2 (by repeat (first | exact HR4.out | refine Rd.alloc ?_ _)) (by omega) (by omega) (by omega) (by simp; omega) ?_).mono ?_
    · exact lit_cells_at _ _ _ _ _ _ (by simp) (fun i hi => by rcases (by omega : i = 0 ∨ i = 1 ∨ i = 2) with rfl | rfl | rfl <;> exact ⟨_, rfl, by decide, by decide⟩)
    rintro e w5 ⟨u, rfl, u1, u2, hr, hg⟩
    have HR5 := Lib.hid hr
    have HG5 := Lib.hid (show w.grownBy w5 (some g) from gb_trans (by repeat (first | exact HG4.out | refine gb_alloc ?_ _)) hg (fun x e => .inl (by injection e with e; exact e.symm)))
    have hs5 := HG5.out.size
    have bR5 := Lib.hid (show Blk w5 w.heap.size 24 #[.int .i64 0, .int .i64 0] from Blk.grown (by repeat (first | exact bR4.out | refine Blk.alloc ?_ _)) hg (by intro e; injection e; omega))
    clear bR4
    clear hr hg HR4 HG4
    go_wp2_with fail
    refine (num_any _ B g A n c f (p + 1 + 1 + 1 + 1) _ 4 (-1) 4 (by repeat (first | exact HR5.out | refine Rd.alloc ?_ _)) (by omega) (by omega) (by omega) (by simp; omega) ?_).mono ?_
    · exact lit_cells_at _ _ _ _ _ _ (by simp) (fun i hi => by rcases (by omega : i = 0 ∨ i = 1 ∨ i = 2 ∨ i = 3) with rfl | rfl | rfl | rfl <;> exact ⟨_, rfl, by decide, by decide⟩)
    rintro e w6 ⟨v, rfl, v1, v2, hr, hg⟩
    have HR6 := Lib.hid hr
    have HG6 := Lib.hid (show w.grownBy w6 (some g) from gb_trans (by repeat (first | exact HG5.out | refine gb_alloc ?_ _)) hg (fun x e => .inl (by injection e with e; exact e.symm)))
    have hs6 := HG6.out.size
    have bR6 := Lib.hid (show Blk w6 w.heap.size 24 #[.int .i64 0, .int .i64 0] from Blk.grown (by repeat (first | exact bR5.out | refine Blk.alloc ?_ _)) hg (by intro e; injection e; omega))
    clear bR5
    clear hr hg HR5 HG5
    have cR := bR6.out.cell
    have fR := bR6.out.frozen
    clear bS4
    go_wp2
    refine bodyPost_ret (v := .agg #[.int .i64 u, .int .i64 v]) (by simp [results, Tryd.results13, go_sem, cR]) rfl ⟨u, v, p + 1 + 1 + 1 + 1 + 1, rfl, ⟨⟨by omega, by omega⟩, ⟨by omega, by omega⟩⟩, by omega, ?_, ?_⟩
    · repeat (first | exact HR6.out | refine Rd.set ?_ (by dsimp only; omega) (by dsimp only; omega) _ | refine Rd.alloc ?_ _)
    · repeat (first | exact HG6.out | refine gb_set ?_ (.inr (by dsimp only; omega)) _ | refine gb_alloc ?_ _)
  · have hz' : (z == 0) = false := by simpa using hz
    clear hz
    have cR := bR4.out.cell
    have fR := bR4.out.frozen
    have cS := bS4.out.cell
    go_wp2
    refine bodyPost_ret (v := .agg #[.int .i64 (P : Int), .int .i64 (Q : Int)]) (by simp [results, Tryd.results13, go_sem, cR]) rfl ⟨P, Q, p + 1 + 1 + 1, rfl, ⟨⟨by omega, by omega⟩, ⟨by omega, by omega⟩⟩, by omega, ?_, ?_⟩
    · repeat (first | exact HR4.out | refine Rd.set ?_ (by dsimp only; omega) (by dsimp only; omega) _ | refine Rd.alloc ?_ _)
    · repeat (first | exact HG4.out | refine gb_set ?_ (.inr (by dsimp only; omega)) _ | refine gb_alloc ?_ _)

end Go.Proofs.YtbaecbibkmdbiacDoor
