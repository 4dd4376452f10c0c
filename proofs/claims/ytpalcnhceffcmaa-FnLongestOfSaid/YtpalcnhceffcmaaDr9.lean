/- The draw of LongestOf's arguments. -/
import Derived.Test.YtpalcnhceffcmaaDr8
import Derived.RegionTactic
import Derived.Deep.RegionLaw
namespace Go.Proofs.Ytpalcnhceffcmaa
open Go.RowKit
set_option linter.unusedVariables false

/-- What a draw of jobs, a run and a number leaves. -/
def DrewR3 (w : World) (e : Ending) (w' : World) : Prop :=
  ∃ (ts : List Tk) (A2 : Option Addr) (c2 : Nat) (js : List Jb) (A3 : Option Addr) (c3 : Nat) (en : List Int) (A4 : Option Addr) (c4 : Nat) (tr : List Int) (A5 : Option Addr) (c5 : Nat) (sw : List Int) (hi : Bool) (z : Int),
    e = .returned (.tuple #[.slice A2 js.length c2, .agg #[.slice A3 en.length c3, .slice A4 tr.length c4, .slice A5 sw.length c5, .bool hi], .int .i64 z]) ∧ ts.length ≤ 5 ∧ js.length ≤ 60 ∧ (∀ j ∈ js, smallJ j) ∧ DrawnR ts js en tr sw hi ∧ OwnJ w' w.heap.size (.slice A2 js.length c2) js ∧ OwnZ w' w.heap.size (.slice A3 en.length c3) en ∧ OwnZ w' w.heap.size (.slice A4 tr.length c4) tr ∧ OwnZ w' w.heap.size (.slice A5 sw.length c5) sw ∧ Below w.heap.size w w'

set_option maxRecDepth 100000 in
set_option maxHeartbeats 4000000 in
theorem dLong_any (w : World) (A : Option Addr) (n c : Nat) (f : Nat → Int) (h : Code w w.heap.size A n c f) :
    Calls Try.prog 18 #[.slice A n c] w (DrewR3 w) := by
  have H := Lib.hid h
  have HZ0 := Lib.hid (Blk.new w 27 #[.slice none 0 0, .slice none 0 0, .slice none 0 0, .bool false])
  clear h
  go_enter Try.func18, Try.ntmps18
  go_wp2_with fail
  refine (l7Run_any _ A n c f (H.out.alloc _)).mono ?_
  rintro e w1 ⟨A1, c1, ts, A2, c2, js, A3, c3, en, A4, c4, tr, A5, c5, sw, hi, rfl, htl, hjl, hgt, hgj, hd, kt, kj, k3, k4, k5, hb⟩
  have hs1 : w.heap.size + 1 ≤ w1.heap.size := by have := hb.size; simp at this; omega
  have HZ1 := Lib.hid ((HZ0.out.below hb (by simp)).alloc (.cells #[.slice A3 en.length c3, .slice A4 tr.length c4, .slice A5 sw.length c5, .bool hi] 27))
  have HX1 := Lib.hid (Blk.new w1 27 #[.slice A3 en.length c3, .slice A4 tr.length c4, .slice A5 sw.length c5, .bool hi])
  have HB1 : Hid (Below w.heap.size w (w1.alloc (.cells #[.slice A3 en.length c3, .slice A4 tr.length c4, .slice A5 sw.length c5, .bool hi] 27))) := Lib.hid (bl_alloc ((bl_alloc (Below.refl _ w) _).trans (hb.mono (by simp))) _)
  have hc1 : Code (w1.alloc (.cells #[.slice A3 en.length c3, .slice A4 tr.length c4, .slice A5 sw.length c5, .bool hi] 27)) (w1.alloc (.cells #[.slice A3 en.length c3, .slice A4 tr.length c4, .slice A5 sw.length c5, .bool hi] 27)).heap.size A n c f := Code.belM H.out HB1.out
  have HC1 := Lib.hid hc1
  have K2 := Lib.hid (kj.alloc (.cells #[.slice A3 en.length c3, .slice A4 tr.length c4, .slice A5 sw.length c5, .bool hi] 27))
  have K3 := Lib.hid (k3.alloc (.cells #[.slice A3 en.length c3, .slice A4 tr.length c4, .slice A5 sw.length c5, .bool hi] 27))
  have K4 := Lib.hid (k4.alloc (.cells #[.slice A3 en.length c3, .slice A4 tr.length c4, .slice A5 sw.length c5, .bool hi] 27))
  have K5 := Lib.hid (k5.alloc (.cells #[.slice A3 en.length c3, .slice A4 tr.length c4, .slice A5 sw.length c5, .bool hi] 27))
  have KD := Lib.hid hd
  have KJ := Lib.hid hgj
  clear hb k3 k4 k5 kt kj hgt hgj hd hc1
  obtain ⟨b0, b1, b2, b3⟩ := Blk.quad HX1.out
  go_wp2_with fail
  go_region_law (first
    | (go_simp
       go_at_call 40
       refine (open_any _ A n c f ?_).mono ?_
       · exact Code.belM HC1.out (by repeat (first | with_reducible exact Below.refl _ _ | with_reducible refine Below.drew ?_ | with_reducible refine bl_drewN ?_ _))
       rintro e w2 ⟨rfl, n', hr, hb⟩
       have HRd2 : Hid (Rd w2 (w1.heap.size + 1) (w1.heap.size + 1) A n' c f 0) := Lib.hid (by simpa using hr)
       have HBx2 : Hid (Below (w1.heap.size + 1) (w1.alloc (.cells #[.slice A3 en.length c3, .slice A4 tr.length c4, .slice A5 sw.length c5, .bool hi] 27)) w2) := Lib.hid (by have k : Below (w1.heap.size + 1) (w1.alloc (.cells #[.slice A3 en.length c3, .slice A4 tr.length c4, .slice A5 sw.length c5, .bool hi] 27)) (w1.alloc (.cells #[.slice A3 en.length c3, .slice A4 tr.length c4, .slice A5 sw.length c5, .bool hi] 27)).drew := Below.drew (Below.refl _ _); exact k.trans (hb.mono (by have := k.size; (try simp at this); (try simp); (try omega))))
       have hg2 : w1.heap.size + 1 < w2.heap.size := HRd2.out.lt
       have HX2 := Lib.hid (HX1.out.below HBx2.out (by omega))
       obtain ⟨d0, d1, d2, d3⟩ := Blk.quad HX2.out
       obtain ⟨e0, e1, e2, e3⟩ := Blk.quad (HX2.out.alloc (.cells #[.int .i64 0, .int .i64 1, .int .i64 2, .int .i64 5] 3))
       clear hr hb)
    | (go_simp
       go_at_call 40
       refine (open_any _ A n c f ?_).mono ?_
       · exact Code.belM HC1.out (by repeat (first | with_reducible exact Below.refl _ _ | with_reducible refine Below.drew ?_ | with_reducible refine bl_drewN ?_ _ | with_reducible refine bl_alloc ?_ _))
       rintro e w2 ⟨rfl, n', hr, hb⟩
       have HRd2 : Hid (Rd w2 (w1.heap.size + 1 + 1) (w1.heap.size + 1 + 1) A n' c f 0) := Lib.hid (by simpa using hr)
       have HBy2 : Hid (Below (w1.heap.size + 1 + 1) ((w1.alloc (.cells #[.slice A3 en.length c3, .slice A4 tr.length c4, .slice A5 sw.length c5, .bool hi] 27)).alloc (.cells #[.int .i64 0, .int .i64 1, .int .i64 2, .int .i64 5] 3)) w2) := Lib.hid (by have k : Below (w1.heap.size + 1 + 1) ((w1.alloc (.cells #[.slice A3 en.length c3, .slice A4 tr.length c4, .slice A5 sw.length c5, .bool hi] 27)).alloc (.cells #[.int .i64 0, .int .i64 1, .int .i64 2, .int .i64 5] 3)) ((w1.alloc (.cells #[.slice A3 en.length c3, .slice A4 tr.length c4, .slice A5 sw.length c5, .bool hi] 27)).alloc (.cells #[.int .i64 0, .int .i64 1, .int .i64 2, .int .i64 5] 3)).drew := Below.drew (Below.refl _ _); exact k.trans (hb.mono (by have := k.size; (try simp at this); (try simp); (try omega))))
       have HBx2 : Hid (Below (w1.heap.size + 1) (w1.alloc (.cells #[.slice A3 en.length c3, .slice A4 tr.length c4, .slice A5 sw.length c5, .bool hi] 27)) w2) := Lib.hid (by have k : Below (w1.heap.size + 1) (w1.alloc (.cells #[.slice A3 en.length c3, .slice A4 tr.length c4, .slice A5 sw.length c5, .bool hi] 27)) ((w1.alloc (.cells #[.slice A3 en.length c3, .slice A4 tr.length c4, .slice A5 sw.length c5, .bool hi] 27)).alloc (.cells #[.int .i64 0, .int .i64 1, .int .i64 2, .int .i64 5] 3)) := Below.alloc (Below.refl _ _) (by simp) _; exact k.trans (HBy2.out.mono (by omega)))
       have hg2 : w1.heap.size + 1 + 1 < w2.heap.size := HRd2.out.lt
       have HX2 := Lib.hid (HX1.out.below HBx2.out (by omega))
       obtain ⟨d0, d1, d2, d3⟩ := Blk.quad HX2.out
       have HLT2 := Lib.hid ((Blk.new (w1.alloc (.cells #[.slice A3 en.length c3, .slice A4 tr.length c4, .slice A5 sw.length c5, .bool hi] 27)) 3 #[.int .i64 0, .int .i64 1, .int .i64 2, .int .i64 5]).below HBy2.out (by simp))
       obtain ⟨e0, e1, e2, e3⟩ := Blk.quad HLT2.out
       clear hr hb)
    | (fail_if_success (have hmk := HLT2.out)
       go_simp
       go_at_call 41
       refine (num_any _ (w1.heap.size + 1) (w1.heap.size + 1) A n' c f 0 _ 4 0 5 ?_ (by omega) (by omega) (by omega) ?_ ?_).mono ?_
       · (repeat (first | with_reducible exact HRd2.out | with_reducible refine Rd.drew5 ?_ | with_reducible refine Rd.alloc ?_ _))
       · first | omega | (simp; done) | (simp; omega)
       · exact lit_cells_at _ _ _ _ _ _ (by first | rfl | simp) (fun i hi => by rcases (by omega : i = 0 ∨ i = 1 ∨ i = 2 ∨ i = 3) with rfl | rfl | rfl | rfl <;> exact ⟨_, rfl, by decide, by decide⟩)
       rintro e w3 ⟨z, rfl, tk0, tk1, hr, hgb⟩
       have HG3 : Hid (w2.grownBy w3 (some (w1.heap.size + 1))) := Lib.hid (gb_trans (by repeat (first | with_reducible exact World.grownBy.refl w2 _ | with_reducible refine gb_drew5 ?_ | with_reducible refine gb_alloc ?_ _)) hgb (fun x e => .inl (by injection e with e; exact e.symm)))
       have HBx3 : Hid (Below (w1.heap.size + 1) (w1.alloc (.cells #[.slice A3 en.length c3, .slice A4 tr.length c4, .slice A5 sw.length c5, .bool hi] 27)) w3) := Lib.hid (HBx2.out.grown HG3.out (by omega) (fun x e => by injection e with e; omega))
       have HX3 := Lib.hid (HX1.out.below HBx3.out (by omega))
       have HZ3 := Lib.hid (HZ1.out.below HBx3.out (by omega))
       obtain ⟨f0, f1, f2, f3⟩ := Blk.quad HX3.out
       obtain ⟨z0, z1, z2, z3⟩ := Blk.quad HZ3.out
       have fz := HZ3.out.frozen
       clear hr hgb)
    | (have hmk := HLT2.out
       clear hmk
       go_simp
       go_at_call 41
       refine (num_any _ (w1.heap.size + 1 + 1) (w1.heap.size + 1 + 1) A n' c f 0 _ 4 0 5 ?_ (by omega) (by omega) (by omega) ?_ ?_).mono ?_
       · (repeat (first | with_reducible exact HRd2.out | with_reducible refine Rd.drew5 ?_ | with_reducible refine Rd.alloc ?_ _))
       · first | omega | (simp; done) | (simp; omega)
       · (intro i hi; rcases (by omega : i = 0 ∨ i = 1 ∨ i = 2 ∨ i = 3) with rfl | rfl | rfl | rfl; exact ⟨0, by simpa using e0, by decide, by decide⟩; exact ⟨1, by simpa using e1, by decide, by decide⟩; exact ⟨2, by simpa using e2, by decide, by decide⟩; exact ⟨5, by simpa using e3, by decide, by decide⟩)
       rintro e w3 ⟨z, rfl, tk0, tk1, hr, hgb⟩
       have HG3 : Hid (w2.grownBy w3 (some (w1.heap.size + 1 + 1))) := Lib.hid (gb_trans (by repeat (first | with_reducible exact World.grownBy.refl w2 _ | with_reducible refine gb_drew5 ?_ | with_reducible refine gb_alloc ?_ _)) hgb (fun x e => .inl (by injection e with e; exact e.symm)))
       have HBx3 : Hid (Below (w1.heap.size + 1) (w1.alloc (.cells #[.slice A3 en.length c3, .slice A4 tr.length c4, .slice A5 sw.length c5, .bool hi] 27)) w3) := Lib.hid (HBx2.out.grown HG3.out (by omega) (fun x e => by injection e with e; omega))
       have HX3 := Lib.hid (HX1.out.below HBx3.out (by omega))
       have HZ3 := Lib.hid (HZ1.out.below HBx3.out (by omega))
       obtain ⟨f0, f1, f2, f3⟩ := Blk.quad HX3.out
       obtain ⟨z0, z1, z2, z3⟩ := Blk.quad HZ3.out
       have fz := HZ3.out.frozen
       clear hr hgb))
  all_goals
    have HB3 : Hid (Below w.heap.size w w3) := Lib.hid (HB1.out.trans (HBx3.out.mono (by omega)))
    have hle3 : Below (w1.alloc (.cells #[.slice A3 en.length c3, .slice A4 tr.length c4, .slice A5 sw.length c5, .bool hi] 27)).heap.size (w1.alloc (.cells #[.slice A3 en.length c3, .slice A4 tr.length c4, .slice A5 sw.length c5, .bool hi] 27)) w3 := by have h := HBx3.out; simpa using h
    have L2 := Lib.hid (K2.out.below hle3)
    have L3 := Lib.hid (K3.out.below hle3)
    have L4 := Lib.hid (K4.out.below hle3)
    have L5 := Lib.hid (K5.out.below hle3)
    go_wp2
    have hZ := (((HZ3.out.set_ 0 (.slice A3 en.length c3)).set_ 1 (.slice A4 tr.length c4)).set_ 2 (.slice A5 sw.length c5)).set_ 3 (.bool hi)
    obtain ⟨y0, y1, y2, y3⟩ := Blk.quad (w := ((((w3.setCell ⟨w.heap.size, 0, none⟩ (.slice A3 en.length c3)).setCell ⟨w.heap.size, 1, none⟩ (.slice A4 tr.length c4)).setCell ⟨w.heap.size, 2, none⟩ (.slice A5 sw.length c5)).setCell ⟨w.heap.size, 3, none⟩ (.bool hi))) hZ
    clear hZ
    refine bodyPost_ret (v := .tuple #[.slice A2 js.length c2, .agg #[.slice A3 en.length c3, .slice A4 tr.length c4, .slice A5 sw.length c5, .bool hi], .int .i64 z]) (by simp [results, Try.results18, go_sem, y0, y1, y2, y3]) rfl ?_
    exact ⟨ts, A2, c2, js, A3, c3, en, A4, c4, tr, A5, c5, sw, hi, z, rfl, htl, hjl, KJ.out, KD.out, OwnJ.less (ownsRow_kp L2.out (((((Kp.refl w3 (fun x => x = w.heap.size)).set (a := ⟨w.heap.size, 0, none⟩) (.inl rfl) _).set (a := ⟨w.heap.size, 1, none⟩) (.inl rfl) _).set (a := ⟨w.heap.size, 2, none⟩) (.inl rfl) _).set (a := ⟨w.heap.size, 3, none⟩) (.inl rfl) _) (fun x e e2 => by have := (World.ownsRow.lt L2.out x e).1; simp at this; omega)) (by first | omega | simp), OwnZ.less (ownsRow_kp L3.out (((((Kp.refl w3 (fun x => x = w.heap.size)).set (a := ⟨w.heap.size, 0, none⟩) (.inl rfl) _).set (a := ⟨w.heap.size, 1, none⟩) (.inl rfl) _).set (a := ⟨w.heap.size, 2, none⟩) (.inl rfl) _).set (a := ⟨w.heap.size, 3, none⟩) (.inl rfl) _) (fun x e e2 => by have := (World.ownsRow.lt L3.out x e).1; simp at this; omega)) (by first | omega | simp), OwnZ.less (ownsRow_kp L4.out (((((Kp.refl w3 (fun x => x = w.heap.size)).set (a := ⟨w.heap.size, 0, none⟩) (.inl rfl) _).set (a := ⟨w.heap.size, 1, none⟩) (.inl rfl) _).set (a := ⟨w.heap.size, 2, none⟩) (.inl rfl) _).set (a := ⟨w.heap.size, 3, none⟩) (.inl rfl) _) (fun x e e2 => by have := (World.ownsRow.lt L4.out x e).1; simp at this; omega)) (by first | omega | simp), OwnZ.less (ownsRow_kp L5.out (((((Kp.refl w3 (fun x => x = w.heap.size)).set (a := ⟨w.heap.size, 0, none⟩) (.inl rfl) _).set (a := ⟨w.heap.size, 1, none⟩) (.inl rfl) _).set (a := ⟨w.heap.size, 2, none⟩) (.inl rfl) _).set (a := ⟨w.heap.size, 3, none⟩) (.inl rfl) _) (fun x e e2 => by have := (World.ownsRow.lt L5.out x e).1; simp at this; omega)) (by first | omega | simp), bl_set (bl_set (bl_set (bl_set HB3.out (by dsimp only; omega) _) (by dsimp only; omega) _) (by dsimp only; omega) _) (by dsimp only; omega) _⟩


end Go.Proofs.Ytpalcnhceffcmaa
