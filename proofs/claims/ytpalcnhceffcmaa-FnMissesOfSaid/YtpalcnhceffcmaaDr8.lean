/- Draws of the arguments of chapter 7's functions. -/
import Derived.Test.YtpalcnhceffcmaaDr7
namespace Go.Proofs.Ytpalcnhceffcmaa
open Go.RowKit
set_option linter.unusedVariables false

/-- What a draw of a run leaves. -/
def DrewR1 (w : World) (e : Ending) (w' : World) : Prop :=
  ∃ (ts : List Tk) (js : List Jb) (A3 : Option Addr) (c3 : Nat) (en : List Int) (A4 : Option Addr) (c4 : Nat) (tr : List Int) (A5 : Option Addr) (c5 : Nat) (sw : List Int) (hi : Bool),
    e = .returned (.agg #[.slice A3 en.length c3, .slice A4 tr.length c4, .slice A5 sw.length c5, .bool hi]) ∧ ts.length ≤ 5 ∧ js.length ≤ 60 ∧ DrawnR ts js en tr sw hi ∧ OwnZ w' w.heap.size (.slice A3 en.length c3) en ∧ OwnZ w' w.heap.size (.slice A4 tr.length c4) tr ∧ OwnZ w' w.heap.size (.slice A5 sw.length c5) sw ∧ Below w.heap.size w w'
theorem drawn_len {ts : List Tk} {js : List Jb} {en tr sw : List Int} {hi : Bool} (h : DrawnR ts js en tr sw hi) (hj : js.length ≤ 60) : en.length ≤ 61 ∧ tr.length ≤ 61 := by
  obtain ⟨pol, tk, _, t0, t1, _, _, h⟩ := h
  have := runR_len ts js pol tk t0 t1 hj
  rcases h with ⟨rfl, rfl⟩ | ⟨z, _, _, rfl, rfl⟩ | ⟨z, _, _, rfl, rfl⟩
  · omega
  · rw [List.length_append]; simp; omega
  · rw [List.length_append]; simp; omega
theorem Zs.kpR {w w' : World} {S : Nat → Prop} {A : Option Addr} {n : Nat} {zs : List Int} {B : Nat} (h : Zs w B A n zs) (hb : Below B w w') : Zs w' B A n zs := h.below hb

theorem Code.belM {w w' : World} {A : Option Addr} {n c : Nat} {f : Nat → Int} (h : Code w w.heap.size A n c f) (hb : Below w.heap.size w w') : Code w' w'.heap.size A n c f :=
  ⟨h.le, h.max, fun i hi => by
    obtain ⟨b, o, e, hlt, hc⟩ := h.at_ i hi
    refine ⟨b, o, e, Nat.lt_of_lt_of_le hlt hb.size, ?_⟩
    have e2 := hb.block b hlt
    rw [← hc]
    simp only [World.cell?, e2], h.byte⟩
set_option maxRecDepth 100000 in
set_option maxHeartbeats 2000000 in
theorem dFmtTr_any (w : World) (A : Option Addr) (n c : Nat) (f : Nat → Int) (h : Code w w.heap.size A n c f) :
    Calls Try.prog 27 #[.slice A n c] w (DrewR1 w) := by
  have H := Lib.hid h
  have HZ0 := Lib.hid (Blk.new w 27 #[.slice none 0 0, .slice none 0 0, .slice none 0 0, .bool false])
  clear h
  go_enter Try.func27, Try.ntmps27
  go_wp2_with fail
  refine (l7Run_any _ A n c f (H.out.alloc _)).mono ?_
  rintro e w1 ⟨A1, c1, ts, A2, c2, js, A3, c3, en, A4, c4, tr, A5, c5, sw, hi, rfl, htl, hjl, hgt, hgj, hd, kt, kj, k3, k4, k5, hb⟩
  have hs1 : w.heap.size + 1 ≤ w1.heap.size := by have := hb.size; simp at this; omega
  have HZ1 := Lib.hid ((HZ0.out.below hb (by simp)).alloc (.cells #[.slice A3 en.length c3, .slice A4 tr.length c4, .slice A5 sw.length c5, .bool hi] 27))
  have HX1 := Lib.hid (Blk.new w1 27 #[.slice A3 en.length c3, .slice A4 tr.length c4, .slice A5 sw.length c5, .bool hi])
  have HB1 : Hid (Below w.heap.size w (w1.alloc (.cells #[.slice A3 en.length c3, .slice A4 tr.length c4, .slice A5 sw.length c5, .bool hi] 27))) := Lib.hid (bl_alloc ((bl_alloc (Below.refl _ w) _).trans (hb.mono (by simp))) _)
  have K3 := Lib.hid k3
  have K4 := Lib.hid k4
  have K5 := Lib.hid k5
  have KD := Lib.hid hd
  clear hb k3 k4 k5 kt kj hgt hgj hd
  obtain ⟨b0, b1, b2, b3⟩ := Blk.quad HX1.out
  obtain ⟨z0, z1, z2, z3⟩ := Blk.quad HZ1.out
  have fz := HZ1.out.frozen
  go_wp2
  have hZ := (((HZ1.out.set_ 0 (.slice A3 en.length c3)).set_ 1 (.slice A4 tr.length c4)).set_ 2 (.slice A5 sw.length c5)).set_ 3 (.bool hi)
  obtain ⟨y0, y1, y2, y3⟩ := Blk.quad (w := (((((w1.alloc (.cells #[.slice A3 en.length c3, .slice A4 tr.length c4, .slice A5 sw.length c5, .bool hi] 27)).setCell ⟨w.heap.size, 0, none⟩ (.slice A3 en.length c3)).setCell ⟨w.heap.size, 1, none⟩ (.slice A4 tr.length c4)).setCell ⟨w.heap.size, 2, none⟩ (.slice A5 sw.length c5)).setCell ⟨w.heap.size, 3, none⟩ (.bool hi))) hZ
  clear hZ
  refine bodyPost_ret (v := .agg #[.slice A3 en.length c3, .slice A4 tr.length c4, .slice A5 sw.length c5, .bool hi]) (by simp [results, Try.results27, go_sem, y0, y1, y2, y3]) rfl ?_
  exact ⟨ts, js, A3, c3, en, A4, c4, tr, A5, c5, sw, hi, rfl, htl, hjl, KD.out, OwnZ.less (ownsRow_kp K3.out ((((((Kp.refl w1 (fun x => x = w.heap.size)).alloc _).set (a := ⟨w.heap.size, 0, none⟩) (.inl rfl) _).set (a := ⟨w.heap.size, 1, none⟩) (.inl rfl) _).set (a := ⟨w.heap.size, 2, none⟩) (.inl rfl) _).set (a := ⟨w.heap.size, 3, none⟩) (.inl rfl) _) (fun x e e2 => by have := (World.ownsRow.lt K3.out x e).1; simp at this; omega)) (by simp), OwnZ.less (ownsRow_kp K4.out ((((((Kp.refl w1 (fun x => x = w.heap.size)).alloc _).set (a := ⟨w.heap.size, 0, none⟩) (.inl rfl) _).set (a := ⟨w.heap.size, 1, none⟩) (.inl rfl) _).set (a := ⟨w.heap.size, 2, none⟩) (.inl rfl) _).set (a := ⟨w.heap.size, 3, none⟩) (.inl rfl) _) (fun x e e2 => by have := (World.ownsRow.lt K4.out x e).1; simp at this; omega)) (by simp), OwnZ.less (ownsRow_kp K5.out ((((((Kp.refl w1 (fun x => x = w.heap.size)).alloc _).set (a := ⟨w.heap.size, 0, none⟩) (.inl rfl) _).set (a := ⟨w.heap.size, 1, none⟩) (.inl rfl) _).set (a := ⟨w.heap.size, 2, none⟩) (.inl rfl) _).set (a := ⟨w.heap.size, 3, none⟩) (.inl rfl) _) (fun x e e2 => by have := (World.ownsRow.lt K5.out x e).1; simp at this; omega)) (by simp), bl_set (bl_set (bl_set (bl_set HB1.out (by dsimp only; omega) _) (by dsimp only; omega) _) (by dsimp only; omega) _) (by dsimp only; omega) _⟩


set_option maxRecDepth 100000 in
set_option maxHeartbeats 2000000 in
theorem dDrop_any (w : World) (A : Option Addr) (n c : Nat) (f : Nat → Int) (h : Code w w.heap.size A n c f) :
    Calls Try.prog 15 #[.slice A n c] w (DrewR1 w) := by
  have H := Lib.hid h
  have HZ0 := Lib.hid (Blk.new w 27 #[.slice none 0 0, .slice none 0 0, .slice none 0 0, .bool false])
  clear h
  go_enter Try.func15, Try.ntmps15
  go_wp2_with fail
  refine (dFmtTr_any _ A n c f (H.out.alloc _)).mono ?_
  rintro e w1 ⟨ts, js, A3, c3, en, A4, c4, tr, A5, c5, sw, hi, rfl, htl, hjl, hd, k3, k4, k5, hb⟩
  have hs1 : w.heap.size + 1 ≤ w1.heap.size := by have := hb.size; simp at this; omega
  have HZ1 := Lib.hid (HZ0.out.below hb (by simp))
  have HB1 : Hid (Below w.heap.size w w1) := Lib.hid ((bl_alloc (Below.refl _ w) _).trans (hb.mono (by simp)))
  have K3 := Lib.hid k3
  have K4 := Lib.hid k4
  have K5 := Lib.hid k5
  have KD := Lib.hid hd
  clear hb k3 k4 k5 hd
  obtain ⟨z0, z1, z2, z3⟩ := Blk.quad HZ1.out
  have fz := HZ1.out.frozen
  go_wp2
  have hZ := (((HZ1.out.set_ 0 (.slice A3 en.length c3)).set_ 1 (.slice A4 tr.length c4)).set_ 2 (.slice A5 sw.length c5)).set_ 3 (.bool hi)
  obtain ⟨y0, y1, y2, y3⟩ := Blk.quad (w := ((((w1.setCell ⟨w.heap.size, 0, none⟩ (.slice A3 en.length c3)).setCell ⟨w.heap.size, 1, none⟩ (.slice A4 tr.length c4)).setCell ⟨w.heap.size, 2, none⟩ (.slice A5 sw.length c5)).setCell ⟨w.heap.size, 3, none⟩ (.bool hi))) hZ
  clear hZ
  refine bodyPost_ret (v := .agg #[.slice A3 en.length c3, .slice A4 tr.length c4, .slice A5 sw.length c5, .bool hi]) (by simp [results, Try.results15, go_sem, y0, y1, y2, y3]) rfl ?_
  exact ⟨ts, js, A3, c3, en, A4, c4, tr, A5, c5, sw, hi, rfl, htl, hjl, KD.out, OwnZ.less (ownsRow_kp K3.out (((((Kp.refl w1 (fun x => x = w.heap.size)).set (a := ⟨w.heap.size, 0, none⟩) (.inl rfl) _).set (a := ⟨w.heap.size, 1, none⟩) (.inl rfl) _).set (a := ⟨w.heap.size, 2, none⟩) (.inl rfl) _).set (a := ⟨w.heap.size, 3, none⟩) (.inl rfl) _) (fun x e e2 => by have := (World.ownsRow.lt K3.out x e).1; simp at this; omega)) (by first | omega | simp), OwnZ.less (ownsRow_kp K4.out (((((Kp.refl w1 (fun x => x = w.heap.size)).set (a := ⟨w.heap.size, 0, none⟩) (.inl rfl) _).set (a := ⟨w.heap.size, 1, none⟩) (.inl rfl) _).set (a := ⟨w.heap.size, 2, none⟩) (.inl rfl) _).set (a := ⟨w.heap.size, 3, none⟩) (.inl rfl) _) (fun x e e2 => by have := (World.ownsRow.lt K4.out x e).1; simp at this; omega)) (by first | omega | simp), OwnZ.less (ownsRow_kp K5.out (((((Kp.refl w1 (fun x => x = w.heap.size)).set (a := ⟨w.heap.size, 0, none⟩) (.inl rfl) _).set (a := ⟨w.heap.size, 1, none⟩) (.inl rfl) _).set (a := ⟨w.heap.size, 2, none⟩) (.inl rfl) _).set (a := ⟨w.heap.size, 3, none⟩) (.inl rfl) _) (fun x e e2 => by have := (World.ownsRow.lt K5.out x e).1; simp at this; omega)) (by first | omega | simp), bl_set (bl_set (bl_set (bl_set HB1.out (by dsimp only; omega) _) (by dsimp only; omega) _) (by dsimp only; omega) _) (by dsimp only; omega) _⟩

/-- What a draw of a run and a number leaves. -/
def DrewR2 (w : World) (e : Ending) (w' : World) : Prop :=
  ∃ (ts : List Tk) (js : List Jb) (A3 : Option Addr) (c3 : Nat) (en : List Int) (A4 : Option Addr) (c4 : Nat) (tr : List Int) (A5 : Option Addr) (c5 : Nat) (sw : List Int) (hi : Bool) (z : Int),
    e = .returned (.tuple #[.agg #[.slice A3 en.length c3, .slice A4 tr.length c4, .slice A5 sw.length c5, .bool hi], .int .i64 z]) ∧ ts.length ≤ 5 ∧ js.length ≤ 60 ∧ DrawnR ts js en tr sw hi ∧ OwnZ w' w.heap.size (.slice A3 en.length c3) en ∧ OwnZ w' w.heap.size (.slice A4 tr.length c4) tr ∧ OwnZ w' w.heap.size (.slice A5 sw.length c5) sw ∧ Below w.heap.size w w'

set_option maxRecDepth 100000 in
set_option maxHeartbeats 2000000 in
theorem dRan_any (w : World) (A : Option Addr) (n c : Nat) (f : Nat → Int) (h : Code w w.heap.size A n c f) :
    Calls Try.prog 21 #[.slice A n c] w (DrewR2 w) := by
  have H := Lib.hid h
  have HZ0 := Lib.hid (Blk.new w 27 #[.slice none 0 0, .slice none 0 0, .slice none 0 0, .bool false])
  clear h
  go_enter Try.func21, Try.ntmps21
  go_wp2_with fail
  refine (dFmtTr_any _ A n c f (H.out.alloc _)).mono ?_
  rintro e w1 ⟨ts, js, A3, c3, en, A4, c4, tr, A5, c5, sw, hi, rfl, htl, hjl, hd, k3, k4, k5, hb⟩
  have hs1 : w.heap.size + 1 ≤ w1.heap.size := by have := hb.size; simp at this; omega
  have HZ1 := Lib.hid (HZ0.out.below hb (by simp))
  have HB1 : Hid (Below w.heap.size w w1) := Lib.hid ((bl_alloc (Below.refl _ w) _).trans (hb.mono (by simp)))
  have HC1 : Hid (Code w1 w1.heap.size A n c f) := Lib.hid (Code.belM H.out HB1.out)
  have K3 := Lib.hid k3
  have K4 := Lib.hid k4
  have K5 := Lib.hid k5
  have KD := Lib.hid hd
  clear hb k3 k4 k5 hd
  go_wp2_with fail
  refine (open_any _ A n c f HC1.out).mono ?_
  rintro e w2 ⟨rfl, n', hr, hb⟩
  have hs2 : w1.heap.size ≤ w2.heap.size := hb.size
  have HRd2 := Lib.hid hr
  have HBx2 := Lib.hid hb
  have hg2 : w1.heap.size < w2.heap.size := hr.lt
  clear hr hb
  go_wp2_with fail
  refine (num_any _ w1.heap.size w1.heap.size A n' c f 0 _ 5 (-1) 5 (HRd2.out.alloc _) (by omega) (by omega) (by omega) (by (try simp); omega) (lit_cells_at _ _ _ _ _ _ (by first | rfl | simp) (fun i hi => by rcases (by omega : i = 0 ∨ i = 1 ∨ i = 2 ∨ i = 3 ∨ i = 4) with rfl | rfl | rfl | rfl | rfl <;> exact ⟨_, rfl, by decide, by decide⟩))).mono ?_
  rintro e w3 ⟨z, rfl, tk0, tk1, hr, hgb⟩
  have HBx3 : Hid (Below w1.heap.size w1 w3) := Lib.hid ((HBx2.out.alloc (by omega) _).grown hgb (by (try simp); omega) (fun x e => by injection e with e; omega))
  clear hr hgb
  have HZ3 := Lib.hid (HZ1.out.below HBx3.out (by omega))
  have HB3 := Lib.hid (HB1.out.trans (HBx3.out.mono (by omega)))
  have L3 := Lib.hid (K3.out.below HBx3.out)
  have L4 := Lib.hid (K4.out.below HBx3.out)
  have L5 := Lib.hid (K5.out.below HBx3.out)
  obtain ⟨z0, z1, z2, z3⟩ := Blk.quad HZ3.out
  have fz := HZ3.out.frozen
  go_wp2
  have hZ := (((HZ3.out.set_ 0 (.slice A3 en.length c3)).set_ 1 (.slice A4 tr.length c4)).set_ 2 (.slice A5 sw.length c5)).set_ 3 (.bool hi)
  obtain ⟨y0, y1, y2, y3⟩ := Blk.quad (w := ((((w3.setCell ⟨w.heap.size, 0, none⟩ (.slice A3 en.length c3)).setCell ⟨w.heap.size, 1, none⟩ (.slice A4 tr.length c4)).setCell ⟨w.heap.size, 2, none⟩ (.slice A5 sw.length c5)).setCell ⟨w.heap.size, 3, none⟩ (.bool hi))) hZ
  clear hZ
  refine bodyPost_ret (v := .tuple #[.agg #[.slice A3 en.length c3, .slice A4 tr.length c4, .slice A5 sw.length c5, .bool hi], .int .i64 z]) (by simp [results, Try.results21, go_sem, y0, y1, y2, y3]) rfl ?_
  exact ⟨ts, js, A3, c3, en, A4, c4, tr, A5, c5, sw, hi, z, rfl, htl, hjl, KD.out, OwnZ.less (ownsRow_kp L3.out (((((Kp.refl w3 (fun x => x = w.heap.size)).set (a := ⟨w.heap.size, 0, none⟩) (.inl rfl) _).set (a := ⟨w.heap.size, 1, none⟩) (.inl rfl) _).set (a := ⟨w.heap.size, 2, none⟩) (.inl rfl) _).set (a := ⟨w.heap.size, 3, none⟩) (.inl rfl) _) (fun x e e2 => by have := (World.ownsRow.lt L3.out x e).1; simp at this; omega)) (by first | omega | simp), OwnZ.less (ownsRow_kp L4.out (((((Kp.refl w3 (fun x => x = w.heap.size)).set (a := ⟨w.heap.size, 0, none⟩) (.inl rfl) _).set (a := ⟨w.heap.size, 1, none⟩) (.inl rfl) _).set (a := ⟨w.heap.size, 2, none⟩) (.inl rfl) _).set (a := ⟨w.heap.size, 3, none⟩) (.inl rfl) _) (fun x e e2 => by have := (World.ownsRow.lt L4.out x e).1; simp at this; omega)) (by first | omega | simp), OwnZ.less (ownsRow_kp L5.out (((((Kp.refl w3 (fun x => x = w.heap.size)).set (a := ⟨w.heap.size, 0, none⟩) (.inl rfl) _).set (a := ⟨w.heap.size, 1, none⟩) (.inl rfl) _).set (a := ⟨w.heap.size, 2, none⟩) (.inl rfl) _).set (a := ⟨w.heap.size, 3, none⟩) (.inl rfl) _) (fun x e e2 => by have := (World.ownsRow.lt L5.out x e).1; simp at this; omega)) (by first | omega | simp), bl_set (bl_set (bl_set (bl_set HB3.out (by dsimp only; omega) _) (by dsimp only; omega) _) (by dsimp only; omega) _) (by dsimp only; omega) _⟩

set_option maxRecDepth 100000 in
set_option maxHeartbeats 2000000 in
theorem dMiss_any (w : World) (A : Option Addr) (n c : Nat) (f : Nat → Int) (h : Code w w.heap.size A n c f) :
    Calls Try.prog 10 #[.slice A n c] w (DrewRun w) := by
  have H := Lib.hid h
  have HZ0 := Lib.hid (Blk.new w 27 #[.slice none 0 0, .slice none 0 0, .slice none 0 0, .bool false])
  clear h
  go_enter Try.func10, Try.ntmps10
  go_wp2_with fail
  refine (l7Run_any _ A n c f (H.out.alloc _)).mono ?_
  rintro e w1 ⟨A1, c1, ts, A2, c2, js, A3, c3, en, A4, c4, tr, A5, c5, sw, hi, rfl, htl, hjl, hgt, hgj, hd, kt, kj, k3, k4, k5, hb⟩
  have hs1 : w.heap.size + 1 ≤ w1.heap.size := by have := hb.size; simp at this; omega
  have HZ1 := Lib.hid (HZ0.out.below hb (by simp))
  have HB1 : Hid (Below w.heap.size w w1) := Lib.hid ((bl_alloc (Below.refl _ w) _).trans (hb.mono (by simp)))
  have K1 := Lib.hid kt
  have K2 := Lib.hid kj
  have K3 := Lib.hid k3
  have K4 := Lib.hid k4
  have K5 := Lib.hid k5
  have KD := Lib.hid hd
  have KG := Lib.hid hgt
  have KJ := Lib.hid hgj
  clear hb k3 k4 k5 hd kt kj hgt hgj
  obtain ⟨z0, z1, z2, z3⟩ := Blk.quad HZ1.out
  have fz := HZ1.out.frozen
  go_wp2
  have hZ := (((HZ1.out.set_ 0 (.slice A3 en.length c3)).set_ 1 (.slice A4 tr.length c4)).set_ 2 (.slice A5 sw.length c5)).set_ 3 (.bool hi)
  obtain ⟨y0, y1, y2, y3⟩ := Blk.quad (w := ((((w1.setCell ⟨w.heap.size, 0, none⟩ (.slice A3 en.length c3)).setCell ⟨w.heap.size, 1, none⟩ (.slice A4 tr.length c4)).setCell ⟨w.heap.size, 2, none⟩ (.slice A5 sw.length c5)).setCell ⟨w.heap.size, 3, none⟩ (.bool hi))) hZ
  clear hZ
  refine bodyPost_ret (v := .tuple #[.slice A1 ts.length c1, .slice A2 js.length c2, .agg #[.slice A3 en.length c3, .slice A4 tr.length c4, .slice A5 sw.length c5, .bool hi]]) (by simp [results, Try.results10, go_sem, y0, y1, y2, y3]) rfl ?_
  exact ⟨A1, c1, ts, A2, c2, js, A3, c3, en, A4, c4, tr, A5, c5, sw, hi, rfl, htl, hjl, KG.out, KJ.out, KD.out, own_more (ownsRow_kp K1.out (((((Kp.refl w1 (fun x => x = w.heap.size)).set (a := ⟨w.heap.size, 0, none⟩) (.inl rfl) _).set (a := ⟨w.heap.size, 1, none⟩) (.inl rfl) _).set (a := ⟨w.heap.size, 2, none⟩) (.inl rfl) _).set (a := ⟨w.heap.size, 3, none⟩) (.inl rfl) _) (fun x e e2 => by have := (World.ownsRow.lt K1.out x e).1; simp at this; omega)) (by first | omega | simp), OwnJ.less (ownsRow_kp K2.out (((((Kp.refl w1 (fun x => x = w.heap.size)).set (a := ⟨w.heap.size, 0, none⟩) (.inl rfl) _).set (a := ⟨w.heap.size, 1, none⟩) (.inl rfl) _).set (a := ⟨w.heap.size, 2, none⟩) (.inl rfl) _).set (a := ⟨w.heap.size, 3, none⟩) (.inl rfl) _) (fun x e e2 => by have := (World.ownsRow.lt K2.out x e).1; simp at this; omega)) (by first | omega | simp), OwnZ.less (ownsRow_kp K3.out (((((Kp.refl w1 (fun x => x = w.heap.size)).set (a := ⟨w.heap.size, 0, none⟩) (.inl rfl) _).set (a := ⟨w.heap.size, 1, none⟩) (.inl rfl) _).set (a := ⟨w.heap.size, 2, none⟩) (.inl rfl) _).set (a := ⟨w.heap.size, 3, none⟩) (.inl rfl) _) (fun x e e2 => by have := (World.ownsRow.lt K3.out x e).1; simp at this; omega)) (by first | omega | simp), OwnZ.less (ownsRow_kp K4.out (((((Kp.refl w1 (fun x => x = w.heap.size)).set (a := ⟨w.heap.size, 0, none⟩) (.inl rfl) _).set (a := ⟨w.heap.size, 1, none⟩) (.inl rfl) _).set (a := ⟨w.heap.size, 2, none⟩) (.inl rfl) _).set (a := ⟨w.heap.size, 3, none⟩) (.inl rfl) _) (fun x e e2 => by have := (World.ownsRow.lt K4.out x e).1; simp at this; omega)) (by first | omega | simp), OwnZ.less (ownsRow_kp K5.out (((((Kp.refl w1 (fun x => x = w.heap.size)).set (a := ⟨w.heap.size, 0, none⟩) (.inl rfl) _).set (a := ⟨w.heap.size, 1, none⟩) (.inl rfl) _).set (a := ⟨w.heap.size, 2, none⟩) (.inl rfl) _).set (a := ⟨w.heap.size, 3, none⟩) (.inl rfl) _) (fun x e e2 => by have := (World.ownsRow.lt K5.out x e).1; simp at this; omega)) (by first | omega | simp), bl_set (bl_set (bl_set (bl_set HB1.out (by dsimp only; omega) _) (by dsimp only; omega) _) (by dsimp only; omega) _) (by dsimp only; omega) _⟩

end Go.Proofs.Ytpalcnhceffcmaa
