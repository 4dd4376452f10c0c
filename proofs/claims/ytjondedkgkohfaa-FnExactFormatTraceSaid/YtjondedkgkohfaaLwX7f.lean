/- The walk of the exact law of FormatTrace. -/
import Derived.Test.YtjondedkgkohfaaRnF
import Derived.Deep.RegionWith
import Derived.Deep.RegionHeld3
namespace Go.Proofs.Ytjondedkgkohfaa
open Go.RowKit
set_option linter.unusedVariables false

theorem sFmtT_to (w : World) (A1 : Option Addr) (n1 c1 : Nat) (A2 : Option Addr) (n2 c2 : Nat) (A3 : Option Addr) (n3 c3 : Nat) (hi : Bool) (tr : List Int) (h : Zs w w.heap.size A2 n2 tr) (hn : n2 ≤ 1100000) (r : List UInt8) (hr : fmtT tr = r) :
    Calls Try.prog 35 #[.agg #[.slice A1 n1 c1, .slice A2 n2 c2, .slice A3 n3 c3, .bool hi]] w (TxtRes r w) := hr ▸ sFmtT_is w A1 n1 c1 A2 n2 c2 A3 n3 c3 hi tr h hn

theorem iFmtT_to (w : World) (A1 : Option Addr) (n1 c1 : Nat) (A2 : Option Addr) (n2 c2 : Nat) (A3 : Option Addr) (n3 c3 : Nat) (hi : Bool) (tr : List Int) (h : Zs w w.heap.size A2 n2 tr) (hn : n2 ≤ 1100000) (r : List UInt8) (hr : fmtT tr = r) :
    Calls Try.prog 33 #[.agg #[.slice A1 n1 c1, .slice A2 n2 c2, .slice A3 n3 c3, .bool hi]] w (TxtRes r w) := hr ▸ iFmtT_is w A1 n1 c1 A2 n2 c2 A3 n3 c3 hi tr h hn

set_option maxRecDepth 100000 in
set_option maxHeartbeats 4000000 in
theorem fnExactFormatTrace_walk (w : World) (A1 : Option Addr) (n1 c1 : Nat) (A2 : Option Addr) (n2 c2 : Nat) (A3 : Option Addr) (n3 c3 : Nat) (hi : Bool) (en tr sw : List Int)
    (h : RnAt w A1 n1 A2 n2 A3 n3 en tr sw) (m1 : n1 ≤ 9223372036854775807) (m2 : n2 ≤ 9223372036854775807) (m3 : n3 ≤ 9223372036854775807) :
    Calls Try.prog 11 #[.agg #[.slice A1 n1 c1, .slice A2 n2 c2, .slice A3 n3 c3, .bool hi]] w fun e w' => e = .returned (.bool true) ∧ Below w.heap.size w w' := by
  have H := Lib.hid h
  have L1 := Lib.hid h.e.len
  have L2 := Lib.hid h.t.len
  have L3 := Lib.hid h.s.len
  clear h
  obtain ⟨r, hr⟩ : ∃ r, fmtT tr = r := ⟨_, rfl⟩
  have HR := Lib.hid hr
  clear hr
  go_enter Try.func11, Try.ntmps11
  go_wp2_with fail
  refine (szRun_any _ A1 n1 c1 A2 n2 c2 A3 n3 c3 hi m1 m2 m3 1048576 (by omega) (by omega)).mono ?_
  rintro e w1 ⟨⟨z0, rfl, hz⟩, hb⟩
  have HB1 := Lib.hid (show Below w.heap.size w w1 from bl_trans (by repeat (first | with_reducible exact Below.refl _ _ | with_reducible refine Below.drew ?_ | with_reducible refine bl_drewN ?_ _ | with_reducible refine bl_alloc ?_ _)) hb)
  have hs1 : w.heap.size ≤ w1.heap.size := by have := hb.size; (try simp at this); omega
  have bA1 := Lib.hid (show Blk w1 (w.heap.size) 50 #[.slice A1 n1 c1, .slice A2 n2 c2, .slice A3 n3 c3, .bool hi] from Blk.below (by have hh := Blk.new (w) 50 #[.slice A1 n1 c1, .slice A2 n2 c2, .slice A3 n3 c3, .bool hi]; (try simp only [World.size_alloc] at hh); repeat (first | exact hh | with_reducible refine Blk.drewN ?_ _ | with_reducible refine Blk.drewR ?_ | with_reducible refine Blk.alloc ?_ _)) hb (by first | omega | (simp; done) | (simp; omega)))
  clear hb  
  have cA := bA1.out.cell
  rcases hz with ⟨hz, rfl⟩ | ⟨hz, rfl⟩
  · go_wp2
    go_ret
    exact ⟨rfl, HB1.out⟩
  have d1 : ¬ (1048576 : Int) - ((n1 + n2 + n3 : Nat) : Int) < 0 := by omega
  have k1 : n1 ≤ 1048576 := by omega
  have k2 : n2 ≤ 1048576 := by omega
  have k3 : n3 ≤ 1048576 := by omega
  go_wp2_with fail
  refine (toRun_any _ A1 n1 c1 A2 n2 c2 A3 n3 c3 hi en tr sw (H.out.below (by repeat (first | with_reducible exact HB1.out | with_reducible refine Below.drew ?_ | with_reducible refine bl_drewN ?_ _ | with_reducible refine bl_alloc ?_ _))) k1 k2 k3).mono ?_
  rintro e w2 ⟨X1, d1, X2, d2, X3, d3, s1, s2, rfl, o1, o2, o3, _, _, _, _, hb⟩
  have HB2 := Lib.hid (show Below w.heap.size w w2 from bl_trans (by repeat (first | with_reducible exact HB1.out | with_reducible refine Below.drew ?_ | with_reducible refine bl_drewN ?_ _ | with_reducible refine bl_alloc ?_ _)) hb)
  have hs2 : w1.heap.size ≤ w2.heap.size := by have := hb.size; (try simp at this); omega
  have bA2 := Lib.hid (show Blk w2 (w.heap.size) 50 #[.slice A1 n1 c1, .slice A2 n2 c2, .slice A3 n3 c3, .bool hi] from Blk.below (by repeat (first | with_reducible exact bA1.out | with_reducible refine Blk.drewN ?_ _ | with_reducible refine Blk.drewR ?_ | with_reducible refine Blk.alloc ?_ _)) hb (by have := bA1.out.lt; first | exact this | omega | (simp; omega)))
  have HX2 := Lib.hid (RnCopy.reads o1 o2 o3)
  clear o1 o2 o3
  clear hb  bA1 HB1 cA
  have cA := bA2.out.cell
  go_wp2_with fail
  refine (sFmtT_to _ X1 _ d1 X2 _ d2 X3 _ d3 hi tr (HX2.out.below (by repeat (first | with_reducible exact Below.refl _ _ | with_reducible refine Below.drew ?_ | with_reducible refine bl_drewN ?_ _ | with_reducible refine bl_alloc ?_ _))).t (by have := L2.out; omega) r HR.out).mono ?_
  rintro e w3 ⟨rfl, hb⟩
  have HB3 := Lib.hid (show Below w.heap.size w w3 from bl_trans (by repeat (first | with_reducible exact HB2.out | with_reducible refine Below.drew ?_ | with_reducible refine bl_drewN ?_ _ | with_reducible refine bl_alloc ?_ _)) hb)
  have hs3 : w2.heap.size ≤ w3.heap.size := by have := hb.size; (try simp at this); omega
  have bA3 := Lib.hid (show Blk w3 (w.heap.size) 50 #[.slice A1 n1 c1, .slice A2 n2 c2, .slice A3 n3 c3, .bool hi] from Blk.below (by repeat (first | with_reducible exact bA2.out | with_reducible refine Blk.drewN ?_ _ | with_reducible refine Blk.drewR ?_ | with_reducible refine Blk.alloc ?_ _)) hb (by have := bA2.out.lt; first | exact this | omega | (simp; omega)))
  have HX3 := Lib.hid (HX2.out.below (show Below w2.heap.size w2 w3 from bl_trans (by repeat (first | with_reducible exact Below.refl _ _ | with_reducible refine Below.drew ?_ | with_reducible refine bl_drewN ?_ _ | with_reducible refine bl_alloc ?_ _)) hb))
  clear hb  bA2 HX2 HB2 cA
  have cA := bA3.out.cell
  clear HX3
  go_wp2_with fail
  refine (toRun_any _ A1 n1 c1 A2 n2 c2 A3 n3 c3 hi en tr sw (H.out.below (by repeat (first | with_reducible exact HB3.out | with_reducible refine Below.drew ?_ | with_reducible refine bl_drewN ?_ _ | with_reducible refine bl_alloc ?_ _))) k1 k2 k3).mono ?_
  rintro e w4 ⟨Y1, e1, Y2, e2, Y3, e3, s1, s2, rfl, o1, o2, o3, _, _, _, _, hb⟩
  have HB4 := Lib.hid (show Below w.heap.size w w4 from bl_trans (by repeat (first | with_reducible exact HB3.out | with_reducible refine Below.drew ?_ | with_reducible refine bl_drewN ?_ _ | with_reducible refine bl_alloc ?_ _)) hb)
  have hs4 : w3.heap.size ≤ w4.heap.size := by have := hb.size; (try simp at this); omega
  have bA4 := Lib.hid (show Blk w4 (w.heap.size) 50 #[.slice A1 n1 c1, .slice A2 n2 c2, .slice A3 n3 c3, .bool hi] from Blk.below (by repeat (first | with_reducible exact bA3.out | with_reducible refine Blk.drewN ?_ _ | with_reducible refine Blk.drewR ?_ | with_reducible refine Blk.alloc ?_ _)) hb (by have := bA3.out.lt; first | exact this | omega | (simp; omega)))
  have HY4 := Lib.hid (RnCopy.reads o1 o2 o3)
  clear o1 o2 o3
  clear hb  bA3 HB3 cA
  have cA := bA4.out.cell
  have xA := (Blk.alloc bA4.out (.cells #[.slice Y1 en.length e1, .slice Y2 tr.length e2, .slice Y3 sw.length e3, .bool hi] 27)).cell
  go_wp2_with fail
  refine (iFmtT_to _ Y1 _ e1 Y2 _ e2 Y3 _ e3 hi tr (HY4.out.below (by repeat (first | with_reducible exact Below.refl _ _ | with_reducible refine Below.drew ?_ | with_reducible refine bl_drewN ?_ _ | with_reducible refine bl_alloc ?_ _))).t (by have := L2.out; omega) r HR.out).mono ?_
  rintro e w5 ⟨rfl, hb⟩
  have HB5 := Lib.hid (show Below w.heap.size w w5 from bl_trans (by repeat (first | with_reducible exact HB4.out | with_reducible refine Below.drew ?_ | with_reducible refine bl_drewN ?_ _ | with_reducible refine bl_alloc ?_ _)) hb)
  have hs5 : w4.heap.size ≤ w5.heap.size := by have := hb.size; (try simp at this); omega
  have bA5 := Lib.hid (show Blk w5 (w.heap.size) 50 #[.slice A1 n1 c1, .slice A2 n2 c2, .slice A3 n3 c3, .bool hi] from Blk.below (by repeat (first | with_reducible exact bA4.out | with_reducible refine Blk.drewN ?_ _ | with_reducible refine Blk.drewR ?_ | with_reducible refine Blk.alloc ?_ _)) hb (by have := bA4.out.lt; first | exact this | omega | (simp; omega)))
  have bY5 := Lib.hid (show Blk w5 (w4.heap.size) 27 #[.slice Y1 en.length e1, .slice Y2 tr.length e2, .slice Y3 sw.length e3, .bool hi] from Blk.below (by have hh := Blk.new (w4) 27 #[.slice Y1 en.length e1, .slice Y2 tr.length e2, .slice Y3 sw.length e3, .bool hi]; (try simp only [World.size_alloc] at hh); repeat (first | exact hh | with_reducible refine Blk.drewN ?_ _ | with_reducible refine Blk.drewR ?_ | with_reducible refine Blk.alloc ?_ _)) hb (by first | omega | (simp; done) | (simp; omega)))
  have HY5 := Lib.hid (HY4.out.below (show Below w4.heap.size w4 w5 from bl_trans (by repeat (first | with_reducible exact Below.refl _ _ | with_reducible refine Below.drew ?_ | with_reducible refine bl_drewN ?_ _ | with_reducible refine bl_alloc ?_ _)) hb))
  clear hb  xA bA4 HY4 HB4 cA
  have cA := bA5.out.cell
  have cY := bY5.out.cell
  have hS5 := (And.intro (Blk.four bA5.out) (Blk.four bY5.out))
  go_wp2_with fail
  go_region_held3 (fun W => (W.cell? ⟨w.heap.size, 0, none⟩ = some (.slice A1 n1 c1) ∧ W.cell? ⟨w.heap.size, 1, none⟩ = some (.slice A2 n2 c2) ∧ W.cell? ⟨w.heap.size, 2, none⟩ = some (.slice A3 n3 c3) ∧ W.cell? ⟨w.heap.size, 3, none⟩ = some (.bool hi)) ∧ (W.cell? ⟨w4.heap.size, 0, none⟩ = some (.slice Y1 en.length e1) ∧ W.cell? ⟨w4.heap.size, 1, none⟩ = some (.slice Y2 tr.length e2) ∧ W.cell? ⟨w4.heap.size, 2, none⟩ = some (.slice Y3 sw.length e3) ∧ W.cell? ⟨w4.heap.size, 3, none⟩ = some (.bool hi))) (first | exact hS5 | exact hS6 | exact hS7)
    ((first
      | (go_at_call 40
         refine (toRun_any _ A1 n1 c1 A2 n2 c2 A3 n3 c3 hi en tr sw (H.out.below (by repeat (first | with_reducible exact HB5.out | with_reducible refine Below.drew ?_ | with_reducible refine bl_drewN ?_ _ | with_reducible refine bl_alloc ?_ _))) k1 k2 k3).mono ?_
         rintro e w6 ⟨Z1, f1, Z2, f2, Z3, f3, s1, s2, rfl, o1, o2, o3, _, _, _, _, hb⟩
         have HB6 := Lib.hid (show Below w.heap.size w w6 from bl_trans (by repeat (first | with_reducible exact HB5.out | with_reducible refine Below.drew ?_ | with_reducible refine bl_drewN ?_ _ | with_reducible refine bl_alloc ?_ _)) hb)
         have hs6 : w5.heap.size ≤ w6.heap.size := by have := hb.size; (try simp at this); omega
         have bA6 := Lib.hid (show Blk w6 (w.heap.size) 50 #[.slice A1 n1 c1, .slice A2 n2 c2, .slice A3 n3 c3, .bool hi] from Blk.below (by repeat (first | with_reducible exact bA5.out | with_reducible refine Blk.drewN ?_ _ | with_reducible refine Blk.drewR ?_ | with_reducible refine Blk.alloc ?_ _)) hb (by have := bA5.out.lt; first | exact this | omega | (simp; omega)))
         have bY6 := Lib.hid (show Blk w6 (w4.heap.size) 27 #[.slice Y1 en.length e1, .slice Y2 tr.length e2, .slice Y3 sw.length e3, .bool hi] from Blk.below (by repeat (first | with_reducible exact bY5.out | with_reducible refine Blk.drewN ?_ _ | with_reducible refine Blk.drewR ?_ | with_reducible refine Blk.alloc ?_ _)) hb (by have := bY5.out.lt; first | exact this | omega | (simp; omega)))
         have HY6 := Lib.hid (HY5.out.below (show Below w5.heap.size w5 w6 from bl_trans (by repeat (first | with_reducible exact Below.refl _ _ | with_reducible refine Below.drew ?_ | with_reducible refine bl_drewN ?_ _ | with_reducible refine bl_alloc ?_ _)) hb))
         have HZ6 := Lib.hid (RnCopy.reads o1 o2 o3)
         clear o1 o2 o3
         have cA := bA6.out.cell
         have cY := bY6.out.cell
         have hS6 := (And.intro (Blk.four bA6.out) (Blk.four bY6.out))
         clear hb)
      | (go_at_call 41
         refine (eqRun_any _ Y1 _ e1 Y2 _ e2 Y3 _ e3 Z1 f1 Z2 f2 Z3 f3 hi en tr sw (HY6.out.below (by repeat (first | with_reducible exact Below.refl _ _ | with_reducible refine Below.drew ?_ | with_reducible refine bl_drewN ?_ _ | with_reducible refine bl_alloc ?_ _))) (HZ6.out.below (by repeat (first | with_reducible exact Below.refl _ _ | with_reducible refine Below.drew ?_ | with_reducible refine bl_drewN ?_ _ | with_reducible refine bl_alloc ?_ _))) (by have := L1.out; omega) (by have := L2.out; omega) (by have := L3.out; omega)).mono ?_
         rintro e w7 ⟨rfl, hb⟩
         have HB7 := Lib.hid (show Below w.heap.size w w7 from bl_trans (by repeat (first | with_reducible exact HB6.out | with_reducible refine Below.drew ?_ | with_reducible refine bl_drewN ?_ _ | with_reducible refine bl_alloc ?_ _)) hb)
         have hs7 : w6.heap.size ≤ w7.heap.size := by have := hb.size; (try simp at this); omega
         have bA7 := Lib.hid (show Blk w7 (w.heap.size) 50 #[.slice A1 n1 c1, .slice A2 n2 c2, .slice A3 n3 c3, .bool hi] from Blk.below (by repeat (first | with_reducible exact bA6.out | with_reducible refine Blk.drewN ?_ _ | with_reducible refine Blk.drewR ?_ | with_reducible refine Blk.alloc ?_ _)) hb (by have := bA6.out.lt; first | exact this | omega | (simp; omega)))
         have bY7 := Lib.hid (show Blk w7 (w4.heap.size) 27 #[.slice Y1 en.length e1, .slice Y2 tr.length e2, .slice Y3 sw.length e3, .bool hi] from Blk.below (by repeat (first | with_reducible exact bY6.out | with_reducible refine Blk.drewN ?_ _ | with_reducible refine Blk.drewR ?_ | with_reducible refine Blk.alloc ?_ _)) hb (by have := bY6.out.lt; first | exact this | omega | (simp; omega)))
         have HY7 := Lib.hid (HY6.out.below (show Below w6.heap.size w6 w7 from bl_trans (by repeat (first | with_reducible exact Below.refl _ _ | with_reducible refine Below.drew ?_ | with_reducible refine bl_drewN ?_ _ | with_reducible refine bl_alloc ?_ _)) hb))
         have HZ7 := Lib.hid (HZ6.out.below (show Below w6.heap.size w6 w7 from bl_trans (by repeat (first | with_reducible exact Below.refl _ _ | with_reducible refine Below.drew ?_ | with_reducible refine bl_drewN ?_ _ | with_reducible refine bl_alloc ?_ _)) hb))
         have cA := bA7.out.cell
         have cY := bY7.out.cell
         have hS7 := (And.intro (Blk.four bA7.out) (Blk.four bY7.out))
         clear hb)))
  have cA := bA7.out.cell
  have cY := bY7.out.cell
  go_wp2
  go_ret
  exact ⟨rfl, (by repeat (first | with_reducible exact HB7.out | with_reducible refine Below.drew ?_ | with_reducible refine bl_drewN ?_ _ | with_reducible refine bl_alloc ?_ _))⟩

end Go.Proofs.Ytjondedkgkohfaa
