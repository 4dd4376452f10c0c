/- The walk of the exact law of LongestOf. -/
import Derived.Test.YtjondedkgkohfaaRnL
import Derived.Test.YtjondedkgkohfaaExJ
import Derived.Deep.RegionWith
import Derived.Deep.RegionHeld3
namespace Go.Proofs.Ytjondedkgkohfaa
open Go.RowKit
set_option linter.unusedVariables false

def JbsAt (w : World) (A : Option Addr) (n : Nat) (js : List Jb) : Prop := Jbs w w.heap.size A n js
theorem JbsAt.below {w w' : World} {A : Option Addr} {n : Nat} {js : List Jb} (h : JbsAt w A n js) (hb : Below w.heap.size w w') : JbsAt w' A n js := (Jbs.below h hb).more hb.size

set_option maxRecDepth 100000 in
set_option maxHeartbeats 4000000 in
theorem fnExactLongestOf_walk (w : World) (Aj : Option Addr) (nj cj : Nat) (js : List Jb) (hj : Jbs w w.heap.size Aj nj js) (hjmax : nj ≤ 9223372036854775807) (A1 : Option Addr) (n1 c1 : Nat) (A2 : Option Addr) (n2 c2 : Nat) (A3 : Option Addr) (n3 c3 : Nat) (hi : Bool) (en tr sw : List Int)
    (h : RnAt w A1 n1 A2 n2 A3 n3 en tr sw) (m1 : n1 ≤ 9223372036854775807) (m2 : n2 ≤ 9223372036854775807) (m3 : n3 ≤ 9223372036854775807) (task : Int) :
    Calls Try.prog 14 #[.slice Aj nj cj, .agg #[.slice A1 n1 c1, .slice A2 n2 c2, .slice A3 n3 c3, .bool hi], .int .i64 task] w fun e w' => e = .returned (.bool true) ∧ Below w.heap.size w w' := by
  have H := Lib.hid h
  have L1 := Lib.hid h.e.len
  have L2 := Lib.hid h.t.len
  have L3 := Lib.hid h.s.len
  clear h
  obtain ⟨r, hr⟩ : ∃ r, longV task js en = r := ⟨_, rfl⟩
  have HR := Lib.hid hr
  clear hr
  have HJw := Lib.hid (show JbsAt w Aj nj js from hj)
  have LJ := Lib.hid hj.len
  clear hj
  by_cases hnj : (1048576 : Int) < (nj : Int)
  · go_enter Try.func14, Try.ntmps14
    go_wp2_with fail
    refine (szJ_any _ Aj nj cj hjmax 1048576 (by omega) (by omega)).mono ?_
    rintro e w1 ⟨rfl, rfl⟩
    rw [if_pos (by omega)]
    go_wp2
    go_ret
    exact ⟨rfl, bl_alloc (Below.refl _ _) _⟩
  have knj : nj ≤ 1048576 := by omega
  have dj : ¬ (1048576 : Int) - (nj : Int) < 0 := by omega
  go_enter Try.func14, Try.ntmps14
  go_wp2_with fail
  refine (szJ_any _ Aj nj cj hjmax 1048576 (by omega) (by omega)).mono ?_
  rintro e w1 ⟨rfl, rfl⟩
  rw [if_neg (by omega)]
  go_wp2_with fail
  refine (szRun_any _ A1 n1 c1 A2 n2 c2 A3 n3 c3 hi m1 m2 m3 _ (by omega) (by omega)).mono ?_
  rintro e w1 ⟨⟨z0, rfl, hz⟩, hb⟩
  have HB1 := Lib.hid (show Below w.heap.size w w1 from bl_trans (by repeat (first | with_reducible exact Below.refl _ _ | with_reducible refine Below.drew ?_ | with_reducible refine bl_drewN ?_ _ | with_reducible refine bl_alloc ?_ _)) hb)
  have hs1 : w.heap.size ≤ w1.heap.size := by have := hb.size; (try simp at this); omega
  have bA1 := Lib.hid (show Blk w1 (w.heap.size) 50 #[.slice A1 n1 c1, .slice A2 n2 c2, .slice A3 n3 c3, .bool hi] from Blk.below (by have hh := Blk.new (w) 50 #[.slice A1 n1 c1, .slice A2 n2 c2, .slice A3 n3 c3, .bool hi]; (try simp only [World.size_alloc] at hh); repeat (first | exact hh | with_reducible refine Blk.drewN ?_ _ | with_reducible refine Blk.drewR ?_ | with_reducible refine Blk.alloc ?_ _)) hb (by first | omega | (simp; done) | (simp; omega)))
  clear hb  
  have cA := bA1.out.cell
  rcases hz with ⟨hz, rfl⟩ | ⟨hz, rfl⟩
  · go_wp2
    go_ret
    exact ⟨rfl, HB1.out⟩
  have d1 : ¬ (1048576 : Int) - (nj : Int) - ((n1 + n2 + n3 : Nat) : Int) < 0 := by omega
  have k1 : n1 ≤ 1048576 := by omega
  have k2 : n2 ≤ 1048576 := by omega
  have k3 : n3 ≤ 1048576 := by omega
  have hS1 := (Blk.four bA1.out)
  go_wp2_with fail
  go_region_held3 (fun W => (W.cell? ⟨w.heap.size, 0, none⟩ = some (.slice A1 n1 c1) ∧ W.cell? ⟨w.heap.size, 1, none⟩ = some (.slice A2 n2 c2) ∧ W.cell? ⟨w.heap.size, 2, none⟩ = some (.slice A3 n3 c3) ∧ W.cell? ⟨w.heap.size, 3, none⟩ = some (.bool hi))) (first | exact hS1 | exact hS2 | exact hS3 | exact hS4)
    ((first
      | (go_at_call 45
         refine (toJobS_any _ Aj nj cj js (HJw.out.below (by repeat (first | with_reducible exact HB1.out | with_reducible refine Below.drew ?_ | with_reducible refine bl_drewN ?_ _ | with_reducible refine bl_alloc ?_ _))) knj).mono ?_
         rintro e w2 ⟨gu, rfl, ho, hb⟩
         have HB2 := Lib.hid (show Below w.heap.size w w2 from bl_trans (by repeat (first | with_reducible exact HB1.out | with_reducible refine Below.drew ?_ | with_reducible refine bl_drewN ?_ _ | with_reducible refine bl_alloc ?_ _)) hb)
         have hs2 : w1.heap.size ≤ w2.heap.size := by have := hb.size; (try simp at this); omega
         have bA2 := Lib.hid (show Blk w2 (w.heap.size) 50 #[.slice A1 n1 c1, .slice A2 n2 c2, .slice A3 n3 c3, .bool hi] from Blk.below (by repeat (first | with_reducible exact bA1.out | with_reducible refine Blk.drewN ?_ _ | with_reducible refine Blk.drewR ?_ | with_reducible refine Blk.alloc ?_ _)) hb (by have := bA1.out.lt; first | exact this | omega | (simp; omega)))
         have Hu2 := Lib.hid (show JbsAt w2 _ _ js from ho.reads.2)
         clear ho
         have cA := bA2.out.cell
         have hS2 := (Blk.four bA2.out)
         clear hb)
      | (go_at_call 40
         refine (toRun_any _ A1 n1 c1 A2 n2 c2 A3 n3 c3 hi en tr sw (H.out.below (by repeat (first | with_reducible exact HB2.out | with_reducible refine Below.drew ?_ | with_reducible refine bl_drewN ?_ _ | with_reducible refine bl_alloc ?_ _))) k1 k2 k3).mono ?_
         rintro e w3 ⟨X1, d1, X2, d2, X3, d3, s1, s2, rfl, o1, o2, o3, _, _, _, _, hb⟩
         have HB3 := Lib.hid (show Below w.heap.size w w3 from bl_trans (by repeat (first | with_reducible exact HB2.out | with_reducible refine Below.drew ?_ | with_reducible refine bl_drewN ?_ _ | with_reducible refine bl_alloc ?_ _)) hb)
         have hs3 : w2.heap.size ≤ w3.heap.size := by have := hb.size; (try simp at this); omega
         have bA3 := Lib.hid (show Blk w3 (w.heap.size) 50 #[.slice A1 n1 c1, .slice A2 n2 c2, .slice A3 n3 c3, .bool hi] from Blk.below (by repeat (first | with_reducible exact bA2.out | with_reducible refine Blk.drewN ?_ _ | with_reducible refine Blk.drewR ?_ | with_reducible refine Blk.alloc ?_ _)) hb (by have := bA2.out.lt; first | exact this | omega | (simp; omega)))
         have Hu3 := Lib.hid (Hu2.out.below (show Below w2.heap.size w2 w3 from bl_trans (by repeat (first | with_reducible exact Below.refl _ _ | with_reducible refine Below.drew ?_ | with_reducible refine bl_drewN ?_ _ | with_reducible refine bl_alloc ?_ _)) hb))
         have HX3 := Lib.hid (RnCopy.reads o1 o2 o3)
         clear o1 o2 o3
         have cA := bA3.out.cell
         have hS3 := (Blk.four bA3.out)
         clear hb)
      | (go_at_call 27
         refine (sLong_is _ (some ⟨gu, 0, none⟩) _ _ js X1 _ d1 X2 _ d2 X3 _ d3 hi en (Hu3.out.below (by repeat (first | with_reducible exact Below.refl _ _ | with_reducible refine Below.drew ?_ | with_reducible refine bl_drewN ?_ _ | with_reducible refine bl_alloc ?_ _))) (HX3.out.below (by repeat (first | with_reducible exact Below.refl _ _ | with_reducible refine Below.drew ?_ | with_reducible refine bl_drewN ?_ _ | with_reducible refine bl_alloc ?_ _))).e (by have := L1.out; omega) (by have := LJ.out; omega) task r HR.out).mono ?_
         rintro e w4 ⟨rfl, hb⟩
         have HB4 := Lib.hid (show Below w.heap.size w w4 from bl_trans (by repeat (first | with_reducible exact HB3.out | with_reducible refine Below.drew ?_ | with_reducible refine bl_drewN ?_ _ | with_reducible refine bl_alloc ?_ _)) hb)
         have hs4 : w3.heap.size ≤ w4.heap.size := by have := hb.size; (try simp at this); omega
         have bA4 := Lib.hid (show Blk w4 (w.heap.size) 50 #[.slice A1 n1 c1, .slice A2 n2 c2, .slice A3 n3 c3, .bool hi] from Blk.below (by repeat (first | with_reducible exact bA3.out | with_reducible refine Blk.drewN ?_ _ | with_reducible refine Blk.drewR ?_ | with_reducible refine Blk.alloc ?_ _)) hb (by have := bA3.out.lt; first | exact this | omega | (simp; omega)))
         have Hu4 := Lib.hid (Hu3.out.below (show Below w3.heap.size w3 w4 from bl_trans (by repeat (first | with_reducible exact Below.refl _ _ | with_reducible refine Below.drew ?_ | with_reducible refine bl_drewN ?_ _ | with_reducible refine bl_alloc ?_ _)) hb))
         have HX4 := Lib.hid (HX3.out.below (show Below w3.heap.size w3 w4 from bl_trans (by repeat (first | with_reducible exact Below.refl _ _ | with_reducible refine Below.drew ?_ | with_reducible refine bl_drewN ?_ _ | with_reducible refine bl_alloc ?_ _)) hb))
         have cA := bA4.out.cell
         have hS4 := (Blk.four bA4.out)
         clear hb)))
  have cA := bA4.out.cell
  clear HX4 Hu4
  go_wp2_with fail
  refine (toJobS_any _ Aj nj cj js (HJw.out.below (by repeat (first | with_reducible exact HB4.out | with_reducible refine Below.drew ?_ | with_reducible refine bl_drewN ?_ _ | with_reducible refine bl_alloc ?_ _))) knj).mono ?_
  rintro e w5 ⟨gv, rfl, ho, hb⟩
  have HB5 := Lib.hid (show Below w.heap.size w w5 from bl_trans (by repeat (first | with_reducible exact HB4.out | with_reducible refine Below.drew ?_ | with_reducible refine bl_drewN ?_ _ | with_reducible refine bl_alloc ?_ _)) hb)
  have hs5 : w4.heap.size ≤ w5.heap.size := by have := hb.size; (try simp at this); omega
  have bA5 := Lib.hid (show Blk w5 (w.heap.size) 50 #[.slice A1 n1 c1, .slice A2 n2 c2, .slice A3 n3 c3, .bool hi] from Blk.below (by repeat (first | with_reducible exact bA4.out | with_reducible refine Blk.drewN ?_ _ | with_reducible refine Blk.drewR ?_ | with_reducible refine Blk.alloc ?_ _)) hb (by have := bA4.out.lt; first | exact this | omega | (simp; omega)))
  have Hv5 := Lib.hid (show JbsAt w5 _ _ js from ho.reads.2)
  clear ho
  clear hb  bA4 HB4 cA
  have cA := bA5.out.cell
  go_wp2_with fail
  refine (toRun_any _ A1 n1 c1 A2 n2 c2 A3 n3 c3 hi en tr sw (H.out.below (by repeat (first | with_reducible exact HB5.out | with_reducible refine Below.drew ?_ | with_reducible refine bl_drewN ?_ _ | with_reducible refine bl_alloc ?_ _))) k1 k2 k3).mono ?_
  rintro e w6 ⟨P1, f1, P2, f2, P3, f3, s1, s2, rfl, o1, o2, o3, _, _, _, _, hb⟩
  have HB6 := Lib.hid (show Below w.heap.size w w6 from bl_trans (by repeat (first | with_reducible exact HB5.out | with_reducible refine Below.drew ?_ | with_reducible refine bl_drewN ?_ _ | with_reducible refine bl_alloc ?_ _)) hb)
  have hs6 : w5.heap.size ≤ w6.heap.size := by have := hb.size; (try simp at this); omega
  have bA6 := Lib.hid (show Blk w6 (w.heap.size) 50 #[.slice A1 n1 c1, .slice A2 n2 c2, .slice A3 n3 c3, .bool hi] from Blk.below (by repeat (first | with_reducible exact bA5.out | with_reducible refine Blk.drewN ?_ _ | with_reducible refine Blk.drewR ?_ | with_reducible refine Blk.alloc ?_ _)) hb (by have := bA5.out.lt; first | exact this | omega | (simp; omega)))
  have Hv6 := Lib.hid (Hv5.out.below (show Below w5.heap.size w5 w6 from bl_trans (by repeat (first | with_reducible exact Below.refl _ _ | with_reducible refine Below.drew ?_ | with_reducible refine bl_drewN ?_ _ | with_reducible refine bl_alloc ?_ _)) hb))
  have HP6 := Lib.hid (RnCopy.reads o1 o2 o3)
  clear o1 o2 o3
  clear hb  bA5 Hv5 HB5 cA
  have cA := bA6.out.cell
  have xA := (Blk.alloc bA6.out (.cells #[.slice P1 en.length f1, .slice P2 tr.length f2, .slice P3 sw.length f3, .bool hi] 27)).cell
  go_wp2_with fail
  refine (iLong_is _ (some ⟨gv, 0, none⟩) _ _ js P1 _ f1 P2 _ f2 P3 _ f3 hi en (Hv6.out.below (by repeat (first | with_reducible exact Below.refl _ _ | with_reducible refine Below.drew ?_ | with_reducible refine bl_drewN ?_ _ | with_reducible refine bl_alloc ?_ _))) (HP6.out.below (by repeat (first | with_reducible exact Below.refl _ _ | with_reducible refine Below.drew ?_ | with_reducible refine bl_drewN ?_ _ | with_reducible refine bl_alloc ?_ _))).e (by have := L1.out; omega) (by have := LJ.out; omega) task r HR.out).mono ?_
  rintro e w7 ⟨rfl, hb⟩
  have HB7 := Lib.hid (show Below w.heap.size w w7 from bl_trans (by repeat (first | with_reducible exact HB6.out | with_reducible refine Below.drew ?_ | with_reducible refine bl_drewN ?_ _ | with_reducible refine bl_alloc ?_ _)) hb)
  have hs7 : w6.heap.size ≤ w7.heap.size := by have := hb.size; (try simp at this); omega
  have bA7 := Lib.hid (show Blk w7 (w.heap.size) 50 #[.slice A1 n1 c1, .slice A2 n2 c2, .slice A3 n3 c3, .bool hi] from Blk.below (by repeat (first | with_reducible exact bA6.out | with_reducible refine Blk.drewN ?_ _ | with_reducible refine Blk.drewR ?_ | with_reducible refine Blk.alloc ?_ _)) hb (by have := bA6.out.lt; first | exact this | omega | (simp; omega)))
  have bP7 := Lib.hid (show Blk w7 (w6.heap.size) 27 #[.slice P1 en.length f1, .slice P2 tr.length f2, .slice P3 sw.length f3, .bool hi] from Blk.below (by have hh := Blk.new (w6) 27 #[.slice P1 en.length f1, .slice P2 tr.length f2, .slice P3 sw.length f3, .bool hi]; (try simp only [World.size_alloc] at hh); repeat (first | exact hh | with_reducible refine Blk.drewN ?_ _ | with_reducible refine Blk.drewR ?_ | with_reducible refine Blk.alloc ?_ _)) hb (by first | omega | (simp; done) | (simp; omega)))
  have Hv7 := Lib.hid (Hv6.out.below (show Below w6.heap.size w6 w7 from bl_trans (by repeat (first | with_reducible exact Below.refl _ _ | with_reducible refine Below.drew ?_ | with_reducible refine bl_drewN ?_ _ | with_reducible refine bl_alloc ?_ _)) hb))
  have HP7 := Lib.hid (HP6.out.below (show Below w6.heap.size w6 w7 from bl_trans (by repeat (first | with_reducible exact Below.refl _ _ | with_reducible refine Below.drew ?_ | with_reducible refine bl_drewN ?_ _ | with_reducible refine bl_alloc ?_ _)) hb))
  clear hb  xA bA6 Hv6 HP6 HB6 cA
  have cA := bA7.out.cell
  have cP := bP7.out.cell
  go_wp2_with fail
  refine (toJobS_any _ Aj nj cj js (HJw.out.below (by repeat (first | with_reducible exact HB7.out | with_reducible refine Below.drew ?_ | with_reducible refine bl_drewN ?_ _ | with_reducible refine bl_alloc ?_ _))) knj).mono ?_
  rintro e w8 ⟨gx, rfl, ho, hb⟩
  have HB8 := Lib.hid (show Below w.heap.size w w8 from bl_trans (by repeat (first | with_reducible exact HB7.out | with_reducible refine Below.drew ?_ | with_reducible refine bl_drewN ?_ _ | with_reducible refine bl_alloc ?_ _)) hb)
  have hs8 : w7.heap.size ≤ w8.heap.size := by have := hb.size; (try simp at this); omega
  have bA8 := Lib.hid (show Blk w8 (w.heap.size) 50 #[.slice A1 n1 c1, .slice A2 n2 c2, .slice A3 n3 c3, .bool hi] from Blk.below (by repeat (first | with_reducible exact bA7.out | with_reducible refine Blk.drewN ?_ _ | with_reducible refine Blk.drewR ?_ | with_reducible refine Blk.alloc ?_ _)) hb (by have := bA7.out.lt; first | exact this | omega | (simp; omega)))
  have bP8 := Lib.hid (show Blk w8 (w6.heap.size) 27 #[.slice P1 en.length f1, .slice P2 tr.length f2, .slice P3 sw.length f3, .bool hi] from Blk.below (by repeat (first | with_reducible exact bP7.out | with_reducible refine Blk.drewN ?_ _ | with_reducible refine Blk.drewR ?_ | with_reducible refine Blk.alloc ?_ _)) hb (by have := bP7.out.lt; first | exact this | omega | (simp; omega)))
  have Hv8 := Lib.hid (Hv7.out.below (show Below w7.heap.size w7 w8 from bl_trans (by repeat (first | with_reducible exact Below.refl _ _ | with_reducible refine Below.drew ?_ | with_reducible refine bl_drewN ?_ _ | with_reducible refine bl_alloc ?_ _)) hb))
  have HP8 := Lib.hid (HP7.out.below (show Below w7.heap.size w7 w8 from bl_trans (by repeat (first | with_reducible exact Below.refl _ _ | with_reducible refine Below.drew ?_ | with_reducible refine bl_drewN ?_ _ | with_reducible refine bl_alloc ?_ _)) hb))
  have Hx8 := Lib.hid (show JbsAt w8 _ _ js from ho.reads.2)
  clear ho
  clear hb  bA7 bP7 Hv7 HP7 HB7 cA cP
  have cA := bA8.out.cell
  have cP := bP8.out.cell
  go_wp2_with fail
  refine (eqJobS_any _ (some ⟨gv, 0, none⟩) (some ⟨gx, 0, none⟩) _ _ _ js (Hv8.out.below (by repeat (first | with_reducible exact Below.refl _ _ | with_reducible refine Below.drew ?_ | with_reducible refine bl_drewN ?_ _ | with_reducible refine bl_alloc ?_ _))) (Hx8.out.below (by repeat (first | with_reducible exact Below.refl _ _ | with_reducible refine Below.drew ?_ | with_reducible refine bl_drewN ?_ _ | with_reducible refine bl_alloc ?_ _))) (by have := LJ.out; omega)).mono ?_
  rintro e w9 ⟨rfl, hb⟩
  have HB9 := Lib.hid (show Below w.heap.size w w9 from bl_trans (by repeat (first | with_reducible exact HB8.out | with_reducible refine Below.drew ?_ | with_reducible refine bl_drewN ?_ _ | with_reducible refine bl_alloc ?_ _)) hb)
  have hs9 : w8.heap.size ≤ w9.heap.size := by have := hb.size; (try simp at this); omega
  have bA9 := Lib.hid (show Blk w9 (w.heap.size) 50 #[.slice A1 n1 c1, .slice A2 n2 c2, .slice A3 n3 c3, .bool hi] from Blk.below (by repeat (first | with_reducible exact bA8.out | with_reducible refine Blk.drewN ?_ _ | with_reducible refine Blk.drewR ?_ | with_reducible refine Blk.alloc ?_ _)) hb (by have := bA8.out.lt; first | exact this | omega | (simp; omega)))
  have bP9 := Lib.hid (show Blk w9 (w6.heap.size) 27 #[.slice P1 en.length f1, .slice P2 tr.length f2, .slice P3 sw.length f3, .bool hi] from Blk.below (by repeat (first | with_reducible exact bP8.out | with_reducible refine Blk.drewN ?_ _ | with_reducible refine Blk.drewR ?_ | with_reducible refine Blk.alloc ?_ _)) hb (by have := bP8.out.lt; first | exact this | omega | (simp; omega)))
  have Hv9 := Lib.hid (Hv8.out.below (show Below w8.heap.size w8 w9 from bl_trans (by repeat (first | with_reducible exact Below.refl _ _ | with_reducible refine Below.drew ?_ | with_reducible refine bl_drewN ?_ _ | with_reducible refine bl_alloc ?_ _)) hb))
  have HP9 := Lib.hid (HP8.out.below (show Below w8.heap.size w8 w9 from bl_trans (by repeat (first | with_reducible exact Below.refl _ _ | with_reducible refine Below.drew ?_ | with_reducible refine bl_drewN ?_ _ | with_reducible refine bl_alloc ?_ _)) hb))
  have Hx9 := Lib.hid (Hx8.out.below (show Below w8.heap.size w8 w9 from bl_trans (by repeat (first | with_reducible exact Below.refl _ _ | with_reducible refine Below.drew ?_ | with_reducible refine bl_drewN ?_ _ | with_reducible refine bl_alloc ?_ _)) hb))
  clear hb  bA8 bP8 Hv8 HP8 Hx8 HB8 cA cP
  have cA := bA9.out.cell
  have cP := bP9.out.cell
  clear Hv9 Hx9
  have hS9 := (And.intro (Blk.four bA9.out) (Blk.four bP9.out))
  go_wp2_with fail
  go_region_held3 (fun W => (W.cell? ⟨w.heap.size, 0, none⟩ = some (.slice A1 n1 c1) ∧ W.cell? ⟨w.heap.size, 1, none⟩ = some (.slice A2 n2 c2) ∧ W.cell? ⟨w.heap.size, 2, none⟩ = some (.slice A3 n3 c3) ∧ W.cell? ⟨w.heap.size, 3, none⟩ = some (.bool hi)) ∧ (W.cell? ⟨w6.heap.size, 0, none⟩ = some (.slice P1 en.length f1) ∧ W.cell? ⟨w6.heap.size, 1, none⟩ = some (.slice P2 tr.length f2) ∧ W.cell? ⟨w6.heap.size, 2, none⟩ = some (.slice P3 sw.length f3) ∧ W.cell? ⟨w6.heap.size, 3, none⟩ = some (.bool hi))) (first | exact hS9 | exact hS10 | exact hS11)
    ((first
      | (go_at_call 40
         refine (toRun_any _ A1 n1 c1 A2 n2 c2 A3 n3 c3 hi en tr sw (H.out.below (by repeat (first | with_reducible exact HB9.out | with_reducible refine Below.drew ?_ | with_reducible refine bl_drewN ?_ _ | with_reducible refine bl_alloc ?_ _))) k1 k2 k3).mono ?_
         rintro e w10 ⟨X1, d1, X2, d2, X3, d3, s1, s2, rfl, o1, o2, o3, _, _, _, _, hb⟩
         have HB10 := Lib.hid (show Below w.heap.size w w10 from bl_trans (by repeat (first | with_reducible exact HB9.out | with_reducible refine Below.drew ?_ | with_reducible refine bl_drewN ?_ _ | with_reducible refine bl_alloc ?_ _)) hb)
         have hs10 : w9.heap.size ≤ w10.heap.size := by have := hb.size; (try simp at this); omega
         have bA10 := Lib.hid (show Blk w10 (w.heap.size) 50 #[.slice A1 n1 c1, .slice A2 n2 c2, .slice A3 n3 c3, .bool hi] from Blk.below (by repeat (first | with_reducible exact bA9.out | with_reducible refine Blk.drewN ?_ _ | with_reducible refine Blk.drewR ?_ | with_reducible refine Blk.alloc ?_ _)) hb (by have := bA9.out.lt; first | exact this | omega | (simp; omega)))
         have bP10 := Lib.hid (show Blk w10 (w6.heap.size) 27 #[.slice P1 en.length f1, .slice P2 tr.length f2, .slice P3 sw.length f3, .bool hi] from Blk.below (by repeat (first | with_reducible exact bP9.out | with_reducible refine Blk.drewN ?_ _ | with_reducible refine Blk.drewR ?_ | with_reducible refine Blk.alloc ?_ _)) hb (by have := bP9.out.lt; first | exact this | omega | (simp; omega)))
         have HP10 := Lib.hid (HP9.out.below (show Below w9.heap.size w9 w10 from bl_trans (by repeat (first | with_reducible exact Below.refl _ _ | with_reducible refine Below.drew ?_ | with_reducible refine bl_drewN ?_ _ | with_reducible refine bl_alloc ?_ _)) hb))
         have HX10 := Lib.hid (RnCopy.reads o1 o2 o3)
         clear o1 o2 o3
         have cA := bA10.out.cell
         have cP := bP10.out.cell
         have hS10 := (And.intro (Blk.four bA10.out) (Blk.four bP10.out))
         clear hb)
      | (go_at_call 41
         refine (eqRun_any _ P1 _ f1 P2 _ f2 P3 _ f3 X1 d1 X2 d2 X3 d3 hi en tr sw (HP10.out.below (by repeat (first | with_reducible exact Below.refl _ _ | with_reducible refine Below.drew ?_ | with_reducible refine bl_drewN ?_ _ | with_reducible refine bl_alloc ?_ _))) (HX10.out.below (by repeat (first | with_reducible exact Below.refl _ _ | with_reducible refine Below.drew ?_ | with_reducible refine bl_drewN ?_ _ | with_reducible refine bl_alloc ?_ _))) (by have := L1.out; omega) (by have := L2.out; omega) (by have := L3.out; omega)).mono ?_
         rintro e w11 ⟨rfl, hb⟩
         have HB11 := Lib.hid (show Below w.heap.size w w11 from bl_trans (by repeat (first | with_reducible exact HB10.out | with_reducible refine Below.drew ?_ | with_reducible refine bl_drewN ?_ _ | with_reducible refine bl_alloc ?_ _)) hb)
         have hs11 : w10.heap.size ≤ w11.heap.size := by have := hb.size; (try simp at this); omega
         have bA11 := Lib.hid (show Blk w11 (w.heap.size) 50 #[.slice A1 n1 c1, .slice A2 n2 c2, .slice A3 n3 c3, .bool hi] from Blk.below (by repeat (first | with_reducible exact bA10.out | with_reducible refine Blk.drewN ?_ _ | with_reducible refine Blk.drewR ?_ | with_reducible refine Blk.alloc ?_ _)) hb (by have := bA10.out.lt; first | exact this | omega | (simp; omega)))
         have bP11 := Lib.hid (show Blk w11 (w6.heap.size) 27 #[.slice P1 en.length f1, .slice P2 tr.length f2, .slice P3 sw.length f3, .bool hi] from Blk.below (by repeat (first | with_reducible exact bP10.out | with_reducible refine Blk.drewN ?_ _ | with_reducible refine Blk.drewR ?_ | with_reducible refine Blk.alloc ?_ _)) hb (by have := bP10.out.lt; first | exact this | omega | (simp; omega)))
         have HP11 := Lib.hid (HP10.out.below (show Below w10.heap.size w10 w11 from bl_trans (by repeat (first | with_reducible exact Below.refl _ _ | with_reducible refine Below.drew ?_ | with_reducible refine bl_drewN ?_ _ | with_reducible refine bl_alloc ?_ _)) hb))
         have HX11 := Lib.hid (HX10.out.below (show Below w10.heap.size w10 w11 from bl_trans (by repeat (first | with_reducible exact Below.refl _ _ | with_reducible refine Below.drew ?_ | with_reducible refine bl_drewN ?_ _ | with_reducible refine bl_alloc ?_ _)) hb))
         have cA := bA11.out.cell
         have cP := bP11.out.cell
         have hS11 := (And.intro (Blk.four bA11.out) (Blk.four bP11.out))
         clear hb)))
  have cA := bA11.out.cell
  have cP := bP11.out.cell
  go_wp2
  go_ret
  exact ⟨rfl, (by repeat (first | with_reducible exact HB11.out | with_reducible refine Below.drew ?_ | with_reducible refine bl_drewN ?_ _ | with_reducible refine bl_alloc ?_ _))⟩

end Go.Proofs.Ytjondedkgkohfaa
