/- The walk of the exact law of RunSame. -/
import Derived.Test.YtjondedkgkohfaaRnC
import Derived.Deep.RegionWith
import Derived.Deep.RegionHeld3
namespace Go.Proofs.Ytjondedkgkohfaa
open Go.RowKit
set_option linter.unusedVariables false

set_option maxRecDepth 100000 in
set_option maxHeartbeats 4000000 in
theorem fnExactRunSame_walk (w : World) (A1 : Option Addr) (n1 c1 : Nat) (A2 : Option Addr) (n2 c2 : Nat) (A3 : Option Addr) (n3 c3 : Nat) (hi : Bool) (en tr sw : List Int) (hr : RnAt w A1 n1 A2 n2 A3 n3 en tr sw) (m1 : n1 ≤ 9223372036854775807) (m2 : n2 ≤ 9223372036854775807) (m3 : n3 ≤ 9223372036854775807) (A1q : Option Addr) (n1q c1q : Nat) (A2q : Option Addr) (n2q c2q : Nat) (A3q : Option Addr) (n3q c3q : Nat) (hiq : Bool) (enq trq swq : List Int) (hrq : RnAt w A1q n1q A2q n2q A3q n3q enq trq swq) (m1q : n1q ≤ 9223372036854775807) (m2q : n2q ≤ 9223372036854775807) (m3q : n3q ≤ 9223372036854775807) :
    Calls Try.prog 10 #[.agg #[.slice A1 n1 c1, .slice A2 n2 c2, .slice A3 n3 c3, .bool hi], .agg #[.slice A1q n1q c1q, .slice A2q n2q c2q, .slice A3q n3q c3q, .bool hiq]] w fun e w' => e = .returned (.bool true) ∧ Below w.heap.size w w' := by
  have Hp := Lib.hid hr
  have Hq := Lib.hid hrq
  have L1 := Lib.hid hr.e.len
  have L2 := Lib.hid hr.t.len
  have L3 := Lib.hid hr.s.len
  have L1q := Lib.hid hrq.e.len
  have L2q := Lib.hid hrq.t.len
  have L3q := Lib.hid hrq.s.len
  clear hr hrq
  obtain ⟨b, hb⟩ : ∃ b, sameR en tr sw hi enq trq swq hiq = b := ⟨_, rfl⟩
  have HS := Lib.hid hb
  clear hb
  go_enter Try.func10, Try.ntmps10
  go_wp2_with fail
  refine (szRun_any _ A1 n1 c1 A2 n2 c2 A3 n3 c3 hi m1 m2 m3 1048576 (by omega) (by omega)).mono ?_
  rintro e w1 ⟨⟨z0, rfl, hz⟩, hb⟩
  have HB1 := Lib.hid (show Below w.heap.size w w1 from bl_trans (by repeat (first | with_reducible exact Below.refl _ _ | with_reducible refine Below.drew ?_ | with_reducible refine bl_drewN ?_ _ | with_reducible refine bl_alloc ?_ _)) hb)
  have hs1 : w.heap.size ≤ w1.heap.size := by have := hb.size; (try simp at this); omega
  have bA1 := Lib.hid (show Blk w1 (w.heap.size) 50 #[.slice A1 n1 c1, .slice A2 n2 c2, .slice A3 n3 c3, .bool hi] from Blk.below (by have hh := Blk.new (w) 50 #[.slice A1 n1 c1, .slice A2 n2 c2, .slice A3 n3 c3, .bool hi]; (try simp only [World.size_alloc] at hh); repeat (first | exact hh | with_reducible refine Blk.drewN ?_ _ | with_reducible refine Blk.drewR ?_ | with_reducible refine Blk.alloc ?_ _)) hb (by first | omega | (simp; done) | (simp; omega)))
  have bB1 := Lib.hid (show Blk w1 (w.heap.size + 1) 50 #[.slice A1q n1q c1q, .slice A2q n2q c2q, .slice A3q n3q c3q, .bool hiq] from Blk.below (by have hh := Blk.new ((w).alloc (.cells #[.slice A1 n1 c1, .slice A2 n2 c2, .slice A3 n3 c3, .bool hi] 50)) 50 #[.slice A1q n1q c1q, .slice A2q n2q c2q, .slice A3q n3q c3q, .bool hiq]; (try simp only [World.size_alloc] at hh); repeat (first | exact hh | with_reducible refine Blk.drewN ?_ _ | with_reducible refine Blk.drewR ?_ | with_reducible refine Blk.alloc ?_ _)) hb (by first | omega | (simp; done) | (simp; omega)))
  clear hb  
  have cA := bA1.out.cell
  have cB := bB1.out.cell
  rcases hz with ⟨hz, rfl⟩ | ⟨hz, rfl⟩
  · go_wp2
    go_ret
    exact ⟨rfl, HB1.out⟩
  have d1 : ¬ (1048576 : Int) - ((n1 + n2 + n3 : Nat) : Int) < 0 := by omega
  have k1 : n1 ≤ 1048576 := by omega
  have k2 : n2 ≤ 1048576 := by omega
  have k3 : n3 ≤ 1048576 := by omega
  go_wp2_with fail
  refine (szRun_any _ A1q n1q c1q A2q n2q c2q A3q n3q c3q hiq m1q m2q m3q _ (by omega) (by omega)).mono ?_
  rintro e w2 ⟨⟨z0, rfl, hz2⟩, hb⟩
  have HB2 := Lib.hid (show Below w.heap.size w w2 from bl_trans (by repeat (first | with_reducible exact HB1.out | with_reducible refine Below.drew ?_ | with_reducible refine bl_drewN ?_ _ | with_reducible refine bl_alloc ?_ _)) hb)
  have hs2 : w1.heap.size ≤ w2.heap.size := by have := hb.size; (try simp at this); omega
  have bA2 := Lib.hid (show Blk w2 (w.heap.size) 50 #[.slice A1 n1 c1, .slice A2 n2 c2, .slice A3 n3 c3, .bool hi] from Blk.below (by repeat (first | with_reducible exact bA1.out | with_reducible refine Blk.drewN ?_ _ | with_reducible refine Blk.drewR ?_ | with_reducible refine Blk.alloc ?_ _)) hb (by have := bA1.out.lt; first | exact this | omega | (simp; omega)))
  have bB2 := Lib.hid (show Blk w2 (w.heap.size + 1) 50 #[.slice A1q n1q c1q, .slice A2q n2q c2q, .slice A3q n3q c3q, .bool hiq] from Blk.below (by repeat (first | with_reducible exact bB1.out | with_reducible refine Blk.drewN ?_ _ | with_reducible refine Blk.drewR ?_ | with_reducible refine Blk.alloc ?_ _)) hb (by have := bB1.out.lt; first | exact this | omega | (simp; omega)))
  clear hb  bA1 bB1 HB1 cA cB
  have cA := bA2.out.cell
  have cB := bB2.out.cell
  rcases hz2 with ⟨hz2, rfl⟩ | ⟨hz2, rfl⟩
  · go_wp2
    go_ret
    exact ⟨rfl, HB2.out⟩
  have d2 : ¬ (1048576 : Int) - ((n1 + n2 + n3 : Nat) : Int) - ((n1q + n2q + n3q : Nat) : Int) < 0 := by omega
  have k1q : n1q ≤ 1048576 := by omega
  have k2q : n2q ≤ 1048576 := by omega
  have k3q : n3q ≤ 1048576 := by omega
  clear hz hz2
  have hS2 := (And.intro (Blk.four bA2.out) (Blk.four bB2.out))
  go_wp2_with fail
  go_region_held3 (fun W => (W.cell? ⟨w.heap.size, 0, none⟩ = some (.slice A1 n1 c1) ∧ W.cell? ⟨w.heap.size, 1, none⟩ = some (.slice A2 n2 c2) ∧ W.cell? ⟨w.heap.size, 2, none⟩ = some (.slice A3 n3 c3) ∧ W.cell? ⟨w.heap.size, 3, none⟩ = some (.bool hi)) ∧ (W.cell? ⟨w.heap.size + 1, 0, none⟩ = some (.slice A1q n1q c1q) ∧ W.cell? ⟨w.heap.size + 1, 1, none⟩ = some (.slice A2q n2q c2q) ∧ W.cell? ⟨w.heap.size + 1, 2, none⟩ = some (.slice A3q n3q c3q) ∧ W.cell? ⟨w.heap.size + 1, 3, none⟩ = some (.bool hiq))) (first | exact hS2 | exact hS3 | exact hS4 | exact hS5)
    ((first
      | (go_at_call_of 40 (Value.agg #[Value.slice A1 n1 c1, Value.slice A2 n2 c2, Value.slice A3 n3 c3, Value.bool hi])
         refine (toRun_any _ A1 n1 c1 A2 n2 c2 A3 n3 c3 hi en tr sw (Hp.out.below (by repeat (first | with_reducible exact HB2.out | with_reducible refine Below.drew ?_ | with_reducible refine bl_drewN ?_ _ | with_reducible refine bl_alloc ?_ _))) k1 k2 k3).mono ?_
         rintro e w3 ⟨X1, d1, X2, d2, X3, d3, s1, s2, rfl, o1, o2, o3, _, _, _, _, hb⟩
         have HB3 := Lib.hid (show Below w.heap.size w w3 from bl_trans (by repeat (first | with_reducible exact HB2.out | with_reducible refine Below.drew ?_ | with_reducible refine bl_drewN ?_ _ | with_reducible refine bl_alloc ?_ _)) hb)
         have hs3 : w2.heap.size ≤ w3.heap.size := by have := hb.size; (try simp at this); omega
         have bA3 := Lib.hid (show Blk w3 (w.heap.size) 50 #[.slice A1 n1 c1, .slice A2 n2 c2, .slice A3 n3 c3, .bool hi] from Blk.below (by repeat (first | with_reducible exact bA2.out | with_reducible refine Blk.drewN ?_ _ | with_reducible refine Blk.drewR ?_ | with_reducible refine Blk.alloc ?_ _)) hb (by have := bA2.out.lt; first | exact this | omega | (simp; omega)))
         have bB3 := Lib.hid (show Blk w3 (w.heap.size + 1) 50 #[.slice A1q n1q c1q, .slice A2q n2q c2q, .slice A3q n3q c3q, .bool hiq] from Blk.below (by repeat (first | with_reducible exact bB2.out | with_reducible refine Blk.drewN ?_ _ | with_reducible refine Blk.drewR ?_ | with_reducible refine Blk.alloc ?_ _)) hb (by have := bB2.out.lt; first | exact this | omega | (simp; omega)))
         have HX3 := Lib.hid (RnCopy.reads o1 o2 o3)
         clear o1 o2 o3
         have cA := bA3.out.cell
         have cB := bB3.out.cell
         have hS3 := (And.intro (Blk.four bA3.out) (Blk.four bB3.out))
         clear hb)
      | (go_at_call_of 40 (Value.agg #[Value.slice A1q n1q c1q, Value.slice A2q n2q c2q, Value.slice A3q n3q c3q, Value.bool hiq])
         refine (toRun_any _ A1q n1q c1q A2q n2q c2q A3q n3q c3q hiq enq trq swq (Hq.out.below (by repeat (first | with_reducible exact HB3.out | with_reducible refine Below.drew ?_ | with_reducible refine bl_drewN ?_ _ | with_reducible refine bl_alloc ?_ _))) k1q k2q k3q).mono ?_
         rintro e w4 ⟨Y1, e1, Y2, e2, Y3, e3, s1, s2, rfl, o1, o2, o3, _, _, _, _, hb⟩
         have HB4 := Lib.hid (show Below w.heap.size w w4 from bl_trans (by repeat (first | with_reducible exact HB3.out | with_reducible refine Below.drew ?_ | with_reducible refine bl_drewN ?_ _ | with_reducible refine bl_alloc ?_ _)) hb)
         have hs4 : w3.heap.size ≤ w4.heap.size := by have := hb.size; (try simp at this); omega
         have bA4 := Lib.hid (show Blk w4 (w.heap.size) 50 #[.slice A1 n1 c1, .slice A2 n2 c2, .slice A3 n3 c3, .bool hi] from Blk.below (by repeat (first | with_reducible exact bA3.out | with_reducible refine Blk.drewN ?_ _ | with_reducible refine Blk.drewR ?_ | with_reducible refine Blk.alloc ?_ _)) hb (by have := bA3.out.lt; first | exact this | omega | (simp; omega)))
         have bB4 := Lib.hid (show Blk w4 (w.heap.size + 1) 50 #[.slice A1q n1q c1q, .slice A2q n2q c2q, .slice A3q n3q c3q, .bool hiq] from Blk.below (by repeat (first | with_reducible exact bB3.out | with_reducible refine Blk.drewN ?_ _ | with_reducible refine Blk.drewR ?_ | with_reducible refine Blk.alloc ?_ _)) hb (by have := bB3.out.lt; first | exact this | omega | (simp; omega)))
         have HX4 := Lib.hid (HX3.out.below (show Below w3.heap.size w3 w4 from bl_trans (by repeat (first | with_reducible exact Below.refl _ _ | with_reducible refine Below.drew ?_ | with_reducible refine bl_drewN ?_ _ | with_reducible refine bl_alloc ?_ _)) hb))
         have HY4 := Lib.hid (RnCopy.reads o1 o2 o3)
         clear o1 o2 o3
         have cA := bA4.out.cell
         have cB := bB4.out.cell
         have hS4 := (And.intro (Blk.four bA4.out) (Blk.four bB4.out))
         clear hb)
      | (go_at_call 38
         refine (sSame_is _ X1 _ d1 X2 _ d2 X3 _ d3 hi en tr sw Y1 _ e1 Y2 _ e2 Y3 _ e3 hiq enq trq swq (HX4.out.below (by repeat (first | with_reducible exact Below.refl _ _ | with_reducible refine Below.drew ?_ | with_reducible refine bl_drewN ?_ _ | with_reducible refine bl_alloc ?_ _))) (HY4.out.below (by repeat (first | with_reducible exact Below.refl _ _ | with_reducible refine Below.drew ?_ | with_reducible refine bl_drewN ?_ _ | with_reducible refine bl_alloc ?_ _))) (by have := L1.out; omega) (by have := L2.out; omega) (by have := L3.out; omega) (by have := L1q.out; omega) (by have := L2q.out; omega) (by have := L3q.out; omega) b HS.out).mono ?_
         rintro e w5 ⟨rfl, hb⟩
         have HB5 := Lib.hid (show Below w.heap.size w w5 from bl_trans (by repeat (first | with_reducible exact HB4.out | with_reducible refine Below.drew ?_ | with_reducible refine bl_drewN ?_ _ | with_reducible refine bl_alloc ?_ _)) hb)
         have hs5 : w4.heap.size ≤ w5.heap.size := by have := hb.size; (try simp at this); omega
         have bA5 := Lib.hid (show Blk w5 (w.heap.size) 50 #[.slice A1 n1 c1, .slice A2 n2 c2, .slice A3 n3 c3, .bool hi] from Blk.below (by repeat (first | with_reducible exact bA4.out | with_reducible refine Blk.drewN ?_ _ | with_reducible refine Blk.drewR ?_ | with_reducible refine Blk.alloc ?_ _)) hb (by have := bA4.out.lt; first | exact this | omega | (simp; omega)))
         have bB5 := Lib.hid (show Blk w5 (w.heap.size + 1) 50 #[.slice A1q n1q c1q, .slice A2q n2q c2q, .slice A3q n3q c3q, .bool hiq] from Blk.below (by repeat (first | with_reducible exact bB4.out | with_reducible refine Blk.drewN ?_ _ | with_reducible refine Blk.drewR ?_ | with_reducible refine Blk.alloc ?_ _)) hb (by have := bB4.out.lt; first | exact this | omega | (simp; omega)))
         have HX5 := Lib.hid (HX4.out.below (show Below w4.heap.size w4 w5 from bl_trans (by repeat (first | with_reducible exact Below.refl _ _ | with_reducible refine Below.drew ?_ | with_reducible refine bl_drewN ?_ _ | with_reducible refine bl_alloc ?_ _)) hb))
         have HY5 := Lib.hid (HY4.out.below (show Below w4.heap.size w4 w5 from bl_trans (by repeat (first | with_reducible exact Below.refl _ _ | with_reducible refine Below.drew ?_ | with_reducible refine bl_drewN ?_ _ | with_reducible refine bl_alloc ?_ _)) hb))
         have cA := bA5.out.cell
         have cB := bB5.out.cell
         have hS5 := (And.intro (Blk.four bA5.out) (Blk.four bB5.out))
         clear hb)))
  have cA := bA5.out.cell
  have cB := bB5.out.cell
  clear HX5 HY5
  go_wp2_with fail
  refine (toRun_any _ A1 n1 c1 A2 n2 c2 A3 n3 c3 hi en tr sw (Hp.out.below (by repeat (first | with_reducible exact HB5.out | with_reducible refine Below.drew ?_ | with_reducible refine bl_drewN ?_ _ | with_reducible refine bl_alloc ?_ _))) k1 k2 k3).mono ?_
  rintro e w6 ⟨P1, f1, P2, f2, P3, f3, s1, s2, rfl, o1, o2, o3, _, _, _, _, hb⟩
  have HB6 := Lib.hid (show Below w.heap.size w w6 from bl_trans (by repeat (first | with_reducible exact HB5.out | with_reducible refine Below.drew ?_ | with_reducible refine bl_drewN ?_ _ | with_reducible refine bl_alloc ?_ _)) hb)
  have hs6 : w5.heap.size ≤ w6.heap.size := by have := hb.size; (try simp at this); omega
  have bA6 := Lib.hid (show Blk w6 (w.heap.size) 50 #[.slice A1 n1 c1, .slice A2 n2 c2, .slice A3 n3 c3, .bool hi] from Blk.below (by repeat (first | with_reducible exact bA5.out | with_reducible refine Blk.drewN ?_ _ | with_reducible refine Blk.drewR ?_ | with_reducible refine Blk.alloc ?_ _)) hb (by have := bA5.out.lt; first | exact this | omega | (simp; omega)))
  have bB6 := Lib.hid (show Blk w6 (w.heap.size + 1) 50 #[.slice A1q n1q c1q, .slice A2q n2q c2q, .slice A3q n3q c3q, .bool hiq] from Blk.below (by repeat (first | with_reducible exact bB5.out | with_reducible refine Blk.drewN ?_ _ | with_reducible refine Blk.drewR ?_ | with_reducible refine Blk.alloc ?_ _)) hb (by have := bB5.out.lt; first | exact this | omega | (simp; omega)))
  have HP6 := Lib.hid (RnCopy.reads o1 o2 o3)
  clear o1 o2 o3
  clear hb  bA5 bB5 HB5 cA cB
  have cA := bA6.out.cell
  have cB := bB6.out.cell
  have xA := (Blk.alloc bA6.out (.cells #[.slice P1 en.length f1, .slice P2 tr.length f2, .slice P3 sw.length f3, .bool hi] 27)).cell
  have xB := (Blk.alloc bB6.out (.cells #[.slice P1 en.length f1, .slice P2 tr.length f2, .slice P3 sw.length f3, .bool hi] 27)).cell
  go_wp2_with fail
  refine (toRun_any _ A1q n1q c1q A2q n2q c2q A3q n3q c3q hiq enq trq swq (Hq.out.below (by repeat (first | with_reducible exact HB6.out | with_reducible refine Below.drew ?_ | with_reducible refine bl_drewN ?_ _ | with_reducible refine bl_alloc ?_ _))) k1q k2q k3q).mono ?_
  rintro e w7 ⟨Q1, u1, Q2, u2, Q3, u3, s1, s2, rfl, o1, o2, o3, _, _, _, _, hb⟩
  have HB7 := Lib.hid (show Below w.heap.size w w7 from bl_trans (by repeat (first | with_reducible exact HB6.out | with_reducible refine Below.drew ?_ | with_reducible refine bl_drewN ?_ _ | with_reducible refine bl_alloc ?_ _)) hb)
  have hs7 : w6.heap.size ≤ w7.heap.size := by have := hb.size; (try simp at this); omega
  have bA7 := Lib.hid (show Blk w7 (w.heap.size) 50 #[.slice A1 n1 c1, .slice A2 n2 c2, .slice A3 n3 c3, .bool hi] from Blk.below (by repeat (first | with_reducible exact bA6.out | with_reducible refine Blk.drewN ?_ _ | with_reducible refine Blk.drewR ?_ | with_reducible refine Blk.alloc ?_ _)) hb (by have := bA6.out.lt; first | exact this | omega | (simp; omega)))
  have bB7 := Lib.hid (show Blk w7 (w.heap.size + 1) 50 #[.slice A1q n1q c1q, .slice A2q n2q c2q, .slice A3q n3q c3q, .bool hiq] from Blk.below (by repeat (first | with_reducible exact bB6.out | with_reducible refine Blk.drewN ?_ _ | with_reducible refine Blk.drewR ?_ | with_reducible refine Blk.alloc ?_ _)) hb (by have := bB6.out.lt; first | exact this | omega | (simp; omega)))
  have bP7 := Lib.hid (show Blk w7 (w6.heap.size) 27 #[.slice P1 en.length f1, .slice P2 tr.length f2, .slice P3 sw.length f3, .bool hi] from Blk.below (by have hh := Blk.new (w6) 27 #[.slice P1 en.length f1, .slice P2 tr.length f2, .slice P3 sw.length f3, .bool hi]; (try simp only [World.size_alloc] at hh); repeat (first | exact hh | with_reducible refine Blk.drewN ?_ _ | with_reducible refine Blk.drewR ?_ | with_reducible refine Blk.alloc ?_ _)) hb (by first | omega | (simp; done) | (simp; omega)))
  have HP7 := Lib.hid (HP6.out.below (show Below w6.heap.size w6 w7 from bl_trans (by repeat (first | with_reducible exact Below.refl _ _ | with_reducible refine Below.drew ?_ | with_reducible refine bl_drewN ?_ _ | with_reducible refine bl_alloc ?_ _)) hb))
  have HQ7 := Lib.hid (RnCopy.reads o1 o2 o3)
  clear o1 o2 o3
  clear hb  xA xB bA6 bB6 HP6 HB6 cA cB
  have cA := bA7.out.cell
  have cB := bB7.out.cell
  have cP := bP7.out.cell
  have xA := (Blk.alloc bA7.out (.cells #[.slice Q1 enq.length u1, .slice Q2 trq.length u2, .slice Q3 swq.length u3, .bool hiq] 27)).cell
  have xB := (Blk.alloc bB7.out (.cells #[.slice Q1 enq.length u1, .slice Q2 trq.length u2, .slice Q3 swq.length u3, .bool hiq] 27)).cell
  have xP := (Blk.alloc bP7.out (.cells #[.slice Q1 enq.length u1, .slice Q2 trq.length u2, .slice Q3 swq.length u3, .bool hiq] 27)).cell
  go_wp2_with fail
  refine (iSame_is _ P1 _ f1 P2 _ f2 P3 _ f3 hi en tr sw Q1 _ u1 Q2 _ u2 Q3 _ u3 hiq enq trq swq (HP7.out.below (by repeat (first | with_reducible exact Below.refl _ _ | with_reducible refine Below.drew ?_ | with_reducible refine bl_drewN ?_ _ | with_reducible refine bl_alloc ?_ _))) (HQ7.out.below (by repeat (first | with_reducible exact Below.refl _ _ | with_reducible refine Below.drew ?_ | with_reducible refine bl_drewN ?_ _ | with_reducible refine bl_alloc ?_ _))) (by have := L1.out; omega) (by have := L2.out; omega) (by have := L3.out; omega) (by have := L1q.out; omega) (by have := L2q.out; omega) (by have := L3q.out; omega) b HS.out).mono ?_
  rintro e w8 ⟨rfl, hb⟩
  have HB8 := Lib.hid (show Below w.heap.size w w8 from bl_trans (by repeat (first | with_reducible exact HB7.out | with_reducible refine Below.drew ?_ | with_reducible refine bl_drewN ?_ _ | with_reducible refine bl_alloc ?_ _)) hb)
  have hs8 : w7.heap.size ≤ w8.heap.size := by have := hb.size; (try simp at this); omega
  have bA8 := Lib.hid (show Blk w8 (w.heap.size) 50 #[.slice A1 n1 c1, .slice A2 n2 c2, .slice A3 n3 c3, .bool hi] from Blk.below (by repeat (first | with_reducible exact bA7.out | with_reducible refine Blk.drewN ?_ _ | with_reducible refine Blk.drewR ?_ | with_reducible refine Blk.alloc ?_ _)) hb (by have := bA7.out.lt; first | exact this | omega | (simp; omega)))
  have bB8 := Lib.hid (show Blk w8 (w.heap.size + 1) 50 #[.slice A1q n1q c1q, .slice A2q n2q c2q, .slice A3q n3q c3q, .bool hiq] from Blk.below (by repeat (first | with_reducible exact bB7.out | with_reducible refine Blk.drewN ?_ _ | with_reducible refine Blk.drewR ?_ | with_reducible refine Blk.alloc ?_ _)) hb (by have := bB7.out.lt; first | exact this | omega | (simp; omega)))
  have bP8 := Lib.hid (show Blk w8 (w6.heap.size) 27 #[.slice P1 en.length f1, .slice P2 tr.length f2, .slice P3 sw.length f3, .bool hi] from Blk.below (by repeat (first | with_reducible exact bP7.out | with_reducible refine Blk.drewN ?_ _ | with_reducible refine Blk.drewR ?_ | with_reducible refine Blk.alloc ?_ _)) hb (by have := bP7.out.lt; first | exact this | omega | (simp; omega)))
  have bQ8 := Lib.hid (show Blk w8 (w7.heap.size) 27 #[.slice Q1 enq.length u1, .slice Q2 trq.length u2, .slice Q3 swq.length u3, .bool hiq] from Blk.below (by have hh := Blk.new (w7) 27 #[.slice Q1 enq.length u1, .slice Q2 trq.length u2, .slice Q3 swq.length u3, .bool hiq]; (try simp only [World.size_alloc] at hh); repeat (first | exact hh | with_reducible refine Blk.drewN ?_ _ | with_reducible refine Blk.drewR ?_ | with_reducible refine Blk.alloc ?_ _)) hb (by first | omega | (simp; done) | (simp; omega)))
  have HP8 := Lib.hid (HP7.out.below (show Below w7.heap.size w7 w8 from bl_trans (by repeat (first | with_reducible exact Below.refl _ _ | with_reducible refine Below.drew ?_ | with_reducible refine bl_drewN ?_ _ | with_reducible refine bl_alloc ?_ _)) hb))
  have HQ8 := Lib.hid (HQ7.out.below (show Below w7.heap.size w7 w8 from bl_trans (by repeat (first | with_reducible exact Below.refl _ _ | with_reducible refine Below.drew ?_ | with_reducible refine bl_drewN ?_ _ | with_reducible refine bl_alloc ?_ _)) hb))
  clear hb  xA xB xP bA7 bB7 bP7 HP7 HQ7 HB7 cA cB cP
  have cA := bA8.out.cell
  have cB := bB8.out.cell
  have cP := bP8.out.cell
  have cQ := bQ8.out.cell
  have hS8 := (And.intro (Blk.four bA8.out) (And.intro (Blk.four bB8.out) (And.intro (Blk.four bP8.out) (Blk.four bQ8.out))))
  go_wp2_with fail
  go_region_held3 (fun W => (W.cell? ⟨w.heap.size, 0, none⟩ = some (.slice A1 n1 c1) ∧ W.cell? ⟨w.heap.size, 1, none⟩ = some (.slice A2 n2 c2) ∧ W.cell? ⟨w.heap.size, 2, none⟩ = some (.slice A3 n3 c3) ∧ W.cell? ⟨w.heap.size, 3, none⟩ = some (.bool hi)) ∧ (W.cell? ⟨w.heap.size + 1, 0, none⟩ = some (.slice A1q n1q c1q) ∧ W.cell? ⟨w.heap.size + 1, 1, none⟩ = some (.slice A2q n2q c2q) ∧ W.cell? ⟨w.heap.size + 1, 2, none⟩ = some (.slice A3q n3q c3q) ∧ W.cell? ⟨w.heap.size + 1, 3, none⟩ = some (.bool hiq)) ∧ (W.cell? ⟨w6.heap.size, 0, none⟩ = some (.slice P1 en.length f1) ∧ W.cell? ⟨w6.heap.size, 1, none⟩ = some (.slice P2 tr.length f2) ∧ W.cell? ⟨w6.heap.size, 2, none⟩ = some (.slice P3 sw.length f3) ∧ W.cell? ⟨w6.heap.size, 3, none⟩ = some (.bool hi)) ∧ (W.cell? ⟨w7.heap.size, 0, none⟩ = some (.slice Q1 enq.length u1) ∧ W.cell? ⟨w7.heap.size, 1, none⟩ = some (.slice Q2 trq.length u2) ∧ W.cell? ⟨w7.heap.size, 2, none⟩ = some (.slice Q3 swq.length u3) ∧ W.cell? ⟨w7.heap.size, 3, none⟩ = some (.bool hiq))) (first | exact hS8 | exact hS9 | exact hS10)
    ((first
      | (go_at_call 40
         refine (toRun_any _ A1 n1 c1 A2 n2 c2 A3 n3 c3 hi en tr sw (Hp.out.below (by repeat (first | with_reducible exact HB8.out | with_reducible refine Below.drew ?_ | with_reducible refine bl_drewN ?_ _ | with_reducible refine bl_alloc ?_ _))) k1 k2 k3).mono ?_
         rintro e w9 ⟨X1, d1, X2, d2, X3, d3, s1, s2, rfl, o1, o2, o3, _, _, _, _, hb⟩
         have HB9 := Lib.hid (show Below w.heap.size w w9 from bl_trans (by repeat (first | with_reducible exact HB8.out | with_reducible refine Below.drew ?_ | with_reducible refine bl_drewN ?_ _ | with_reducible refine bl_alloc ?_ _)) hb)
         have hs9 : w8.heap.size ≤ w9.heap.size := by have := hb.size; (try simp at this); omega
         have bA9 := Lib.hid (show Blk w9 (w.heap.size) 50 #[.slice A1 n1 c1, .slice A2 n2 c2, .slice A3 n3 c3, .bool hi] from Blk.below (by repeat (first | with_reducible exact bA8.out | with_reducible refine Blk.drewN ?_ _ | with_reducible refine Blk.drewR ?_ | with_reducible refine Blk.alloc ?_ _)) hb (by have := bA8.out.lt; first | exact this | omega | (simp; omega)))
         have bB9 := Lib.hid (show Blk w9 (w.heap.size + 1) 50 #[.slice A1q n1q c1q, .slice A2q n2q c2q, .slice A3q n3q c3q, .bool hiq] from Blk.below (by repeat (first | with_reducible exact bB8.out | with_reducible refine Blk.drewN ?_ _ | with_reducible refine Blk.drewR ?_ | with_reducible refine Blk.alloc ?_ _)) hb (by have := bB8.out.lt; first | exact this | omega | (simp; omega)))
         have bP9 := Lib.hid (show Blk w9 (w6.heap.size) 27 #[.slice P1 en.length f1, .slice P2 tr.length f2, .slice P3 sw.length f3, .bool hi] from Blk.below (by repeat (first | with_reducible exact bP8.out | with_reducible refine Blk.drewN ?_ _ | with_reducible refine Blk.drewR ?_ | with_reducible refine Blk.alloc ?_ _)) hb (by have := bP8.out.lt; first | exact this | omega | (simp; omega)))
         have bQ9 := Lib.hid (show Blk w9 (w7.heap.size) 27 #[.slice Q1 enq.length u1, .slice Q2 trq.length u2, .slice Q3 swq.length u3, .bool hiq] from Blk.below (by repeat (first | with_reducible exact bQ8.out | with_reducible refine Blk.drewN ?_ _ | with_reducible refine Blk.drewR ?_ | with_reducible refine Blk.alloc ?_ _)) hb (by have := bQ8.out.lt; first | exact this | omega | (simp; omega)))
         have HP9 := Lib.hid (HP8.out.below (show Below w8.heap.size w8 w9 from bl_trans (by repeat (first | with_reducible exact Below.refl _ _ | with_reducible refine Below.drew ?_ | with_reducible refine bl_drewN ?_ _ | with_reducible refine bl_alloc ?_ _)) hb))
         have HQ9 := Lib.hid (HQ8.out.below (show Below w8.heap.size w8 w9 from bl_trans (by repeat (first | with_reducible exact Below.refl _ _ | with_reducible refine Below.drew ?_ | with_reducible refine bl_drewN ?_ _ | with_reducible refine bl_alloc ?_ _)) hb))
         have HX9 := Lib.hid (RnCopy.reads o1 o2 o3)
         clear o1 o2 o3
         have cA := bA9.out.cell
         have cB := bB9.out.cell
         have cP := bP9.out.cell
         have cQ := bQ9.out.cell
         have hS9 := (And.intro (Blk.four bA9.out) (And.intro (Blk.four bB9.out) (And.intro (Blk.four bP9.out) (Blk.four bQ9.out))))
         clear hb)
      | (go_at_call 41
         refine (eqRun_any _ P1 _ f1 P2 _ f2 P3 _ f3 X1 d1 X2 d2 X3 d3 hi en tr sw (HP9.out.below (by repeat (first | with_reducible exact Below.refl _ _ | with_reducible refine Below.drew ?_ | with_reducible refine bl_drewN ?_ _ | with_reducible refine bl_alloc ?_ _))) (HX9.out.below (by repeat (first | with_reducible exact Below.refl _ _ | with_reducible refine Below.drew ?_ | with_reducible refine bl_drewN ?_ _ | with_reducible refine bl_alloc ?_ _))) (by have := L1.out; omega) (by have := L2.out; omega) (by have := L3.out; omega)).mono ?_
         rintro e w10 ⟨rfl, hb⟩
         have HB10 := Lib.hid (show Below w.heap.size w w10 from bl_trans (by repeat (first | with_reducible exact HB9.out | with_reducible refine Below.drew ?_ | with_reducible refine bl_drewN ?_ _ | with_reducible refine bl_alloc ?_ _)) hb)
         have hs10 : w9.heap.size ≤ w10.heap.size := by have := hb.size; (try simp at this); omega
         have bA10 := Lib.hid (show Blk w10 (w.heap.size) 50 #[.slice A1 n1 c1, .slice A2 n2 c2, .slice A3 n3 c3, .bool hi] from Blk.below (by repeat (first | with_reducible exact bA9.out | with_reducible refine Blk.drewN ?_ _ | with_reducible refine Blk.drewR ?_ | with_reducible refine Blk.alloc ?_ _)) hb (by have := bA9.out.lt; first | exact this | omega | (simp; omega)))
         have bB10 := Lib.hid (show Blk w10 (w.heap.size + 1) 50 #[.slice A1q n1q c1q, .slice A2q n2q c2q, .slice A3q n3q c3q, .bool hiq] from Blk.below (by repeat (first | with_reducible exact bB9.out | with_reducible refine Blk.drewN ?_ _ | with_reducible refine Blk.drewR ?_ | with_reducible refine Blk.alloc ?_ _)) hb (by have := bB9.out.lt; first | exact this | omega | (simp; omega)))
         have bP10 := Lib.hid (show Blk w10 (w6.heap.size) 27 #[.slice P1 en.length f1, .slice P2 tr.length f2, .slice P3 sw.length f3, .bool hi] from Blk.below (by repeat (first | with_reducible exact bP9.out | with_reducible refine Blk.drewN ?_ _ | with_reducible refine Blk.drewR ?_ | with_reducible refine Blk.alloc ?_ _)) hb (by have := bP9.out.lt; first | exact this | omega | (simp; omega)))
         have bQ10 := Lib.hid (show Blk w10 (w7.heap.size) 27 #[.slice Q1 enq.length u1, .slice Q2 trq.length u2, .slice Q3 swq.length u3, .bool hiq] from Blk.below (by repeat (first | with_reducible exact bQ9.out | with_reducible refine Blk.drewN ?_ _ | with_reducible refine Blk.drewR ?_ | with_reducible refine Blk.alloc ?_ _)) hb (by have := bQ9.out.lt; first | exact this | omega | (simp; omega)))
         have HP10 := Lib.hid (HP9.out.below (show Below w9.heap.size w9 w10 from bl_trans (by repeat (first | with_reducible exact Below.refl _ _ | with_reducible refine Below.drew ?_ | with_reducible refine bl_drewN ?_ _ | with_reducible refine bl_alloc ?_ _)) hb))
         have HQ10 := Lib.hid (HQ9.out.below (show Below w9.heap.size w9 w10 from bl_trans (by repeat (first | with_reducible exact Below.refl _ _ | with_reducible refine Below.drew ?_ | with_reducible refine bl_drewN ?_ _ | with_reducible refine bl_alloc ?_ _)) hb))
         have HX10 := Lib.hid (HX9.out.below (show Below w9.heap.size w9 w10 from bl_trans (by repeat (first | with_reducible exact Below.refl _ _ | with_reducible refine Below.drew ?_ | with_reducible refine bl_drewN ?_ _ | with_reducible refine bl_alloc ?_ _)) hb))
         have cA := bA10.out.cell
         have cB := bB10.out.cell
         have cP := bP10.out.cell
         have cQ := bQ10.out.cell
         have hS10 := (And.intro (Blk.four bA10.out) (And.intro (Blk.four bB10.out) (And.intro (Blk.four bP10.out) (Blk.four bQ10.out))))
         clear hb)))
  have cA := bA10.out.cell
  have cB := bB10.out.cell
  have cP := bP10.out.cell
  have cQ := bQ10.out.cell
  clear HX10 HP10
  have hS10 := (And.intro (Blk.four bA10.out) (And.intro (Blk.four bB10.out) (And.intro (Blk.four bP10.out) (Blk.four bQ10.out))))
  go_wp2_with fail
  go_region_held3 (fun W => (W.cell? ⟨w.heap.size, 0, none⟩ = some (.slice A1 n1 c1) ∧ W.cell? ⟨w.heap.size, 1, none⟩ = some (.slice A2 n2 c2) ∧ W.cell? ⟨w.heap.size, 2, none⟩ = some (.slice A3 n3 c3) ∧ W.cell? ⟨w.heap.size, 3, none⟩ = some (.bool hi)) ∧ (W.cell? ⟨w.heap.size + 1, 0, none⟩ = some (.slice A1q n1q c1q) ∧ W.cell? ⟨w.heap.size + 1, 1, none⟩ = some (.slice A2q n2q c2q) ∧ W.cell? ⟨w.heap.size + 1, 2, none⟩ = some (.slice A3q n3q c3q) ∧ W.cell? ⟨w.heap.size + 1, 3, none⟩ = some (.bool hiq)) ∧ (W.cell? ⟨w6.heap.size, 0, none⟩ = some (.slice P1 en.length f1) ∧ W.cell? ⟨w6.heap.size, 1, none⟩ = some (.slice P2 tr.length f2) ∧ W.cell? ⟨w6.heap.size, 2, none⟩ = some (.slice P3 sw.length f3) ∧ W.cell? ⟨w6.heap.size, 3, none⟩ = some (.bool hi)) ∧ (W.cell? ⟨w7.heap.size, 0, none⟩ = some (.slice Q1 enq.length u1) ∧ W.cell? ⟨w7.heap.size, 1, none⟩ = some (.slice Q2 trq.length u2) ∧ W.cell? ⟨w7.heap.size, 2, none⟩ = some (.slice Q3 swq.length u3) ∧ W.cell? ⟨w7.heap.size, 3, none⟩ = some (.bool hiq))) (first | exact hS10 | exact hS11 | exact hS12)
    ((first
      | (go_at_call 40
         refine (toRun_any _ A1q n1q c1q A2q n2q c2q A3q n3q c3q hiq enq trq swq (Hq.out.below (by repeat (first | with_reducible exact HB10.out | with_reducible refine Below.drew ?_ | with_reducible refine bl_drewN ?_ _ | with_reducible refine bl_alloc ?_ _))) k1q k2q k3q).mono ?_
         rintro e w11 ⟨Y1, e1, Y2, e2, Y3, e3, s1, s2, rfl, o1, o2, o3, _, _, _, _, hb⟩
         have HB11 := Lib.hid (show Below w.heap.size w w11 from bl_trans (by repeat (first | with_reducible exact HB10.out | with_reducible refine Below.drew ?_ | with_reducible refine bl_drewN ?_ _ | with_reducible refine bl_alloc ?_ _)) hb)
         have hs11 : w10.heap.size ≤ w11.heap.size := by have := hb.size; (try simp at this); omega
         have bA11 := Lib.hid (show Blk w11 (w.heap.size) 50 #[.slice A1 n1 c1, .slice A2 n2 c2, .slice A3 n3 c3, .bool hi] from Blk.below (by repeat (first | with_reducible exact bA10.out | with_reducible refine Blk.drewN ?_ _ | with_reducible refine Blk.drewR ?_ | with_reducible refine Blk.alloc ?_ _)) hb (by have := bA10.out.lt; first | exact this | omega | (simp; omega)))
         have bB11 := Lib.hid (show Blk w11 (w.heap.size + 1) 50 #[.slice A1q n1q c1q, .slice A2q n2q c2q, .slice A3q n3q c3q, .bool hiq] from Blk.below (by repeat (first | with_reducible exact bB10.out | with_reducible refine Blk.drewN ?_ _ | with_reducible refine Blk.drewR ?_ | with_reducible refine Blk.alloc ?_ _)) hb (by have := bB10.out.lt; first | exact this | omega | (simp; omega)))
         have bP11 := Lib.hid (show Blk w11 (w6.heap.size) 27 #[.slice P1 en.length f1, .slice P2 tr.length f2, .slice P3 sw.length f3, .bool hi] from Blk.below (by repeat (first | with_reducible exact bP10.out | with_reducible refine Blk.drewN ?_ _ | with_reducible refine Blk.drewR ?_ | with_reducible refine Blk.alloc ?_ _)) hb (by have := bP10.out.lt; first | exact this | omega | (simp; omega)))
         have bQ11 := Lib.hid (show Blk w11 (w7.heap.size) 27 #[.slice Q1 enq.length u1, .slice Q2 trq.length u2, .slice Q3 swq.length u3, .bool hiq] from Blk.below (by repeat (first | with_reducible exact bQ10.out | with_reducible refine Blk.drewN ?_ _ | with_reducible refine Blk.drewR ?_ | with_reducible refine Blk.alloc ?_ _)) hb (by have := bQ10.out.lt; first | exact this | omega | (simp; omega)))
         have HQ11 := Lib.hid (HQ10.out.below (show Below w10.heap.size w10 w11 from bl_trans (by repeat (first | with_reducible exact Below.refl _ _ | with_reducible refine Below.drew ?_ | with_reducible refine bl_drewN ?_ _ | with_reducible refine bl_alloc ?_ _)) hb))
         have HY11 := Lib.hid (RnCopy.reads o1 o2 o3)
         clear o1 o2 o3
         have cA := bA11.out.cell
         have cB := bB11.out.cell
         have cP := bP11.out.cell
         have cQ := bQ11.out.cell
         have hS11 := (And.intro (Blk.four bA11.out) (And.intro (Blk.four bB11.out) (And.intro (Blk.four bP11.out) (Blk.four bQ11.out))))
         clear hb)
      | (go_at_call 41
         refine (eqRun_any _ Q1 _ u1 Q2 _ u2 Q3 _ u3 Y1 e1 Y2 e2 Y3 e3 hiq enq trq swq (HQ11.out.below (by repeat (first | with_reducible exact Below.refl _ _ | with_reducible refine Below.drew ?_ | with_reducible refine bl_drewN ?_ _ | with_reducible refine bl_alloc ?_ _))) (HY11.out.below (by repeat (first | with_reducible exact Below.refl _ _ | with_reducible refine Below.drew ?_ | with_reducible refine bl_drewN ?_ _ | with_reducible refine bl_alloc ?_ _))) (by have := L1q.out; omega) (by have := L2q.out; omega) (by have := L3q.out; omega)).mono ?_
         rintro e w12 ⟨rfl, hb⟩
         have HB12 := Lib.hid (show Below w.heap.size w w12 from bl_trans (by repeat (first | with_reducible exact HB11.out | with_reducible refine Below.drew ?_ | with_reducible refine bl_drewN ?_ _ | with_reducible refine bl_alloc ?_ _)) hb)
         have hs12 : w11.heap.size ≤ w12.heap.size := by have := hb.size; (try simp at this); omega
         have bA12 := Lib.hid (show Blk w12 (w.heap.size) 50 #[.slice A1 n1 c1, .slice A2 n2 c2, .slice A3 n3 c3, .bool hi] from Blk.below (by repeat (first | with_reducible exact bA11.out | with_reducible refine Blk.drewN ?_ _ | with_reducible refine Blk.drewR ?_ | with_reducible refine Blk.alloc ?_ _)) hb (by have := bA11.out.lt; first | exact this | omega | (simp; omega)))
         have bB12 := Lib.hid (show Blk w12 (w.heap.size + 1) 50 #[.slice A1q n1q c1q, .slice A2q n2q c2q, .slice A3q n3q c3q, .bool hiq] from Blk.below (by repeat (first | with_reducible exact bB11.out | with_reducible refine Blk.drewN ?_ _ | with_reducible refine Blk.drewR ?_ | with_reducible refine Blk.alloc ?_ _)) hb (by have := bB11.out.lt; first | exact this | omega | (simp; omega)))
         have bP12 := Lib.hid (show Blk w12 (w6.heap.size) 27 #[.slice P1 en.length f1, .slice P2 tr.length f2, .slice P3 sw.length f3, .bool hi] from Blk.below (by repeat (first | with_reducible exact bP11.out | with_reducible refine Blk.drewN ?_ _ | with_reducible refine Blk.drewR ?_ | with_reducible refine Blk.alloc ?_ _)) hb (by have := bP11.out.lt; first | exact this | omega | (simp; omega)))
         have bQ12 := Lib.hid (show Blk w12 (w7.heap.size) 27 #[.slice Q1 enq.length u1, .slice Q2 trq.length u2, .slice Q3 swq.length u3, .bool hiq] from Blk.below (by repeat (first | with_reducible exact bQ11.out | with_reducible refine Blk.drewN ?_ _ | with_reducible refine Blk.drewR ?_ | with_reducible refine Blk.alloc ?_ _)) hb (by have := bQ11.out.lt; first | exact this | omega | (simp; omega)))
         have HQ12 := Lib.hid (HQ11.out.below (show Below w11.heap.size w11 w12 from bl_trans (by repeat (first | with_reducible exact Below.refl _ _ | with_reducible refine Below.drew ?_ | with_reducible refine bl_drewN ?_ _ | with_reducible refine bl_alloc ?_ _)) hb))
         have HY12 := Lib.hid (HY11.out.below (show Below w11.heap.size w11 w12 from bl_trans (by repeat (first | with_reducible exact Below.refl _ _ | with_reducible refine Below.drew ?_ | with_reducible refine bl_drewN ?_ _ | with_reducible refine bl_alloc ?_ _)) hb))
         have cA := bA12.out.cell
         have cB := bB12.out.cell
         have cP := bP12.out.cell
         have cQ := bQ12.out.cell
         have hS12 := (And.intro (Blk.four bA12.out) (And.intro (Blk.four bB12.out) (And.intro (Blk.four bP12.out) (Blk.four bQ12.out))))
         clear hb)))
  have cA := bA12.out.cell
  have cB := bB12.out.cell
  have cP := bP12.out.cell
  have cQ := bQ12.out.cell
  go_wp2
  go_ret
  exact ⟨rfl, (by repeat (first | with_reducible exact HB12.out | with_reducible refine Below.drew ?_ | with_reducible refine bl_drewN ?_ _ | with_reducible refine bl_alloc ?_ _))⟩

end Go.Proofs.Ytjondedkgkohfaa
