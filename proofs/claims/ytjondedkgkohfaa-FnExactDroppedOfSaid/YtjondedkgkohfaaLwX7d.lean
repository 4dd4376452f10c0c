/- The walk of the exact law of DroppedOf. -/
import Derived.Test.YtjondedkgkohfaaRnD
import Derived.Deep.RegionWith
import Derived.Deep.RegionHeld3
namespace Go.Proofs.Ytjondedkgkohfaa
open Go.RowKit
set_option linter.unusedVariables false

theorem sDrop_at (w : World) (A1 : Option Addr) (n1 c1 : Nat) (A2 : Option Addr) (n2 c2 : Nat) (A3 : Option Addr) (n3 c3 : Nat) (hi : Bool) (en us : List Int) (h : Zs w w.heap.size A1 n1 en) (hn : n1 ≤ 1100000) (hu : placesI (dropP en) en.length = us) :
    Calls Try.prog 24 #[.agg #[.slice A1 n1 c1, .slice A2 n2 c2, .slice A3 n3 c3, .bool hi]] w (ZsRes us w) := by
  have := sDropped_is w A1 n1 c1 A2 n2 c2 A3 n3 c3 hi en h hn
  rw [← h.len, hu] at this
  rw [← h.len]
  exact this
theorem iDrop_at (w : World) (A1 : Option Addr) (n1 c1 : Nat) (A2 : Option Addr) (n2 c2 : Nat) (A3 : Option Addr) (n3 c3 : Nat) (hi : Bool) (en us : List Int) (h : Zs w w.heap.size A1 n1 en) (hn : n1 ≤ 1100000) (hu : placesI (dropP en) en.length = us) :
    Calls Try.prog 23 #[.agg #[.slice A1 n1 c1, .slice A2 n2 c2, .slice A3 n3 c3, .bool hi]] w (ZsRes us w) := by
  have := iDropped_is w A1 n1 c1 A2 n2 c2 A3 n3 c3 hi en h hn
  rw [← h.len, hu] at this
  rw [← h.len]
  exact this
theorem OwnZ.readsM {w : World} {B : Nat} {A : Option Addr} {n c : Nat} {zs : List Int} (h : OwnZ w B (.slice A n c) zs) (hn : zs.length = n) : Zs w w.heap.size A n zs := by
  subst hn
  exact h.reads
theorem bl_trans2 {B : Nat} {a b c : World} (h : Below B a b) (k : Below B b c) : Below B a c := h.trans k

set_option maxRecDepth 100000 in
set_option maxHeartbeats 4000000 in
theorem fnExactDroppedOf_walk (w : World) (A1 : Option Addr) (n1 c1 : Nat) (A2 : Option Addr) (n2 c2 : Nat) (A3 : Option Addr) (n3 c3 : Nat) (hi : Bool) (en tr sw : List Int)
    (h : RnAt w A1 n1 A2 n2 A3 n3 en tr sw) (m1 : n1 ≤ 9223372036854775807) (m2 : n2 ≤ 9223372036854775807) (m3 : n3 ≤ 9223372036854775807) :
    Calls Try.prog 13 #[.agg #[.slice A1 n1 c1, .slice A2 n2 c2, .slice A3 n3 c3, .bool hi]] w fun e w' => e = .returned (.bool true) ∧ Below w.heap.size w w' := by
  have H := Lib.hid h
  have L1 := Lib.hid h.e.len
  have L2 := Lib.hid h.t.len
  have L3 := Lib.hid h.s.len
  clear h
  obtain ⟨us, hu⟩ : ∃ us, placesI (dropP en) en.length = us := ⟨_, rfl⟩
  have hul0 : us.length ≤ en.length := by rw [← hu]; exact places_len _ _
  have HUL := Lib.hid hul0
  have HU := Lib.hid hu
  clear hu hul0
  go_enter Try.func13, Try.ntmps13
  go_wp2_with fail
  refine (szRun_any _ A1 n1 c1 A2 n2 c2 A3 n3 c3 hi m1 m2 m3 1048576 (by omega) (by omega)).mono ?_
  rintro e w1 ⟨⟨z0, rfl, hz⟩, hb⟩
  have HB1 := Lib.hid (show Below w.heap.size w w1 from bl_trans (by repeat (first | with_reducible exact Below.refl _ _ | with_reducible refine Below.drew ?_ | with_reducible refine bl_drewN ?_ _ | with_reducible refine bl_alloc ?_ _)) hb)
  have hs1 : w.heap.size ≤ w1.heap.size := by have := hb.size; (try simp at this); omega
  have bA1 := Lib.hid (show Blk w1 (w.heap.size) 50 #[.slice A1 n1 c1, .slice A2 n2 c2, .slice A3 n3 c3, .bool hi] from Blk.below (by have hh := Blk.new (w) 50 #[.slice A1 n1 c1, .slice A2 n2 c2, .slice A3 n3 c3, .bool hi]; (try simp only [World.size_alloc] at hh); repeat (first | exact hh | with_reducible refine Blk.drewN ?_ _ | with_reducible refine Blk.drewR ?_ | with_reducible refine Blk.alloc ?_ _)) hb (by first | omega | (simp; done) | (simp; omega)))
  clear hb  
  have cA := bA1.out.cell
  rcases hz with ⟨hz, rfl⟩ | ⟨hz, rfl⟩
  · go_wp2
    go_ret
    exact ⟨rfl, HB1.out⟩
  have d1 : ¬ (1048576 : Int) - ((n1 + n2 + n3 : Nat) : Int) < 0 := by omega
  have k1 : n1 ≤ 1048576 := by omega
  have k2 : n2 ≤ 1048576 := by omega
  have k3 : n3 ≤ 1048576 := by omega
  have hul : us.length ≤ 1048576 := by have := HUL.out; have := L1.out; omega
  go_wp2_with fail
  refine (toRun_any _ A1 n1 c1 A2 n2 c2 A3 n3 c3 hi en tr sw (H.out.below (by repeat (first | with_reducible exact HB1.out | with_reducible refine Below.drew ?_ | with_reducible refine bl_drewN ?_ _ | with_reducible refine bl_alloc ?_ _))) k1 k2 k3).mono ?_
  rintro e w2 ⟨X1, d1, X2, d2, X3, d3, s1, s2, rfl, o1, o2, o3, _, _, _, _, hb⟩
  have HB2 := Lib.hid (show Below w.heap.size w w2 from bl_trans (by repeat (first | with_reducible exact HB1.out | with_reducible refine Below.drew ?_ | with_reducible refine bl_drewN ?_ _ | with_reducible refine bl_alloc ?_ _)) hb)
  have hs2 : w1.heap.size ≤ w2.heap.size := by have := hb.size; (try simp at this); omega
  have bA2 := Lib.hid (show Blk w2 (w.heap.size) 50 #[.slice A1 n1 c1, .slice A2 n2 c2, .slice A3 n3 c3, .bool hi] from Blk.below (by repeat (first | with_reducible exact bA1.out | with_reducible refine Blk.drewN ?_ _ | with_reducible refine Blk.drewR ?_ | with_reducible refine Blk.alloc ?_ _)) hb (by have := bA1.out.lt; first | exact this | omega | (simp; omega)))
  have HX2 := Lib.hid (RnCopy.reads o1 o2 o3)
  clear o1 o2 o3
  clear hb  bA1 HB1 cA
  have cA := bA2.out.cell
  go_wp2_with fail
  refine (sDrop_at _ X1 _ d1 X2 _ d2 X3 _ d3 hi en us (HX2.out.below (by repeat (first | with_reducible exact Below.refl _ _ | with_reducible refine Below.drew ?_ | with_reducible refine bl_drewN ?_ _ | with_reducible refine bl_alloc ?_ _))).e (by have := L1.out; omega) HU.out).mono ?_
  rintro e w3 ⟨Ay, cy, rfl, ho, hb⟩
  have HB3 := Lib.hid (show Below w.heap.size w w3 from bl_trans (by repeat (first | with_reducible exact HB2.out | with_reducible refine Below.drew ?_ | with_reducible refine bl_drewN ?_ _ | with_reducible refine bl_alloc ?_ _)) hb)
  have hs3 : w2.heap.size ≤ w3.heap.size := by have := hb.size; (try simp at this); omega
  have bA3 := Lib.hid (show Blk w3 (w.heap.size) 50 #[.slice A1 n1 c1, .slice A2 n2 c2, .slice A3 n3 c3, .bool hi] from Blk.below (by repeat (first | with_reducible exact bA2.out | with_reducible refine Blk.drewN ?_ _ | with_reducible refine Blk.drewR ?_ | with_reducible refine Blk.alloc ?_ _)) hb (by have := bA2.out.lt; first | exact this | omega | (simp; omega)))
  have HX3 := Lib.hid (HX2.out.below (show Below w2.heap.size w2 w3 from bl_trans (by repeat (first | with_reducible exact Below.refl _ _ | with_reducible refine Below.drew ?_ | with_reducible refine bl_drewN ?_ _ | with_reducible refine bl_alloc ?_ _)) hb))
  have Oy3 := Lib.hid ho
  have HMy := Lib.hid (World.ownsRow.lt ho)
  clear ho
  clear hb  bA2 HX2 HB2 cA
  have cA := bA3.out.cell
  clear HX3
  have hA : w.heap.size < w3.heap.size := bA3.out.lt
  go_wp2_with fail
  refine (toRun_any _ A1 n1 c1 A2 n2 c2 A3 n3 c3 hi en tr sw (H.out.below (by repeat (first | with_reducible exact HB3.out | with_reducible refine Below.drew ?_ | with_reducible refine bl_drewN ?_ _ | with_reducible refine bl_alloc ?_ _))) k1 k2 k3).mono ?_
  rintro e w4 ⟨P1, f1, P2, f2, P3, f3, t1, t2, rfl, o1, o2, o3, l1, l2, h12, ⟨h23, h34⟩, hb⟩
  have HB4 := Lib.hid (show Below w.heap.size w w4 from bl_trans (by repeat (first | with_reducible exact HB3.out | with_reducible refine Below.drew ?_ | with_reducible refine bl_drewN ?_ _ | with_reducible refine bl_alloc ?_ _)) hb)
  have hs4 : w3.heap.size ≤ w4.heap.size := by have := hb.size; (try simp at this); omega
  have bA4 := Lib.hid (show Blk w4 (w.heap.size) 50 #[.slice A1 n1 c1, .slice A2 n2 c2, .slice A3 n3 c3, .bool hi] from Blk.below (by repeat (first | with_reducible exact bA3.out | with_reducible refine Blk.drewN ?_ _ | with_reducible refine Blk.drewR ?_ | with_reducible refine Blk.alloc ?_ _)) hb (by have := bA3.out.lt; first | exact this | omega | (simp; omega)))
  have Oy4 := Lib.hid (OwnZ.below (w := w3) Oy3.out (show Below w3.heap.size w3 w4 from bl_trans (by repeat (first | with_reducible exact Below.refl _ _ | with_reducible refine Below.drew ?_ | with_reducible refine bl_drewN ?_ _ | with_reducible refine bl_alloc ?_ _)) hb))
  have l3 : ∀ k, (Value.slice P3 sw.length f3).ownBlock = some k → k < w4.heap.size := fun k e => (World.ownsRow.lt o3 k e).2
  have OP1x4 := Lib.hid o1
  have OP2x4 := Lib.hid o2
  have OP3x4 := Lib.hid o3
  have HP4 := Lib.hid (RnCopy.reads o1 o2 o3)
  have HLP := Lib.hid (And.intro l1 (And.intro l2 l3))
  clear o1 o2 o3 l1 l2 l3
  clear hb  bA3 Oy3 HB3 cA
  have cA := bA4.out.cell
  have xA := (Blk.alloc bA4.out (.cells #[.slice P1 en.length f1, .slice P2 tr.length f2, .slice P3 sw.length f3, .bool hi] 27)).cell
  go_wp2_with fail
  refine (iDrop_at _ P1 _ f1 P2 _ f2 P3 _ f3 hi en us (HP4.out.below (by repeat (first | with_reducible exact Below.refl _ _ | with_reducible refine Below.drew ?_ | with_reducible refine bl_drewN ?_ _ | with_reducible refine bl_alloc ?_ _))).e (by have := L1.out; omega) HU.out).mono ?_
  rintro e w5 ⟨Ag, cg, rfl, ho, hb⟩
  have HB5 := Lib.hid (show Below w.heap.size w w5 from bl_trans (by repeat (first | with_reducible exact HB4.out | with_reducible refine Below.drew ?_ | with_reducible refine bl_drewN ?_ _ | with_reducible refine bl_alloc ?_ _)) hb)
  have hs5 : w4.heap.size ≤ w5.heap.size := by have := hb.size; (try simp at this); omega
  have bA5 := Lib.hid (show Blk w5 (w.heap.size) 50 #[.slice A1 n1 c1, .slice A2 n2 c2, .slice A3 n3 c3, .bool hi] from Blk.below (by repeat (first | with_reducible exact bA4.out | with_reducible refine Blk.drewN ?_ _ | with_reducible refine Blk.drewR ?_ | with_reducible refine Blk.alloc ?_ _)) hb (by have := bA4.out.lt; first | exact this | omega | (simp; omega)))
  have bP5 := Lib.hid (show Blk w5 (w4.heap.size) 27 #[.slice P1 en.length f1, .slice P2 tr.length f2, .slice P3 sw.length f3, .bool hi] from Blk.below (by have hh := Blk.new (w4) 27 #[.slice P1 en.length f1, .slice P2 tr.length f2, .slice P3 sw.length f3, .bool hi]; (try simp only [World.size_alloc] at hh); repeat (first | exact hh | with_reducible refine Blk.drewN ?_ _ | with_reducible refine Blk.drewR ?_ | with_reducible refine Blk.alloc ?_ _)) hb (by first | omega | (simp; done) | (simp; omega)))
  have HP5 := Lib.hid (HP4.out.below (show Below w4.heap.size w4 w5 from bl_trans (by repeat (first | with_reducible exact Below.refl _ _ | with_reducible refine Below.drew ?_ | with_reducible refine bl_drewN ?_ _ | with_reducible refine bl_alloc ?_ _)) hb))
  have Oy5 := Lib.hid (OwnZ.below (w := w4) Oy4.out (show Below w4.heap.size w4 w5 from bl_trans (by repeat (first | with_reducible exact Below.refl _ _ | with_reducible refine Below.drew ?_ | with_reducible refine bl_drewN ?_ _ | with_reducible refine bl_alloc ?_ _)) hb))
  have OP1x5 := Lib.hid (OwnZ.below (w := w4) OP1x4.out (show Below w4.heap.size w4 w5 from bl_trans (by repeat (first | with_reducible exact Below.refl _ _ | with_reducible refine Below.drew ?_ | with_reducible refine bl_drewN ?_ _ | with_reducible refine bl_alloc ?_ _)) hb))
  have OP2x5 := Lib.hid (OwnZ.below (w := w4) OP2x4.out (show Below w4.heap.size w4 w5 from bl_trans (by repeat (first | with_reducible exact Below.refl _ _ | with_reducible refine Below.drew ?_ | with_reducible refine bl_drewN ?_ _ | with_reducible refine bl_alloc ?_ _)) hb))
  have OP3x5 := Lib.hid (OwnZ.below (w := w4) OP3x4.out (show Below w4.heap.size w4 w5 from bl_trans (by repeat (first | with_reducible exact Below.refl _ _ | with_reducible refine Below.drew ?_ | with_reducible refine bl_drewN ?_ _ | with_reducible refine bl_alloc ?_ _)) hb))
  have Og5 := Lib.hid (show OwnZ w5 w4.heap.size _ _ from OwnZ.less ho (by simp))
  have HMg := Lib.hid (World.ownsRow.lt Og5.out)
  clear ho
  clear hb  xA bA4 HP4 Oy4 OP1x4 OP2x4 OP3x4 HB4 cA
  have cA := bA5.out.cell
  have cP := bP5.out.cell
  go_wp2_with fail
  refine (eqIntS_any _ Ag Ay _ cg cy us Og5.out.reads Oy5.out.reads (by omega)).mono ?_
  rintro e w6 ⟨rfl, hb⟩
  have HB6 := Lib.hid (show Below w.heap.size w w6 from bl_trans (by repeat (first | with_reducible exact HB5.out | with_reducible refine Below.drew ?_ | with_reducible refine bl_drewN ?_ _ | with_reducible refine bl_alloc ?_ _)) hb)
  have hs6 : w5.heap.size ≤ w6.heap.size := by have := hb.size; (try simp at this); omega
  have bA6 := Lib.hid (show Blk w6 (w.heap.size) 50 #[.slice A1 n1 c1, .slice A2 n2 c2, .slice A3 n3 c3, .bool hi] from Blk.below (by repeat (first | with_reducible exact bA5.out | with_reducible refine Blk.drewN ?_ _ | with_reducible refine Blk.drewR ?_ | with_reducible refine Blk.alloc ?_ _)) hb (by have := bA5.out.lt; first | exact this | omega | (simp; omega)))
  have bP6 := Lib.hid (show Blk w6 (w4.heap.size) 27 #[.slice P1 en.length f1, .slice P2 tr.length f2, .slice P3 sw.length f3, .bool hi] from Blk.below (by repeat (first | with_reducible exact bP5.out | with_reducible refine Blk.drewN ?_ _ | with_reducible refine Blk.drewR ?_ | with_reducible refine Blk.alloc ?_ _)) hb (by have := bP5.out.lt; first | exact this | omega | (simp; omega)))
  have HP6 := Lib.hid (HP5.out.below (show Below w5.heap.size w5 w6 from bl_trans (by repeat (first | with_reducible exact Below.refl _ _ | with_reducible refine Below.drew ?_ | with_reducible refine bl_drewN ?_ _ | with_reducible refine bl_alloc ?_ _)) hb))
  have Oy6 := Lib.hid (OwnZ.below (w := w5) Oy5.out (show Below w5.heap.size w5 w6 from bl_trans (by repeat (first | with_reducible exact Below.refl _ _ | with_reducible refine Below.drew ?_ | with_reducible refine bl_drewN ?_ _ | with_reducible refine bl_alloc ?_ _)) hb))
  have OP1x6 := Lib.hid (OwnZ.below (w := w5) OP1x5.out (show Below w5.heap.size w5 w6 from bl_trans (by repeat (first | with_reducible exact Below.refl _ _ | with_reducible refine Below.drew ?_ | with_reducible refine bl_drewN ?_ _ | with_reducible refine bl_alloc ?_ _)) hb))
  have OP2x6 := Lib.hid (OwnZ.below (w := w5) OP2x5.out (show Below w5.heap.size w5 w6 from bl_trans (by repeat (first | with_reducible exact Below.refl _ _ | with_reducible refine Below.drew ?_ | with_reducible refine bl_drewN ?_ _ | with_reducible refine bl_alloc ?_ _)) hb))
  have OP3x6 := Lib.hid (OwnZ.below (w := w5) OP3x5.out (show Below w5.heap.size w5 w6 from bl_trans (by repeat (first | with_reducible exact Below.refl _ _ | with_reducible refine Below.drew ?_ | with_reducible refine bl_drewN ?_ _ | with_reducible refine bl_alloc ?_ _)) hb))
  have Og6 := Lib.hid (OwnZ.below (w := w5) Og5.out (show Below w5.heap.size w5 w6 from bl_trans (by repeat (first | with_reducible exact Below.refl _ _ | with_reducible refine Below.drew ?_ | with_reducible refine bl_drewN ?_ _ | with_reducible refine bl_alloc ?_ _)) hb))
  clear hb  bA5 bP5 HP5 Oy5 OP1x5 OP2x5 OP3x5 Og5 HB5 cA cP
  have cA := bA6.out.cell
  have cP := bP6.out.cell
  have hS6 := (And.intro (Blk.four bA6.out) (Blk.four bP6.out))
  go_wp2_with fail
  go_region_held3 (fun W => (W.cell? ⟨w.heap.size, 0, none⟩ = some (.slice A1 n1 c1) ∧ W.cell? ⟨w.heap.size, 1, none⟩ = some (.slice A2 n2 c2) ∧ W.cell? ⟨w.heap.size, 2, none⟩ = some (.slice A3 n3 c3) ∧ W.cell? ⟨w.heap.size, 3, none⟩ = some (.bool hi)) ∧ (W.cell? ⟨w4.heap.size, 0, none⟩ = some (.slice P1 en.length f1) ∧ W.cell? ⟨w4.heap.size, 1, none⟩ = some (.slice P2 tr.length f2) ∧ W.cell? ⟨w4.heap.size, 2, none⟩ = some (.slice P3 sw.length f3) ∧ W.cell? ⟨w4.heap.size, 3, none⟩ = some (.bool hi))) (first | exact hS6 | exact hS7 | exact hS8)
    ((first
      | (go_at_call 40
         refine (toRun_any _ A1 n1 c1 A2 n2 c2 A3 n3 c3 hi en tr sw (H.out.below (by repeat (first | with_reducible exact HB6.out | with_reducible refine Below.drew ?_ | with_reducible refine bl_drewN ?_ _ | with_reducible refine bl_alloc ?_ _))) k1 k2 k3).mono ?_
         rintro e w7 ⟨X1, d1, X2, d2, X3, d3, s1, s2, rfl, o1, o2, o3, _, _, _, _, hb⟩
         have HB7 := Lib.hid (show Below w.heap.size w w7 from bl_trans (by repeat (first | with_reducible exact HB6.out | with_reducible refine Below.drew ?_ | with_reducible refine bl_drewN ?_ _ | with_reducible refine bl_alloc ?_ _)) hb)
         have hs7 : w6.heap.size ≤ w7.heap.size := by have := hb.size; (try simp at this); omega
         have bA7 := Lib.hid (show Blk w7 (w.heap.size) 50 #[.slice A1 n1 c1, .slice A2 n2 c2, .slice A3 n3 c3, .bool hi] from Blk.below (by repeat (first | with_reducible exact bA6.out | with_reducible refine Blk.drewN ?_ _ | with_reducible refine Blk.drewR ?_ | with_reducible refine Blk.alloc ?_ _)) hb (by have := bA6.out.lt; first | exact this | omega | (simp; omega)))
         have bP7 := Lib.hid (show Blk w7 (w4.heap.size) 27 #[.slice P1 en.length f1, .slice P2 tr.length f2, .slice P3 sw.length f3, .bool hi] from Blk.below (by repeat (first | with_reducible exact bP6.out | with_reducible refine Blk.drewN ?_ _ | with_reducible refine Blk.drewR ?_ | with_reducible refine Blk.alloc ?_ _)) hb (by have := bP6.out.lt; first | exact this | omega | (simp; omega)))
         have HP7 := Lib.hid (HP6.out.below (show Below w6.heap.size w6 w7 from bl_trans (by repeat (first | with_reducible exact Below.refl _ _ | with_reducible refine Below.drew ?_ | with_reducible refine bl_drewN ?_ _ | with_reducible refine bl_alloc ?_ _)) hb))
         have Oy7 := Lib.hid (OwnZ.below (w := w6) Oy6.out (show Below w6.heap.size w6 w7 from bl_trans (by repeat (first | with_reducible exact Below.refl _ _ | with_reducible refine Below.drew ?_ | with_reducible refine bl_drewN ?_ _ | with_reducible refine bl_alloc ?_ _)) hb))
         have OP1x7 := Lib.hid (OwnZ.below (w := w6) OP1x6.out (show Below w6.heap.size w6 w7 from bl_trans (by repeat (first | with_reducible exact Below.refl _ _ | with_reducible refine Below.drew ?_ | with_reducible refine bl_drewN ?_ _ | with_reducible refine bl_alloc ?_ _)) hb))
         have OP2x7 := Lib.hid (OwnZ.below (w := w6) OP2x6.out (show Below w6.heap.size w6 w7 from bl_trans (by repeat (first | with_reducible exact Below.refl _ _ | with_reducible refine Below.drew ?_ | with_reducible refine bl_drewN ?_ _ | with_reducible refine bl_alloc ?_ _)) hb))
         have OP3x7 := Lib.hid (OwnZ.below (w := w6) OP3x6.out (show Below w6.heap.size w6 w7 from bl_trans (by repeat (first | with_reducible exact Below.refl _ _ | with_reducible refine Below.drew ?_ | with_reducible refine bl_drewN ?_ _ | with_reducible refine bl_alloc ?_ _)) hb))
         have Og7 := Lib.hid (OwnZ.below (w := w6) Og6.out (show Below w6.heap.size w6 w7 from bl_trans (by repeat (first | with_reducible exact Below.refl _ _ | with_reducible refine Below.drew ?_ | with_reducible refine bl_drewN ?_ _ | with_reducible refine bl_alloc ?_ _)) hb))
         have HX7 := Lib.hid (RnCopy.reads o1 o2 o3)
         clear o1 o2 o3
         have cA := bA7.out.cell
         have cP := bP7.out.cell
         have hS7 := (And.intro (Blk.four bA7.out) (Blk.four bP7.out))
         clear hb)
      | (go_at_call 41
         refine (eqRun_any _ P1 _ f1 P2 _ f2 P3 _ f3 X1 d1 X2 d2 X3 d3 hi en tr sw (HP7.out.below (by repeat (first | with_reducible exact Below.refl _ _ | with_reducible refine Below.drew ?_ | with_reducible refine bl_drewN ?_ _ | with_reducible refine bl_alloc ?_ _))) (HX7.out.below (by repeat (first | with_reducible exact Below.refl _ _ | with_reducible refine Below.drew ?_ | with_reducible refine bl_drewN ?_ _ | with_reducible refine bl_alloc ?_ _))) (by have := L1.out; omega) (by have := L2.out; omega) (by have := L3.out; omega)).mono ?_
         rintro e w8 ⟨rfl, hb⟩
         have HB8 := Lib.hid (show Below w.heap.size w w8 from bl_trans (by repeat (first | with_reducible exact HB7.out | with_reducible refine Below.drew ?_ | with_reducible refine bl_drewN ?_ _ | with_reducible refine bl_alloc ?_ _)) hb)
         have hs8 : w7.heap.size ≤ w8.heap.size := by have := hb.size; (try simp at this); omega
         have bA8 := Lib.hid (show Blk w8 (w.heap.size) 50 #[.slice A1 n1 c1, .slice A2 n2 c2, .slice A3 n3 c3, .bool hi] from Blk.below (by repeat (first | with_reducible exact bA7.out | with_reducible refine Blk.drewN ?_ _ | with_reducible refine Blk.drewR ?_ | with_reducible refine Blk.alloc ?_ _)) hb (by have := bA7.out.lt; first | exact this | omega | (simp; omega)))
         have bP8 := Lib.hid (show Blk w8 (w4.heap.size) 27 #[.slice P1 en.length f1, .slice P2 tr.length f2, .slice P3 sw.length f3, .bool hi] from Blk.below (by repeat (first | with_reducible exact bP7.out | with_reducible refine Blk.drewN ?_ _ | with_reducible refine Blk.drewR ?_ | with_reducible refine Blk.alloc ?_ _)) hb (by have := bP7.out.lt; first | exact this | omega | (simp; omega)))
         have HP8 := Lib.hid (HP7.out.below (show Below w7.heap.size w7 w8 from bl_trans (by repeat (first | with_reducible exact Below.refl _ _ | with_reducible refine Below.drew ?_ | with_reducible refine bl_drewN ?_ _ | with_reducible refine bl_alloc ?_ _)) hb))
         have HX8 := Lib.hid (HX7.out.below (show Below w7.heap.size w7 w8 from bl_trans (by repeat (first | with_reducible exact Below.refl _ _ | with_reducible refine Below.drew ?_ | with_reducible refine bl_drewN ?_ _ | with_reducible refine bl_alloc ?_ _)) hb))
         have Oy8 := Lib.hid (OwnZ.below (w := w7) Oy7.out (show Below w7.heap.size w7 w8 from bl_trans (by repeat (first | with_reducible exact Below.refl _ _ | with_reducible refine Below.drew ?_ | with_reducible refine bl_drewN ?_ _ | with_reducible refine bl_alloc ?_ _)) hb))
         have OP1x8 := Lib.hid (OwnZ.below (w := w7) OP1x7.out (show Below w7.heap.size w7 w8 from bl_trans (by repeat (first | with_reducible exact Below.refl _ _ | with_reducible refine Below.drew ?_ | with_reducible refine bl_drewN ?_ _ | with_reducible refine bl_alloc ?_ _)) hb))
         have OP2x8 := Lib.hid (OwnZ.below (w := w7) OP2x7.out (show Below w7.heap.size w7 w8 from bl_trans (by repeat (first | with_reducible exact Below.refl _ _ | with_reducible refine Below.drew ?_ | with_reducible refine bl_drewN ?_ _ | with_reducible refine bl_alloc ?_ _)) hb))
         have OP3x8 := Lib.hid (OwnZ.below (w := w7) OP3x7.out (show Below w7.heap.size w7 w8 from bl_trans (by repeat (first | with_reducible exact Below.refl _ _ | with_reducible refine Below.drew ?_ | with_reducible refine bl_drewN ?_ _ | with_reducible refine bl_alloc ?_ _)) hb))
         have Og8 := Lib.hid (OwnZ.below (w := w7) Og7.out (show Below w7.heap.size w7 w8 from bl_trans (by repeat (first | with_reducible exact Below.refl _ _ | with_reducible refine Below.drew ?_ | with_reducible refine bl_drewN ?_ _ | with_reducible refine bl_alloc ?_ _)) hb))
         have cA := bA8.out.cell
         have cP := bP8.out.cell
         have hS8 := (And.intro (Blk.four bA8.out) (Blk.four bP8.out))
         clear hb)))
  have cA := bA8.out.cell
  have cP := bP8.out.cell
  clear HX8
  go_wp2_with fail
  refine (markRun_own _ w3.heap.size t1 t2 w4.heap.size P1 f1 P2 f2 P3 f3 hi en tr sw 1 OP1x8.out OP2x8.out OP3x8.out HLP.out.1 HLP.out.2.1 HLP.out.2.2 h12 h23 h34 (by omega) (by have := L1.out; omega) (by have := L2.out; omega) (by have := L3.out; omega) (by omega)).mono ?_
  rintro e w9 ⟨⟨z, rfl⟩, hb, hsj, hup, hdn⟩
  have HB9 := Lib.hid (bl_trans2 HB8.out (bl_less hb (by omega)))
  have Oy9 := Lib.hid (hdn _ _ _ (fun k e => by have := (HMy.out k e).2; omega) Oy8.out)
  have Og9 := Lib.hid (hup _ _ Og8.out)
  have bA9 := Lib.hid (show Blk w9 (w.heap.size) 50 #[.slice A1 n1 c1, .slice A2 n2 c2, .slice A3 n3 c3, .bool hi] from bA8.out.below hb (by omega))
  clear hb hup hdn HB8 Oy8 Og8 bA8 bP8 HP8 OP1x8 OP2x8 OP3x8 cA cP
  have hs9 : w8.heap.size ≤ w9.heap.size := hsj
  have dz : ¬ ((z : Nat) : Int) < 0 := by omega
  have cA := bA9.out.cell
  go_wp2_with fail
  refine (eqIntS_any _ Ag Ay _ cg cy us Og9.out.reads Oy9.out.reads (by omega)).mono ?_
  rintro e w10 ⟨rfl, hb⟩
  have HB10 := Lib.hid (show Below w.heap.size w w10 from bl_trans (by repeat (first | with_reducible exact HB9.out | with_reducible refine Below.drew ?_ | with_reducible refine bl_drewN ?_ _ | with_reducible refine bl_alloc ?_ _)) hb)
  have hs10 : w9.heap.size ≤ w10.heap.size := by have := hb.size; (try simp at this); omega
  have bA10 := Lib.hid (show Blk w10 (w.heap.size) 50 #[.slice A1 n1 c1, .slice A2 n2 c2, .slice A3 n3 c3, .bool hi] from Blk.below (by repeat (first | with_reducible exact bA9.out | with_reducible refine Blk.drewN ?_ _ | with_reducible refine Blk.drewR ?_ | with_reducible refine Blk.alloc ?_ _)) hb (by have := bA9.out.lt; first | exact this | omega | (simp; omega)))
  have Oy10 := Lib.hid (OwnZ.below (w := w9) Oy9.out (show Below w9.heap.size w9 w10 from bl_trans (by repeat (first | with_reducible exact Below.refl _ _ | with_reducible refine Below.drew ?_ | with_reducible refine bl_drewN ?_ _ | with_reducible refine bl_alloc ?_ _)) hb))
  have Og10 := Lib.hid (OwnZ.below (w := w9) Og9.out (show Below w9.heap.size w9 w10 from bl_trans (by repeat (first | with_reducible exact Below.refl _ _ | with_reducible refine Below.drew ?_ | with_reducible refine bl_drewN ?_ _ | with_reducible refine bl_alloc ?_ _)) hb))
  clear hb  bA9 Oy9 Og9 HB9 cA
  have cA := bA10.out.cell
  go_wp2_with fail
  refine (markZ_own _ _ Ag cg 1 us Og10.out (by omega) (by omega)).mono ?_
  rintro e w11 ⟨rfl, ho, hg⟩
  have Og11 := Lib.hid ho
  have HB11 := Lib.hid (HB10.out.grown hg HB10.out.size (fun q e => by have := (World.ownsRow.lt Og10.out q e).1; omega))
  have hs11 : w10.heap.size ≤ w11.heap.size := hg.size
  have Oy11 := Lib.hid (Oy10.out.kept_dn hg (M := w3.heap.size) (fun q e => by have := (HMy.out q e).2; omega) (fun q e => by have := (HMg.out q e).1; omega))
  have bA11 := Lib.hid (show Blk w11 (w.heap.size) 50 #[.slice A1 n1 c1, .slice A2 n2 c2, .slice A3 n3 c3, .bool hi] from bA10.out.grown hg (fun e => by have := (HMg.out _ e.symm).1; omega))
  clear ho hg HB10 Oy10 Og10 bA10 cA
  have cA := bA11.out.cell
  go_wp2_with fail
  refine (heldZ_any w11 Ag us.length cg 1 (OwnZ.readsM Og11.out (marksZ_len _ _)) (by omega) (by omega)).mono ?_
  rintro e w0 ⟨rfl, rfl⟩
  go_wp2_with fail
  refine (toRun_any _ A1 n1 c1 A2 n2 c2 A3 n3 c3 hi en tr sw (H.out.below (by repeat (first | with_reducible exact HB11.out | with_reducible refine Below.drew ?_ | with_reducible refine bl_drewN ?_ _ | with_reducible refine bl_alloc ?_ _))) k1 k2 k3).mono ?_
  rintro e w12 ⟨X1, d1, X2, d2, X3, d3, s1, s2, rfl, o1, o2, o3, _, _, _, _, hb⟩
  have HB12 := Lib.hid (show Below w.heap.size w w12 from bl_trans (by repeat (first | with_reducible exact HB11.out | with_reducible refine Below.drew ?_ | with_reducible refine bl_drewN ?_ _ | with_reducible refine bl_alloc ?_ _)) hb)
  have hs12 : w11.heap.size ≤ w12.heap.size := by have := hb.size; (try simp at this); omega
  have bA12 := Lib.hid (show Blk w12 (w.heap.size) 50 #[.slice A1 n1 c1, .slice A2 n2 c2, .slice A3 n3 c3, .bool hi] from Blk.below (by repeat (first | with_reducible exact bA11.out | with_reducible refine Blk.drewN ?_ _ | with_reducible refine Blk.drewR ?_ | with_reducible refine Blk.alloc ?_ _)) hb (by have := bA11.out.lt; first | exact this | omega | (simp; omega)))
  have Oy12 := Lib.hid (OwnZ.below (w := w11) Oy11.out (show Below w11.heap.size w11 w12 from bl_trans (by repeat (first | with_reducible exact Below.refl _ _ | with_reducible refine Below.drew ?_ | with_reducible refine bl_drewN ?_ _ | with_reducible refine bl_alloc ?_ _)) hb))
  have Og12 := Lib.hid (OwnZ.below (w := w11) Og11.out (show Below w11.heap.size w11 w12 from bl_trans (by repeat (first | with_reducible exact Below.refl _ _ | with_reducible refine Below.drew ?_ | with_reducible refine bl_drewN ?_ _ | with_reducible refine bl_alloc ?_ _)) hb))
  have HX12 := Lib.hid (RnCopy.reads o1 o2 o3)
  clear o1 o2 o3
  clear hb  bA11 Oy11 Og11 HB11 cA
  have cA := bA12.out.cell
  go_wp2_with fail
  refine (iDrop_at _ X1 _ d1 X2 _ d2 X3 _ d3 hi en us (HX12.out.below (by repeat (first | with_reducible exact Below.refl _ _ | with_reducible refine Below.drew ?_ | with_reducible refine bl_drewN ?_ _ | with_reducible refine bl_alloc ?_ _))).e (by have := L1.out; omega) HU.out).mono ?_
  rintro e w13 ⟨Ah, ch, rfl, ho, hb⟩
  have HB13 := Lib.hid (show Below w.heap.size w w13 from bl_trans (by repeat (first | with_reducible exact HB12.out | with_reducible refine Below.drew ?_ | with_reducible refine bl_drewN ?_ _ | with_reducible refine bl_alloc ?_ _)) hb)
  have hs13 : w12.heap.size ≤ w13.heap.size := by have := hb.size; (try simp at this); omega
  have bA13 := Lib.hid (show Blk w13 (w.heap.size) 50 #[.slice A1 n1 c1, .slice A2 n2 c2, .slice A3 n3 c3, .bool hi] from Blk.below (by repeat (first | with_reducible exact bA12.out | with_reducible refine Blk.drewN ?_ _ | with_reducible refine Blk.drewR ?_ | with_reducible refine Blk.alloc ?_ _)) hb (by have := bA12.out.lt; first | exact this | omega | (simp; omega)))
  have HX13 := Lib.hid (HX12.out.below (show Below w12.heap.size w12 w13 from bl_trans (by repeat (first | with_reducible exact Below.refl _ _ | with_reducible refine Below.drew ?_ | with_reducible refine bl_drewN ?_ _ | with_reducible refine bl_alloc ?_ _)) hb))
  have Oy13 := Lib.hid (OwnZ.below (w := w12) Oy12.out (show Below w12.heap.size w12 w13 from bl_trans (by repeat (first | with_reducible exact Below.refl _ _ | with_reducible refine Below.drew ?_ | with_reducible refine bl_drewN ?_ _ | with_reducible refine bl_alloc ?_ _)) hb))
  have Og13 := Lib.hid (OwnZ.below (w := w12) Og12.out (show Below w12.heap.size w12 w13 from bl_trans (by repeat (first | with_reducible exact Below.refl _ _ | with_reducible refine Below.drew ?_ | with_reducible refine bl_drewN ?_ _ | with_reducible refine bl_alloc ?_ _)) hb))
  have Oh13 := Lib.hid ho
  clear ho
  clear hb  bA12 HX12 Oy12 Og12 HB12 cA
  have cA := bA13.out.cell
  clear HX13
  go_wp2_with fail
  refine (eqIntS_any _ Ah Ay _ ch cy us Oh13.out.reads Oy13.out.reads (by omega)).mono ?_
  rintro e w14 ⟨rfl, hb⟩
  have HB14 := Lib.hid (show Below w.heap.size w w14 from bl_trans (by repeat (first | with_reducible exact HB13.out | with_reducible refine Below.drew ?_ | with_reducible refine bl_drewN ?_ _ | with_reducible refine bl_alloc ?_ _)) hb)
  have hs14 : w13.heap.size ≤ w14.heap.size := by have := hb.size; (try simp at this); omega
  have bA14 := Lib.hid (show Blk w14 (w.heap.size) 50 #[.slice A1 n1 c1, .slice A2 n2 c2, .slice A3 n3 c3, .bool hi] from Blk.below (by repeat (first | with_reducible exact bA13.out | with_reducible refine Blk.drewN ?_ _ | with_reducible refine Blk.drewR ?_ | with_reducible refine Blk.alloc ?_ _)) hb (by have := bA13.out.lt; first | exact this | omega | (simp; omega)))
  have Oy14 := Lib.hid (OwnZ.below (w := w13) Oy13.out (show Below w13.heap.size w13 w14 from bl_trans (by repeat (first | with_reducible exact Below.refl _ _ | with_reducible refine Below.drew ?_ | with_reducible refine bl_drewN ?_ _ | with_reducible refine bl_alloc ?_ _)) hb))
  have Og14 := Lib.hid (OwnZ.below (w := w13) Og13.out (show Below w13.heap.size w13 w14 from bl_trans (by repeat (first | with_reducible exact Below.refl _ _ | with_reducible refine Below.drew ?_ | with_reducible refine bl_drewN ?_ _ | with_reducible refine bl_alloc ?_ _)) hb))
  have Oh14 := Lib.hid (OwnZ.below (w := w13) Oh13.out (show Below w13.heap.size w13 w14 from bl_trans (by repeat (first | with_reducible exact Below.refl _ _ | with_reducible refine Below.drew ?_ | with_reducible refine bl_drewN ?_ _ | with_reducible refine bl_alloc ?_ _)) hb))
  clear hb  bA13 Oy13 Og13 Oh13 HB13 cA
  have cA := bA14.out.cell
  go_wp2_with fail
  refine (heldZ_any w14 Ag us.length cg 1 (OwnZ.readsM Og14.out (marksZ_len _ _)) (by omega) (by omega)).mono ?_
  rintro e w0 ⟨rfl, rfl⟩
  go_wp2
  go_ret
  exact ⟨rfl, (by repeat (first | with_reducible exact HB14.out | with_reducible refine Below.drew ?_ | with_reducible refine bl_drewN ?_ _ | with_reducible refine bl_alloc ?_ _))⟩

end Go.Proofs.Ytjondedkgkohfaa
