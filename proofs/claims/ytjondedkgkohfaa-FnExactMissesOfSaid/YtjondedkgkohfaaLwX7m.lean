/- The walk of the exact law of MissesOf. -/
import Derived.Test.YtjondedkgkohfaaRnN
import Derived.Test.YtjondedkgkohfaaMX
import Derived.Deep.RegionWith
import Derived.Deep.RegionHeld3
namespace Go.Proofs.Ytjondedkgkohfaa
open Go.RowKit
set_option linter.unusedVariables false

def JbsAt (w : World) (A : Option Addr) (n : Nat) (js : List Jb) : Prop := Jbs w w.heap.size A n js
theorem JbsAt.below {w w' : World} {A : Option Addr} {n : Nat} {js : List Jb} (h : JbsAt w A n js) (hb : Below w.heap.size w w') : JbsAt w' A n js := (Jbs.below h hb).more hb.size
def TksAt (w : World) (A : Option Addr) (n : Nat) (ts : List Tk) : Prop := Tks w w.heap.size A n ts
theorem TksAt.below {w w' : World} {A : Option Addr} {n : Nat} {ts : List Tk} (h : TksAt w A n ts) (hb : Below w.heap.size w w') : TksAt w' A n ts := (Tks.below h hb).more hb.size
theorem OwnZ.readsM {w : World} {B : Nat} {A : Option Addr} {n c : Nat} {zs : List Int} (h : OwnZ w B (.slice A n c) zs) (hn : zs.length = n) : Zs w w.heap.size A n zs := by
  subst hn
  exact h.reads
theorem bl_trans2 {B : Nat} {a b c : World} (h : Below B a b) (k : Below B b c) : Below B a c := h.trans k

set_option maxRecDepth 100000 in
set_option maxHeartbeats 8000000 in
theorem fnExactMissesOf_walk (w : World) (At : Option Addr) (nt ct : Nat) (ts : List Tk) (ht : Tks w w.heap.size At nt ts) (htmax : nt ≤ 9223372036854775807) (Aj : Option Addr) (nj cj : Nat) (js : List Jb) (hj : Jbs w w.heap.size Aj nj js) (hjmax : nj ≤ 9223372036854775807) (A1 : Option Addr) (n1 c1 : Nat) (A2 : Option Addr) (n2 c2 : Nat) (A3 : Option Addr) (n3 c3 : Nat) (hi : Bool) (en tr sw : List Int)
    (h : RnAt w A1 n1 A2 n2 A3 n3 en tr sw) (m1 : n1 ≤ 9223372036854775807) (m2 : n2 ≤ 9223372036854775807) (m3 : n3 ≤ 9223372036854775807) :
    Calls Try.prog 12 #[.slice At nt ct, .slice Aj nj cj, .agg #[.slice A1 n1 c1, .slice A2 n2 c2, .slice A3 n3 c3, .bool hi]] w fun e w' => e = .returned (.bool true) ∧ Below w.heap.size w w' := by
  have H := Lib.hid h
  have L1 := Lib.hid h.e.len
  have L2 := Lib.hid h.t.len
  have L3 := Lib.hid h.s.len
  clear h
  obtain ⟨us, hu⟩ : ∃ us, missV ts js en tr.length = us := ⟨_, rfl⟩
  have hul0 : us.length ≤ js.length := by
    rw [← hu]; unfold missV; split
    · exact places_len _ _
    · exact Nat.zero_le _
  have HUL := Lib.hid hul0
  have HU := Lib.hid hu
  clear hu hul0
  have HTw := Lib.hid (show TksAt w At nt ts from ht)
  have HJw := Lib.hid (show JbsAt w Aj nj js from hj)
  have LT := Lib.hid ht.len
  have LJ := Lib.hid hj.len
  clear ht hj
  by_cases hnt : 1048576 < nt
  · go_enter Try.func12, Try.ntmps12
    go_wp2_with fail
    refine (sz_any _ At nt ct htmax).mono ?_
    rintro e w1 ⟨rfl, rfl⟩
    rw [if_pos (by omega)]
    go_wp2
    go_ret
    exact ⟨rfl, bl_alloc (Below.refl _ _) _⟩
  by_cases hnj : (1048576 : Int) - (nt : Int) < (nj : Int)
  · go_enter Try.func12, Try.ntmps12
    go_wp2_with fail
    refine (sz_any _ At nt ct htmax).mono ?_
    rintro e w1 ⟨rfl, rfl⟩
    rw [if_neg (by omega)]
    go_wp2_with fail
    refine (szJ_any _ Aj nj cj hjmax (1048576 - (nt : Int)) (by omega) (by omega)).mono ?_
    rintro e w1 ⟨rfl, rfl⟩
    rw [if_pos (by omega)]
    go_wp2
    go_ret
    exact ⟨rfl, bl_alloc (Below.refl _ _) _⟩
  have knt : nt ≤ 1048576 := by omega
  have knj : nj ≤ 1048576 := by omega
  have htl : ts.length ≤ 1048576 := by rw [LT.out]; exact knt
  have hjl : js.length ≤ 1048576 := by rw [LJ.out]; exact knj
  have hul : us.length ≤ 1048576 := by have := HUL.out; omega
  go_enter Try.func12, Try.ntmps12
  go_wp2_with fail
  refine (sz_any _ At nt ct htmax).mono ?_
  rintro e w1 ⟨rfl, rfl⟩
  rw [if_neg (by omega)]
  go_wp2_with fail
  refine (szJ_any _ Aj nj cj hjmax (1048576 - (nt : Int)) (by omega) (by omega)).mono ?_
  rintro e w1 ⟨rfl, rfl⟩
  rw [if_neg (by omega)]
  go_wp2_with fail
  refine (szRun_any _ A1 n1 c1 A2 n2 c2 A3 n3 c3 hi m1 m2 m3 _ (by omega) (by omega)).mono ?_
  rintro e w1 ⟨⟨z0, rfl, hz⟩, hb⟩
  have HB1 := Lib.hid (show Below w.heap.size w w1 from bl_trans (by repeat (first | with_reducible exact Below.refl _ _ | with_reducible refine Below.drew ?_ | with_reducible refine bl_drewN ?_ _ | with_reducible refine bl_alloc ?_ _)) hb)
  have hs1 : w.heap.size ≤ w1.heap.size := by have := hb.size; (try simp at this); omega
  have bA1 := Lib.hid (show Blk w1 (w.heap.size) 50 #[.slice A1 n1 c1, .slice A2 n2 c2, .slice A3 n3 c3, .bool hi] from Blk.below (by have hh := Blk.new (w) 50 #[.slice A1 n1 c1, .slice A2 n2 c2, .slice A3 n3 c3, .bool hi]; (try simp only [World.size_alloc] at hh); repeat (first | exact hh | with_reducible refine Blk.drewN ?_ _ | with_reducible refine Blk.drewR ?_ | with_reducible refine Blk.alloc ?_ _)) hb (by first | omega | (simp; done) | (simp; omega)))
  clear hb  
  have cA := bA1.out.cell
  rcases hz with ⟨hz, rfl⟩ | ⟨hz, rfl⟩
  · go_wp2
    go_ret
    exact ⟨rfl, HB1.out⟩
  have d1 : ¬ (1048576 : Int) - (nt : Int) - (nj : Int) - ((n1 + n2 + n3 : Nat) : Int) < 0 := by omega
  have k1 : n1 ≤ 1048576 := by omega
  have k2 : n2 ≤ 1048576 := by omega
  have k3 : n3 ≤ 1048576 := by omega
  clear hz
  have hA : w.heap.size < w1.heap.size := bA1.out.lt
  have hS1 := (Blk.four bA1.out)
  go_wp2_with fail
  go_region_held3 (fun W => (W.cell? ⟨w.heap.size, 0, none⟩ = some (.slice A1 n1 c1) ∧ W.cell? ⟨w.heap.size, 1, none⟩ = some (.slice A2 n2 c2) ∧ W.cell? ⟨w.heap.size, 2, none⟩ = some (.slice A3 n3 c3) ∧ W.cell? ⟨w.heap.size, 3, none⟩ = some (.bool hi))) (first | exact hS1 | exact hS2 | exact hS3 | exact hS4 | exact hS5)
    ((first
      | (go_at_call 44
         refine (toTaskS_any _ At nt ct ts (HTw.out.below (by repeat (first | with_reducible exact HB1.out | with_reducible refine Below.drew ?_ | with_reducible refine bl_drewN ?_ _ | with_reducible refine bl_alloc ?_ _))) knt).mono ?_
         rintro e w2 ⟨u, cu, rfl, ho, hb⟩
         have HB2 := Lib.hid (show Below w.heap.size w w2 from bl_trans (by repeat (first | with_reducible exact HB1.out | with_reducible refine Below.drew ?_ | with_reducible refine bl_drewN ?_ _ | with_reducible refine bl_alloc ?_ _)) hb)
         have hs2 : w1.heap.size ≤ w2.heap.size := by have := hb.size; (try simp at this); omega
         have bA2 := Lib.hid (show Blk w2 (w.heap.size) 50 #[.slice A1 n1 c1, .slice A2 n2 c2, .slice A3 n3 c3, .bool hi] from Blk.below (by repeat (first | with_reducible exact bA1.out | with_reducible refine Blk.drewN ?_ _ | with_reducible refine Blk.drewR ?_ | with_reducible refine Blk.alloc ?_ _)) hb (by have := bA1.out.lt; first | exact this | omega | (simp; omega)))
         have Hu2 := Lib.hid (show TksAt w2 _ _ ts from ho.reads.2)
         clear ho
         have cA := bA2.out.cell
         have hS2 := (Blk.four bA2.out)
         clear hb)
      | (go_at_call 45
         refine (toJobS_any _ Aj nj cj js (HJw.out.below (by repeat (first | with_reducible exact HB2.out | with_reducible refine Below.drew ?_ | with_reducible refine bl_drewN ?_ _ | with_reducible refine bl_alloc ?_ _))) knj).mono ?_
         rintro e w3 ⟨v, rfl, ho, hb⟩
         have HB3 := Lib.hid (show Below w.heap.size w w3 from bl_trans (by repeat (first | with_reducible exact HB2.out | with_reducible refine Below.drew ?_ | with_reducible refine bl_drewN ?_ _ | with_reducible refine bl_alloc ?_ _)) hb)
         have hs3 : w2.heap.size ≤ w3.heap.size := by have := hb.size; (try simp at this); omega
         have bA3 := Lib.hid (show Blk w3 (w.heap.size) 50 #[.slice A1 n1 c1, .slice A2 n2 c2, .slice A3 n3 c3, .bool hi] from Blk.below (by repeat (first | with_reducible exact bA2.out | with_reducible refine Blk.drewN ?_ _ | with_reducible refine Blk.drewR ?_ | with_reducible refine Blk.alloc ?_ _)) hb (by have := bA2.out.lt; first | exact this | omega | (simp; omega)))
         have Hu3 := Lib.hid (Hu2.out.below (show Below w2.heap.size w2 w3 from bl_trans (by repeat (first | with_reducible exact Below.refl _ _ | with_reducible refine Below.drew ?_ | with_reducible refine bl_drewN ?_ _ | with_reducible refine bl_alloc ?_ _)) hb))
         have Hv3 := Lib.hid (show JbsAt w3 _ _ js from ho.reads.2)
         clear ho
         have cA := bA3.out.cell
         have hS3 := (Blk.four bA3.out)
         clear hb)
      | (go_at_call 40
         refine (toRun_any _ A1 n1 c1 A2 n2 c2 A3 n3 c3 hi en tr sw (H.out.below (by repeat (first | with_reducible exact HB3.out | with_reducible refine Below.drew ?_ | with_reducible refine bl_drewN ?_ _ | with_reducible refine bl_alloc ?_ _))) k1 k2 k3).mono ?_
         rintro e w4 ⟨X1, d1, X2, d2, X3, d3, s1, s2, rfl, o1, o2, o3, _, _, _, _, hb⟩
         have HB4 := Lib.hid (show Below w.heap.size w w4 from bl_trans (by repeat (first | with_reducible exact HB3.out | with_reducible refine Below.drew ?_ | with_reducible refine bl_drewN ?_ _ | with_reducible refine bl_alloc ?_ _)) hb)
         have hs4 : w3.heap.size ≤ w4.heap.size := by have := hb.size; (try simp at this); omega
         have bA4 := Lib.hid (show Blk w4 (w.heap.size) 50 #[.slice A1 n1 c1, .slice A2 n2 c2, .slice A3 n3 c3, .bool hi] from Blk.below (by repeat (first | with_reducible exact bA3.out | with_reducible refine Blk.drewN ?_ _ | with_reducible refine Blk.drewR ?_ | with_reducible refine Blk.alloc ?_ _)) hb (by have := bA3.out.lt; first | exact this | omega | (simp; omega)))
         have Hu4 := Lib.hid (Hu3.out.below (show Below w3.heap.size w3 w4 from bl_trans (by repeat (first | with_reducible exact Below.refl _ _ | with_reducible refine Below.drew ?_ | with_reducible refine bl_drewN ?_ _ | with_reducible refine bl_alloc ?_ _)) hb))
         have Hv4 := Lib.hid (Hv3.out.below (show Below w3.heap.size w3 w4 from bl_trans (by repeat (first | with_reducible exact Below.refl _ _ | with_reducible refine Below.drew ?_ | with_reducible refine bl_drewN ?_ _ | with_reducible refine bl_alloc ?_ _)) hb))
         have HX4 := Lib.hid (RnCopy.reads o1 o2 o3)
         clear o1 o2 o3
         have cA := bA4.out.cell
         have hS4 := (Blk.four bA4.out)
         clear hb)
      | (go_at_call 20
         refine (sMiss_is _ u _ cu ts (Hu4.out.below (by repeat (first | with_reducible exact Below.refl _ _ | with_reducible refine Below.drew ?_ | with_reducible refine bl_drewN ?_ _ | with_reducible refine bl_alloc ?_ _))) (by omega) (some ⟨v, 0, none⟩) _ _ js (Hv4.out.below (by repeat (first | with_reducible exact Below.refl _ _ | with_reducible refine Below.drew ?_ | with_reducible refine bl_drewN ?_ _ | with_reducible refine bl_alloc ?_ _))) X1 _ d1 X2 _ d2 X3 _ d3 hi en (HX4.out.below (by repeat (first | with_reducible exact Below.refl _ _ | with_reducible refine Below.drew ?_ | with_reducible refine bl_drewN ?_ _ | with_reducible refine bl_alloc ?_ _))).e us HU.out).mono ?_
         rintro e w5 ⟨Ay, cy, rfl, ho, hb⟩
         have HB5 := Lib.hid (show Below w.heap.size w w5 from bl_trans (by repeat (first | with_reducible exact HB4.out | with_reducible refine Below.drew ?_ | with_reducible refine bl_drewN ?_ _ | with_reducible refine bl_alloc ?_ _)) hb)
         have hs5 : w4.heap.size ≤ w5.heap.size := by have := hb.size; (try simp at this); omega
         have bA5 := Lib.hid (show Blk w5 (w.heap.size) 50 #[.slice A1 n1 c1, .slice A2 n2 c2, .slice A3 n3 c3, .bool hi] from Blk.below (by repeat (first | with_reducible exact bA4.out | with_reducible refine Blk.drewN ?_ _ | with_reducible refine Blk.drewR ?_ | with_reducible refine Blk.alloc ?_ _)) hb (by have := bA4.out.lt; first | exact this | omega | (simp; omega)))
         have Hu5 := Lib.hid (Hu4.out.below (show Below w4.heap.size w4 w5 from bl_trans (by repeat (first | with_reducible exact Below.refl _ _ | with_reducible refine Below.drew ?_ | with_reducible refine bl_drewN ?_ _ | with_reducible refine bl_alloc ?_ _)) hb))
         have Hv5 := Lib.hid (Hv4.out.below (show Below w4.heap.size w4 w5 from bl_trans (by repeat (first | with_reducible exact Below.refl _ _ | with_reducible refine Below.drew ?_ | with_reducible refine bl_drewN ?_ _ | with_reducible refine bl_alloc ?_ _)) hb))
         have HX5 := Lib.hid (HX4.out.below (show Below w4.heap.size w4 w5 from bl_trans (by repeat (first | with_reducible exact Below.refl _ _ | with_reducible refine Below.drew ?_ | with_reducible refine bl_drewN ?_ _ | with_reducible refine bl_alloc ?_ _)) hb))
         have Oy5 := Lib.hid ho
         have HMy := Lib.hid (World.ownsRow.lt ho)
         clear ho
         have cA := bA5.out.cell
         have hS5 := (Blk.four bA5.out)
         clear hb)))
  have cA := bA5.out.cell
  clear Hu5 Hv5 HX5
  go_wp2_with fail
  refine (toTaskS_any _ At nt ct ts (HTw.out.below (by repeat (first | with_reducible exact HB5.out | with_reducible refine Below.drew ?_ | with_reducible refine bl_drewN ?_ _ | with_reducible refine bl_alloc ?_ _))) knt).mono ?_
  rintro e w6 ⟨xx, cxx, rfl, ho, hb⟩
  have HB6 := Lib.hid (show Below w.heap.size w w6 from bl_trans (by repeat (first | with_reducible exact HB5.out | with_reducible refine Below.drew ?_ | with_reducible refine bl_drewN ?_ _ | with_reducible refine bl_alloc ?_ _)) hb)
  have hs6 : w5.heap.size ≤ w6.heap.size := by have := hb.size; (try simp at this); omega
  have bA6 := Lib.hid (show Blk w6 (w.heap.size) 50 #[.slice A1 n1 c1, .slice A2 n2 c2, .slice A3 n3 c3, .bool hi] from Blk.below (by repeat (first | with_reducible exact bA5.out | with_reducible refine Blk.drewN ?_ _ | with_reducible refine Blk.drewR ?_ | with_reducible refine Blk.alloc ?_ _)) hb (by have := bA5.out.lt; first | exact this | omega | (simp; omega)))
  have Oy6 := Lib.hid (OwnZ.below (w := w5) Oy5.out (show Below w5.heap.size w5 w6 from bl_trans (by repeat (first | with_reducible exact Below.refl _ _ | with_reducible refine Below.drew ?_ | with_reducible refine bl_drewN ?_ _ | with_reducible refine bl_alloc ?_ _)) hb))
  have Hxx6 := Lib.hid (show TksAt w6 _ _ ts from ho.reads.2)
  have Ox6 := Lib.hid ho
  have HMx := Lib.hid (World.ownsRow.lt ho)
  clear ho
  clear hb  bA5 Oy5 HB5 cA
  have cA := bA6.out.cell
  go_wp2_with fail
  refine (toJobS_any _ Aj nj cj js (HJw.out.below (by repeat (first | with_reducible exact HB6.out | with_reducible refine Below.drew ?_ | with_reducible refine bl_drewN ?_ _ | with_reducible refine bl_alloc ?_ _))) knj).mono ?_
  rintro e w7 ⟨jj, rfl, ho, hb⟩
  have HB7 := Lib.hid (show Below w.heap.size w w7 from bl_trans (by repeat (first | with_reducible exact HB6.out | with_reducible refine Below.drew ?_ | with_reducible refine bl_drewN ?_ _ | with_reducible refine bl_alloc ?_ _)) hb)
  have hs7 : w6.heap.size ≤ w7.heap.size := by have := hb.size; (try simp at this); omega
  have bA7 := Lib.hid (show Blk w7 (w.heap.size) 50 #[.slice A1 n1 c1, .slice A2 n2 c2, .slice A3 n3 c3, .bool hi] from Blk.below (by repeat (first | with_reducible exact bA6.out | with_reducible refine Blk.drewN ?_ _ | with_reducible refine Blk.drewR ?_ | with_reducible refine Blk.alloc ?_ _)) hb (by have := bA6.out.lt; first | exact this | omega | (simp; omega)))
  have Hxx7 := Lib.hid (Hxx6.out.below (show Below w6.heap.size w6 w7 from bl_trans (by repeat (first | with_reducible exact Below.refl _ _ | with_reducible refine Below.drew ?_ | with_reducible refine bl_drewN ?_ _ | with_reducible refine bl_alloc ?_ _)) hb))
  have Oy7 := Lib.hid (OwnZ.below (w := w6) Oy6.out (show Below w6.heap.size w6 w7 from bl_trans (by repeat (first | with_reducible exact Below.refl _ _ | with_reducible refine Below.drew ?_ | with_reducible refine bl_drewN ?_ _ | with_reducible refine bl_alloc ?_ _)) hb))
  have Ox7 := Lib.hid (Own.below (w := w6) Ox6.out (show Below w6.heap.size w6 w7 from bl_trans (by repeat (first | with_reducible exact Below.refl _ _ | with_reducible refine Below.drew ?_ | with_reducible refine bl_drewN ?_ _ | with_reducible refine bl_alloc ?_ _)) hb))
  have Hjj7 := Lib.hid (show JbsAt w7 _ _ js from ho.reads.2)
  have Oj7 := Lib.hid ho
  have HMj := Lib.hid (World.ownsRow.lt ho)
  clear ho
  clear hb  bA6 Hxx6 Oy6 Ox6 HB6 cA
  have cA := bA7.out.cell
  go_wp2_with fail
  refine (toRun_any _ A1 n1 c1 A2 n2 c2 A3 n3 c3 hi en tr sw (H.out.below (by repeat (first | with_reducible exact HB7.out | with_reducible refine Below.drew ?_ | with_reducible refine bl_drewN ?_ _ | with_reducible refine bl_alloc ?_ _))) k1 k2 k3).mono ?_
  rintro e w8 ⟨P1, f1, P2, f2, P3, f3, t1, t2, rfl, o1, o2, o3, l1, l2, h12, ⟨h23, h34⟩, hb⟩
  have HB8 := Lib.hid (show Below w.heap.size w w8 from bl_trans (by repeat (first | with_reducible exact HB7.out | with_reducible refine Below.drew ?_ | with_reducible refine bl_drewN ?_ _ | with_reducible refine bl_alloc ?_ _)) hb)
  have hs8 : w7.heap.size ≤ w8.heap.size := by have := hb.size; (try simp at this); omega
  have bA8 := Lib.hid (show Blk w8 (w.heap.size) 50 #[.slice A1 n1 c1, .slice A2 n2 c2, .slice A3 n3 c3, .bool hi] from Blk.below (by repeat (first | with_reducible exact bA7.out | with_reducible refine Blk.drewN ?_ _ | with_reducible refine Blk.drewR ?_ | with_reducible refine Blk.alloc ?_ _)) hb (by have := bA7.out.lt; first | exact this | omega | (simp; omega)))
  have Hxx8 := Lib.hid (Hxx7.out.below (show Below w7.heap.size w7 w8 from bl_trans (by repeat (first | with_reducible exact Below.refl _ _ | with_reducible refine Below.drew ?_ | with_reducible refine bl_drewN ?_ _ | with_reducible refine bl_alloc ?_ _)) hb))
  have Hjj8 := Lib.hid (Hjj7.out.below (show Below w7.heap.size w7 w8 from bl_trans (by repeat (first | with_reducible exact Below.refl _ _ | with_reducible refine Below.drew ?_ | with_reducible refine bl_drewN ?_ _ | with_reducible refine bl_alloc ?_ _)) hb))
  have Oy8 := Lib.hid (OwnZ.below (w := w7) Oy7.out (show Below w7.heap.size w7 w8 from bl_trans (by repeat (first | with_reducible exact Below.refl _ _ | with_reducible refine Below.drew ?_ | with_reducible refine bl_drewN ?_ _ | with_reducible refine bl_alloc ?_ _)) hb))
  have Ox8 := Lib.hid (Own.below (w := w7) Ox7.out (show Below w7.heap.size w7 w8 from bl_trans (by repeat (first | with_reducible exact Below.refl _ _ | with_reducible refine Below.drew ?_ | with_reducible refine bl_drewN ?_ _ | with_reducible refine bl_alloc ?_ _)) hb))
  have Oj8 := Lib.hid (OwnJ.below (w := w7) Oj7.out (show Below w7.heap.size w7 w8 from bl_trans (by repeat (first | with_reducible exact Below.refl _ _ | with_reducible refine Below.drew ?_ | with_reducible refine bl_drewN ?_ _ | with_reducible refine bl_alloc ?_ _)) hb))
  have l3 : ∀ k, (Value.slice P3 sw.length f3).ownBlock = some k → k < w8.heap.size := fun k e => (World.ownsRow.lt o3 k e).2
  have OP1x8 := Lib.hid o1
  have OP2x8 := Lib.hid o2
  have OP3x8 := Lib.hid o3
  have HP8 := Lib.hid (RnCopy.reads o1 o2 o3)
  have HLP := Lib.hid (And.intro l1 (And.intro l2 l3))
  clear o1 o2 o3 l1 l2 l3
  clear hb  bA7 Hxx7 Hjj7 Oy7 Ox7 Oj7 HB7 cA
  have cA := bA8.out.cell
  have xA := (Blk.alloc bA8.out (.cells #[.slice P1 en.length f1, .slice P2 tr.length f2, .slice P3 sw.length f3, .bool hi] 27)).cell
  go_wp2_with fail
  refine (iMiss_is _ xx _ cxx ts (Hxx8.out.below (by repeat (first | with_reducible exact Below.refl _ _ | with_reducible refine Below.drew ?_ | with_reducible refine bl_drewN ?_ _ | with_reducible refine bl_alloc ?_ _))) (by omega) (some ⟨jj, 0, none⟩) _ _ js (Hjj8.out.below (by repeat (first | with_reducible exact Below.refl _ _ | with_reducible refine Below.drew ?_ | with_reducible refine bl_drewN ?_ _ | with_reducible refine bl_alloc ?_ _))) P1 _ f1 P2 _ f2 P3 _ f3 hi en (HP8.out.below (by repeat (first | with_reducible exact Below.refl _ _ | with_reducible refine Below.drew ?_ | with_reducible refine bl_drewN ?_ _ | with_reducible refine bl_alloc ?_ _))).e us HU.out).mono ?_
  rintro e w9 ⟨Ag, cg, rfl, ho, hb⟩
  have HB9 := Lib.hid (show Below w.heap.size w w9 from bl_trans (by repeat (first | with_reducible exact HB8.out | with_reducible refine Below.drew ?_ | with_reducible refine bl_drewN ?_ _ | with_reducible refine bl_alloc ?_ _)) hb)
  have hs9 : w8.heap.size ≤ w9.heap.size := by have := hb.size; (try simp at this); omega
  have bA9 := Lib.hid (show Blk w9 (w.heap.size) 50 #[.slice A1 n1 c1, .slice A2 n2 c2, .slice A3 n3 c3, .bool hi] from Blk.below (by repeat (first | with_reducible exact bA8.out | with_reducible refine Blk.drewN ?_ _ | with_reducible refine Blk.drewR ?_ | with_reducible refine Blk.alloc ?_ _)) hb (by have := bA8.out.lt; first | exact this | omega | (simp; omega)))
  have bP9 := Lib.hid (show Blk w9 (w8.heap.size) 27 #[.slice P1 en.length f1, .slice P2 tr.length f2, .slice P3 sw.length f3, .bool hi] from Blk.below (by have hh := Blk.new (w8) 27 #[.slice P1 en.length f1, .slice P2 tr.length f2, .slice P3 sw.length f3, .bool hi]; (try simp only [World.size_alloc] at hh); repeat (first | exact hh | with_reducible refine Blk.drewN ?_ _ | with_reducible refine Blk.drewR ?_ | with_reducible refine Blk.alloc ?_ _)) hb (by first | omega | (simp; done) | (simp; omega)))
  have Hxx9 := Lib.hid (Hxx8.out.below (show Below w8.heap.size w8 w9 from bl_trans (by repeat (first | with_reducible exact Below.refl _ _ | with_reducible refine Below.drew ?_ | with_reducible refine bl_drewN ?_ _ | with_reducible refine bl_alloc ?_ _)) hb))
  have Hjj9 := Lib.hid (Hjj8.out.below (show Below w8.heap.size w8 w9 from bl_trans (by repeat (first | with_reducible exact Below.refl _ _ | with_reducible refine Below.drew ?_ | with_reducible refine bl_drewN ?_ _ | with_reducible refine bl_alloc ?_ _)) hb))
  have HP9 := Lib.hid (HP8.out.below (show Below w8.heap.size w8 w9 from bl_trans (by repeat (first | with_reducible exact Below.refl _ _ | with_reducible refine Below.drew ?_ | with_reducible refine bl_drewN ?_ _ | with_reducible refine bl_alloc ?_ _)) hb))
  have Oy9 := Lib.hid (OwnZ.below (w := w8) Oy8.out (show Below w8.heap.size w8 w9 from bl_trans (by repeat (first | with_reducible exact Below.refl _ _ | with_reducible refine Below.drew ?_ | with_reducible refine bl_drewN ?_ _ | with_reducible refine bl_alloc ?_ _)) hb))
  have Ox9 := Lib.hid (Own.below (w := w8) Ox8.out (show Below w8.heap.size w8 w9 from bl_trans (by repeat (first | with_reducible exact Below.refl _ _ | with_reducible refine Below.drew ?_ | with_reducible refine bl_drewN ?_ _ | with_reducible refine bl_alloc ?_ _)) hb))
  have Oj9 := Lib.hid (OwnJ.below (w := w8) Oj8.out (show Below w8.heap.size w8 w9 from bl_trans (by repeat (first | with_reducible exact Below.refl _ _ | with_reducible refine Below.drew ?_ | with_reducible refine bl_drewN ?_ _ | with_reducible refine bl_alloc ?_ _)) hb))
  have OP1x9 := Lib.hid (OwnZ.below (w := w8) OP1x8.out (show Below w8.heap.size w8 w9 from bl_trans (by repeat (first | with_reducible exact Below.refl _ _ | with_reducible refine Below.drew ?_ | with_reducible refine bl_drewN ?_ _ | with_reducible refine bl_alloc ?_ _)) hb))
  have OP2x9 := Lib.hid (OwnZ.below (w := w8) OP2x8.out (show Below w8.heap.size w8 w9 from bl_trans (by repeat (first | with_reducible exact Below.refl _ _ | with_reducible refine Below.drew ?_ | with_reducible refine bl_drewN ?_ _ | with_reducible refine bl_alloc ?_ _)) hb))
  have OP3x9 := Lib.hid (OwnZ.below (w := w8) OP3x8.out (show Below w8.heap.size w8 w9 from bl_trans (by repeat (first | with_reducible exact Below.refl _ _ | with_reducible refine Below.drew ?_ | with_reducible refine bl_drewN ?_ _ | with_reducible refine bl_alloc ?_ _)) hb))
  have Og9 := Lib.hid (show OwnZ w9 w8.heap.size _ _ from OwnZ.less ho (by simp))
  have HMg := Lib.hid (World.ownsRow.lt Og9.out)
  clear ho
  clear hb  xA bA8 Hxx8 Hjj8 HP8 Oy8 Ox8 Oj8 OP1x8 OP2x8 OP3x8 HB8 cA
  have cA := bA9.out.cell
  have cP := bP9.out.cell
  go_wp2_with fail
  refine (eqIntS_any _ Ag Ay _ cg cy us Og9.out.reads Oy9.out.reads (by omega)).mono ?_
  rintro e w10 ⟨rfl, hb⟩
  have HB10 := Lib.hid (show Below w.heap.size w w10 from bl_trans (by repeat (first | with_reducible exact HB9.out | with_reducible refine Below.drew ?_ | with_reducible refine bl_drewN ?_ _ | with_reducible refine bl_alloc ?_ _)) hb)
  have hs10 : w9.heap.size ≤ w10.heap.size := by have := hb.size; (try simp at this); omega
  have bA10 := Lib.hid (show Blk w10 (w.heap.size) 50 #[.slice A1 n1 c1, .slice A2 n2 c2, .slice A3 n3 c3, .bool hi] from Blk.below (by repeat (first | with_reducible exact bA9.out | with_reducible refine Blk.drewN ?_ _ | with_reducible refine Blk.drewR ?_ | with_reducible refine Blk.alloc ?_ _)) hb (by have := bA9.out.lt; first | exact this | omega | (simp; omega)))
  have bP10 := Lib.hid (show Blk w10 (w8.heap.size) 27 #[.slice P1 en.length f1, .slice P2 tr.length f2, .slice P3 sw.length f3, .bool hi] from Blk.below (by repeat (first | with_reducible exact bP9.out | with_reducible refine Blk.drewN ?_ _ | with_reducible refine Blk.drewR ?_ | with_reducible refine Blk.alloc ?_ _)) hb (by have := bP9.out.lt; first | exact this | omega | (simp; omega)))
  have Hxx10 := Lib.hid (Hxx9.out.below (show Below w9.heap.size w9 w10 from bl_trans (by repeat (first | with_reducible exact Below.refl _ _ | with_reducible refine Below.drew ?_ | with_reducible refine bl_drewN ?_ _ | with_reducible refine bl_alloc ?_ _)) hb))
  have Hjj10 := Lib.hid (Hjj9.out.below (show Below w9.heap.size w9 w10 from bl_trans (by repeat (first | with_reducible exact Below.refl _ _ | with_reducible refine Below.drew ?_ | with_reducible refine bl_drewN ?_ _ | with_reducible refine bl_alloc ?_ _)) hb))
  have HP10 := Lib.hid (HP9.out.below (show Below w9.heap.size w9 w10 from bl_trans (by repeat (first | with_reducible exact Below.refl _ _ | with_reducible refine Below.drew ?_ | with_reducible refine bl_drewN ?_ _ | with_reducible refine bl_alloc ?_ _)) hb))
  have Oy10 := Lib.hid (OwnZ.below (w := w9) Oy9.out (show Below w9.heap.size w9 w10 from bl_trans (by repeat (first | with_reducible exact Below.refl _ _ | with_reducible refine Below.drew ?_ | with_reducible refine bl_drewN ?_ _ | with_reducible refine bl_alloc ?_ _)) hb))
  have Ox10 := Lib.hid (Own.below (w := w9) Ox9.out (show Below w9.heap.size w9 w10 from bl_trans (by repeat (first | with_reducible exact Below.refl _ _ | with_reducible refine Below.drew ?_ | with_reducible refine bl_drewN ?_ _ | with_reducible refine bl_alloc ?_ _)) hb))
  have Oj10 := Lib.hid (OwnJ.below (w := w9) Oj9.out (show Below w9.heap.size w9 w10 from bl_trans (by repeat (first | with_reducible exact Below.refl _ _ | with_reducible refine Below.drew ?_ | with_reducible refine bl_drewN ?_ _ | with_reducible refine bl_alloc ?_ _)) hb))
  have OP1x10 := Lib.hid (OwnZ.below (w := w9) OP1x9.out (show Below w9.heap.size w9 w10 from bl_trans (by repeat (first | with_reducible exact Below.refl _ _ | with_reducible refine Below.drew ?_ | with_reducible refine bl_drewN ?_ _ | with_reducible refine bl_alloc ?_ _)) hb))
  have OP2x10 := Lib.hid (OwnZ.below (w := w9) OP2x9.out (show Below w9.heap.size w9 w10 from bl_trans (by repeat (first | with_reducible exact Below.refl _ _ | with_reducible refine Below.drew ?_ | with_reducible refine bl_drewN ?_ _ | with_reducible refine bl_alloc ?_ _)) hb))
  have OP3x10 := Lib.hid (OwnZ.below (w := w9) OP3x9.out (show Below w9.heap.size w9 w10 from bl_trans (by repeat (first | with_reducible exact Below.refl _ _ | with_reducible refine Below.drew ?_ | with_reducible refine bl_drewN ?_ _ | with_reducible refine bl_alloc ?_ _)) hb))
  have Og10 := Lib.hid (OwnZ.below (w := w9) Og9.out (show Below w9.heap.size w9 w10 from bl_trans (by repeat (first | with_reducible exact Below.refl _ _ | with_reducible refine Below.drew ?_ | with_reducible refine bl_drewN ?_ _ | with_reducible refine bl_alloc ?_ _)) hb))
  clear hb  bA9 bP9 Hxx9 Hjj9 HP9 Oy9 Ox9 Oj9 OP1x9 OP2x9 OP3x9 Og9 HB9 cA cP
  have cA := bA10.out.cell
  have cP := bP10.out.cell
  go_wp2_with fail
  refine (toTaskS_any _ At nt ct ts (HTw.out.below (by repeat (first | with_reducible exact HB10.out | with_reducible refine Below.drew ?_ | with_reducible refine bl_drewN ?_ _ | with_reducible refine bl_alloc ?_ _))) knt).mono ?_
  rintro e w11 ⟨uu, cuu, rfl, ho, hb⟩
  have HB11 := Lib.hid (show Below w.heap.size w w11 from bl_trans (by repeat (first | with_reducible exact HB10.out | with_reducible refine Below.drew ?_ | with_reducible refine bl_drewN ?_ _ | with_reducible refine bl_alloc ?_ _)) hb)
  have hs11 : w10.heap.size ≤ w11.heap.size := by have := hb.size; (try simp at this); omega
  have bA11 := Lib.hid (show Blk w11 (w.heap.size) 50 #[.slice A1 n1 c1, .slice A2 n2 c2, .slice A3 n3 c3, .bool hi] from Blk.below (by repeat (first | with_reducible exact bA10.out | with_reducible refine Blk.drewN ?_ _ | with_reducible refine Blk.drewR ?_ | with_reducible refine Blk.alloc ?_ _)) hb (by have := bA10.out.lt; first | exact this | omega | (simp; omega)))
  have bP11 := Lib.hid (show Blk w11 (w8.heap.size) 27 #[.slice P1 en.length f1, .slice P2 tr.length f2, .slice P3 sw.length f3, .bool hi] from Blk.below (by repeat (first | with_reducible exact bP10.out | with_reducible refine Blk.drewN ?_ _ | with_reducible refine Blk.drewR ?_ | with_reducible refine Blk.alloc ?_ _)) hb (by have := bP10.out.lt; first | exact this | omega | (simp; omega)))
  have Hxx11 := Lib.hid (Hxx10.out.below (show Below w10.heap.size w10 w11 from bl_trans (by repeat (first | with_reducible exact Below.refl _ _ | with_reducible refine Below.drew ?_ | with_reducible refine bl_drewN ?_ _ | with_reducible refine bl_alloc ?_ _)) hb))
  have Hjj11 := Lib.hid (Hjj10.out.below (show Below w10.heap.size w10 w11 from bl_trans (by repeat (first | with_reducible exact Below.refl _ _ | with_reducible refine Below.drew ?_ | with_reducible refine bl_drewN ?_ _ | with_reducible refine bl_alloc ?_ _)) hb))
  have HP11 := Lib.hid (HP10.out.below (show Below w10.heap.size w10 w11 from bl_trans (by repeat (first | with_reducible exact Below.refl _ _ | with_reducible refine Below.drew ?_ | with_reducible refine bl_drewN ?_ _ | with_reducible refine bl_alloc ?_ _)) hb))
  have Oy11 := Lib.hid (OwnZ.below (w := w10) Oy10.out (show Below w10.heap.size w10 w11 from bl_trans (by repeat (first | with_reducible exact Below.refl _ _ | with_reducible refine Below.drew ?_ | with_reducible refine bl_drewN ?_ _ | with_reducible refine bl_alloc ?_ _)) hb))
  have Ox11 := Lib.hid (Own.below (w := w10) Ox10.out (show Below w10.heap.size w10 w11 from bl_trans (by repeat (first | with_reducible exact Below.refl _ _ | with_reducible refine Below.drew ?_ | with_reducible refine bl_drewN ?_ _ | with_reducible refine bl_alloc ?_ _)) hb))
  have Oj11 := Lib.hid (OwnJ.below (w := w10) Oj10.out (show Below w10.heap.size w10 w11 from bl_trans (by repeat (first | with_reducible exact Below.refl _ _ | with_reducible refine Below.drew ?_ | with_reducible refine bl_drewN ?_ _ | with_reducible refine bl_alloc ?_ _)) hb))
  have OP1x11 := Lib.hid (OwnZ.below (w := w10) OP1x10.out (show Below w10.heap.size w10 w11 from bl_trans (by repeat (first | with_reducible exact Below.refl _ _ | with_reducible refine Below.drew ?_ | with_reducible refine bl_drewN ?_ _ | with_reducible refine bl_alloc ?_ _)) hb))
  have OP2x11 := Lib.hid (OwnZ.below (w := w10) OP2x10.out (show Below w10.heap.size w10 w11 from bl_trans (by repeat (first | with_reducible exact Below.refl _ _ | with_reducible refine Below.drew ?_ | with_reducible refine bl_drewN ?_ _ | with_reducible refine bl_alloc ?_ _)) hb))
  have OP3x11 := Lib.hid (OwnZ.below (w := w10) OP3x10.out (show Below w10.heap.size w10 w11 from bl_trans (by repeat (first | with_reducible exact Below.refl _ _ | with_reducible refine Below.drew ?_ | with_reducible refine bl_drewN ?_ _ | with_reducible refine bl_alloc ?_ _)) hb))
  have Og11 := Lib.hid (OwnZ.below (w := w10) Og10.out (show Below w10.heap.size w10 w11 from bl_trans (by repeat (first | with_reducible exact Below.refl _ _ | with_reducible refine Below.drew ?_ | with_reducible refine bl_drewN ?_ _ | with_reducible refine bl_alloc ?_ _)) hb))
  have Huu11 := Lib.hid (show TksAt w11 _ _ ts from ho.reads.2)
  clear ho
  clear hb  bA10 bP10 Hxx10 Hjj10 HP10 Oy10 Ox10 Oj10 OP1x10 OP2x10 OP3x10 Og10 HB10 cA cP
  have cA := bA11.out.cell
  have cP := bP11.out.cell
  go_wp2_with fail
  refine (eqTaskS_any _ xx uu _ cxx cuu ts (Hxx11.out.below (by repeat (first | with_reducible exact Below.refl _ _ | with_reducible refine Below.drew ?_ | with_reducible refine bl_drewN ?_ _ | with_reducible refine bl_alloc ?_ _))) (Huu11.out.below (by repeat (first | with_reducible exact Below.refl _ _ | with_reducible refine Below.drew ?_ | with_reducible refine bl_drewN ?_ _ | with_reducible refine bl_alloc ?_ _))) (by omega)).mono ?_
  rintro e w12 ⟨rfl, hb⟩
  have HB12 := Lib.hid (show Below w.heap.size w w12 from bl_trans (by repeat (first | with_reducible exact HB11.out | with_reducible refine Below.drew ?_ | with_reducible refine bl_drewN ?_ _ | with_reducible refine bl_alloc ?_ _)) hb)
  have hs12 : w11.heap.size ≤ w12.heap.size := by have := hb.size; (try simp at this); omega
  have bA12 := Lib.hid (show Blk w12 (w.heap.size) 50 #[.slice A1 n1 c1, .slice A2 n2 c2, .slice A3 n3 c3, .bool hi] from Blk.below (by repeat (first | with_reducible exact bA11.out | with_reducible refine Blk.drewN ?_ _ | with_reducible refine Blk.drewR ?_ | with_reducible refine Blk.alloc ?_ _)) hb (by have := bA11.out.lt; first | exact this | omega | (simp; omega)))
  have bP12 := Lib.hid (show Blk w12 (w8.heap.size) 27 #[.slice P1 en.length f1, .slice P2 tr.length f2, .slice P3 sw.length f3, .bool hi] from Blk.below (by repeat (first | with_reducible exact bP11.out | with_reducible refine Blk.drewN ?_ _ | with_reducible refine Blk.drewR ?_ | with_reducible refine Blk.alloc ?_ _)) hb (by have := bP11.out.lt; first | exact this | omega | (simp; omega)))
  have Hxx12 := Lib.hid (Hxx11.out.below (show Below w11.heap.size w11 w12 from bl_trans (by repeat (first | with_reducible exact Below.refl _ _ | with_reducible refine Below.drew ?_ | with_reducible refine bl_drewN ?_ _ | with_reducible refine bl_alloc ?_ _)) hb))
  have Hjj12 := Lib.hid (Hjj11.out.below (show Below w11.heap.size w11 w12 from bl_trans (by repeat (first | with_reducible exact Below.refl _ _ | with_reducible refine Below.drew ?_ | with_reducible refine bl_drewN ?_ _ | with_reducible refine bl_alloc ?_ _)) hb))
  have HP12 := Lib.hid (HP11.out.below (show Below w11.heap.size w11 w12 from bl_trans (by repeat (first | with_reducible exact Below.refl _ _ | with_reducible refine Below.drew ?_ | with_reducible refine bl_drewN ?_ _ | with_reducible refine bl_alloc ?_ _)) hb))
  have Huu12 := Lib.hid (Huu11.out.below (show Below w11.heap.size w11 w12 from bl_trans (by repeat (first | with_reducible exact Below.refl _ _ | with_reducible refine Below.drew ?_ | with_reducible refine bl_drewN ?_ _ | with_reducible refine bl_alloc ?_ _)) hb))
  have Oy12 := Lib.hid (OwnZ.below (w := w11) Oy11.out (show Below w11.heap.size w11 w12 from bl_trans (by repeat (first | with_reducible exact Below.refl _ _ | with_reducible refine Below.drew ?_ | with_reducible refine bl_drewN ?_ _ | with_reducible refine bl_alloc ?_ _)) hb))
  have Ox12 := Lib.hid (Own.below (w := w11) Ox11.out (show Below w11.heap.size w11 w12 from bl_trans (by repeat (first | with_reducible exact Below.refl _ _ | with_reducible refine Below.drew ?_ | with_reducible refine bl_drewN ?_ _ | with_reducible refine bl_alloc ?_ _)) hb))
  have Oj12 := Lib.hid (OwnJ.below (w := w11) Oj11.out (show Below w11.heap.size w11 w12 from bl_trans (by repeat (first | with_reducible exact Below.refl _ _ | with_reducible refine Below.drew ?_ | with_reducible refine bl_drewN ?_ _ | with_reducible refine bl_alloc ?_ _)) hb))
  have OP1x12 := Lib.hid (OwnZ.below (w := w11) OP1x11.out (show Below w11.heap.size w11 w12 from bl_trans (by repeat (first | with_reducible exact Below.refl _ _ | with_reducible refine Below.drew ?_ | with_reducible refine bl_drewN ?_ _ | with_reducible refine bl_alloc ?_ _)) hb))
  have OP2x12 := Lib.hid (OwnZ.below (w := w11) OP2x11.out (show Below w11.heap.size w11 w12 from bl_trans (by repeat (first | with_reducible exact Below.refl _ _ | with_reducible refine Below.drew ?_ | with_reducible refine bl_drewN ?_ _ | with_reducible refine bl_alloc ?_ _)) hb))
  have OP3x12 := Lib.hid (OwnZ.below (w := w11) OP3x11.out (show Below w11.heap.size w11 w12 from bl_trans (by repeat (first | with_reducible exact Below.refl _ _ | with_reducible refine Below.drew ?_ | with_reducible refine bl_drewN ?_ _ | with_reducible refine bl_alloc ?_ _)) hb))
  have Og12 := Lib.hid (OwnZ.below (w := w11) Og11.out (show Below w11.heap.size w11 w12 from bl_trans (by repeat (first | with_reducible exact Below.refl _ _ | with_reducible refine Below.drew ?_ | with_reducible refine bl_drewN ?_ _ | with_reducible refine bl_alloc ?_ _)) hb))
  clear hb  bA11 bP11 Hxx11 Hjj11 HP11 Huu11 Oy11 Ox11 Oj11 OP1x11 OP2x11 OP3x11 Og11 HB11 cA cP
  have cA := bA12.out.cell
  have cP := bP12.out.cell
  clear Huu12 Hxx12
  go_wp2_with fail
  refine (toJobS_any _ Aj nj cj js (HJw.out.below (by repeat (first | with_reducible exact HB12.out | with_reducible refine Below.drew ?_ | with_reducible refine bl_drewN ?_ _ | with_reducible refine bl_alloc ?_ _))) knj).mono ?_
  rintro e w13 ⟨vv, rfl, ho, hb⟩
  have HB13 := Lib.hid (show Below w.heap.size w w13 from bl_trans (by repeat (first | with_reducible exact HB12.out | with_reducible refine Below.drew ?_ | with_reducible refine bl_drewN ?_ _ | with_reducible refine bl_alloc ?_ _)) hb)
  have hs13 : w12.heap.size ≤ w13.heap.size := by have := hb.size; (try simp at this); omega
  have bA13 := Lib.hid (show Blk w13 (w.heap.size) 50 #[.slice A1 n1 c1, .slice A2 n2 c2, .slice A3 n3 c3, .bool hi] from Blk.below (by repeat (first | with_reducible exact bA12.out | with_reducible refine Blk.drewN ?_ _ | with_reducible refine Blk.drewR ?_ | with_reducible refine Blk.alloc ?_ _)) hb (by have := bA12.out.lt; first | exact this | omega | (simp; omega)))
  have bP13 := Lib.hid (show Blk w13 (w8.heap.size) 27 #[.slice P1 en.length f1, .slice P2 tr.length f2, .slice P3 sw.length f3, .bool hi] from Blk.below (by repeat (first | with_reducible exact bP12.out | with_reducible refine Blk.drewN ?_ _ | with_reducible refine Blk.drewR ?_ | with_reducible refine Blk.alloc ?_ _)) hb (by have := bP12.out.lt; first | exact this | omega | (simp; omega)))
  have Hjj13 := Lib.hid (Hjj12.out.below (show Below w12.heap.size w12 w13 from bl_trans (by repeat (first | with_reducible exact Below.refl _ _ | with_reducible refine Below.drew ?_ | with_reducible refine bl_drewN ?_ _ | with_reducible refine bl_alloc ?_ _)) hb))
  have HP13 := Lib.hid (HP12.out.below (show Below w12.heap.size w12 w13 from bl_trans (by repeat (first | with_reducible exact Below.refl _ _ | with_reducible refine Below.drew ?_ | with_reducible refine bl_drewN ?_ _ | with_reducible refine bl_alloc ?_ _)) hb))
  have Oy13 := Lib.hid (OwnZ.below (w := w12) Oy12.out (show Below w12.heap.size w12 w13 from bl_trans (by repeat (first | with_reducible exact Below.refl _ _ | with_reducible refine Below.drew ?_ | with_reducible refine bl_drewN ?_ _ | with_reducible refine bl_alloc ?_ _)) hb))
  have Ox13 := Lib.hid (Own.below (w := w12) Ox12.out (show Below w12.heap.size w12 w13 from bl_trans (by repeat (first | with_reducible exact Below.refl _ _ | with_reducible refine Below.drew ?_ | with_reducible refine bl_drewN ?_ _ | with_reducible refine bl_alloc ?_ _)) hb))
  have Oj13 := Lib.hid (OwnJ.below (w := w12) Oj12.out (show Below w12.heap.size w12 w13 from bl_trans (by repeat (first | with_reducible exact Below.refl _ _ | with_reducible refine Below.drew ?_ | with_reducible refine bl_drewN ?_ _ | with_reducible refine bl_alloc ?_ _)) hb))
  have OP1x13 := Lib.hid (OwnZ.below (w := w12) OP1x12.out (show Below w12.heap.size w12 w13 from bl_trans (by repeat (first | with_reducible exact Below.refl _ _ | with_reducible refine Below.drew ?_ | with_reducible refine bl_drewN ?_ _ | with_reducible refine bl_alloc ?_ _)) hb))
  have OP2x13 := Lib.hid (OwnZ.below (w := w12) OP2x12.out (show Below w12.heap.size w12 w13 from bl_trans (by repeat (first | with_reducible exact Below.refl _ _ | with_reducible refine Below.drew ?_ | with_reducible refine bl_drewN ?_ _ | with_reducible refine bl_alloc ?_ _)) hb))
  have OP3x13 := Lib.hid (OwnZ.below (w := w12) OP3x12.out (show Below w12.heap.size w12 w13 from bl_trans (by repeat (first | with_reducible exact Below.refl _ _ | with_reducible refine Below.drew ?_ | with_reducible refine bl_drewN ?_ _ | with_reducible refine bl_alloc ?_ _)) hb))
  have Og13 := Lib.hid (OwnZ.below (w := w12) Og12.out (show Below w12.heap.size w12 w13 from bl_trans (by repeat (first | with_reducible exact Below.refl _ _ | with_reducible refine Below.drew ?_ | with_reducible refine bl_drewN ?_ _ | with_reducible refine bl_alloc ?_ _)) hb))
  have Hvv13 := Lib.hid (show JbsAt w13 _ _ js from ho.reads.2)
  clear ho
  clear hb  bA12 bP12 Hjj12 HP12 Oy12 Ox12 Oj12 OP1x12 OP2x12 OP3x12 Og12 HB12 cA cP
  have cA := bA13.out.cell
  have cP := bP13.out.cell
  go_wp2_with fail
  refine (eqJobS_any _ (some ⟨jj, 0, none⟩) (some ⟨vv, 0, none⟩) _ _ _ js (Hjj13.out.below (by repeat (first | with_reducible exact Below.refl _ _ | with_reducible refine Below.drew ?_ | with_reducible refine bl_drewN ?_ _ | with_reducible refine bl_alloc ?_ _))) (Hvv13.out.below (by repeat (first | with_reducible exact Below.refl _ _ | with_reducible refine Below.drew ?_ | with_reducible refine bl_drewN ?_ _ | with_reducible refine bl_alloc ?_ _))) (by omega)).mono ?_
  rintro e w14 ⟨rfl, hb⟩
  have HB14 := Lib.hid (show Below w.heap.size w w14 from bl_trans (by repeat (first | with_reducible exact HB13.out | with_reducible refine Below.drew ?_ | with_reducible refine bl_drewN ?_ _ | with_reducible refine bl_alloc ?_ _)) hb)
  have hs14 : w13.heap.size ≤ w14.heap.size := by have := hb.size; (try simp at this); omega
  have bA14 := Lib.hid (show Blk w14 (w.heap.size) 50 #[.slice A1 n1 c1, .slice A2 n2 c2, .slice A3 n3 c3, .bool hi] from Blk.below (by repeat (first | with_reducible exact bA13.out | with_reducible refine Blk.drewN ?_ _ | with_reducible refine Blk.drewR ?_ | with_reducible refine Blk.alloc ?_ _)) hb (by have := bA13.out.lt; first | exact this | omega | (simp; omega)))
  have bP14 := Lib.hid (show Blk w14 (w8.heap.size) 27 #[.slice P1 en.length f1, .slice P2 tr.length f2, .slice P3 sw.length f3, .bool hi] from Blk.below (by repeat (first | with_reducible exact bP13.out | with_reducible refine Blk.drewN ?_ _ | with_reducible refine Blk.drewR ?_ | with_reducible refine Blk.alloc ?_ _)) hb (by have := bP13.out.lt; first | exact this | omega | (simp; omega)))
  have Hjj14 := Lib.hid (Hjj13.out.below (show Below w13.heap.size w13 w14 from bl_trans (by repeat (first | with_reducible exact Below.refl _ _ | with_reducible refine Below.drew ?_ | with_reducible refine bl_drewN ?_ _ | with_reducible refine bl_alloc ?_ _)) hb))
  have HP14 := Lib.hid (HP13.out.below (show Below w13.heap.size w13 w14 from bl_trans (by repeat (first | with_reducible exact Below.refl _ _ | with_reducible refine Below.drew ?_ | with_reducible refine bl_drewN ?_ _ | with_reducible refine bl_alloc ?_ _)) hb))
  have Hvv14 := Lib.hid (Hvv13.out.below (show Below w13.heap.size w13 w14 from bl_trans (by repeat (first | with_reducible exact Below.refl _ _ | with_reducible refine Below.drew ?_ | with_reducible refine bl_drewN ?_ _ | with_reducible refine bl_alloc ?_ _)) hb))
  have Oy14 := Lib.hid (OwnZ.below (w := w13) Oy13.out (show Below w13.heap.size w13 w14 from bl_trans (by repeat (first | with_reducible exact Below.refl _ _ | with_reducible refine Below.drew ?_ | with_reducible refine bl_drewN ?_ _ | with_reducible refine bl_alloc ?_ _)) hb))
  have Ox14 := Lib.hid (Own.below (w := w13) Ox13.out (show Below w13.heap.size w13 w14 from bl_trans (by repeat (first | with_reducible exact Below.refl _ _ | with_reducible refine Below.drew ?_ | with_reducible refine bl_drewN ?_ _ | with_reducible refine bl_alloc ?_ _)) hb))
  have Oj14 := Lib.hid (OwnJ.below (w := w13) Oj13.out (show Below w13.heap.size w13 w14 from bl_trans (by repeat (first | with_reducible exact Below.refl _ _ | with_reducible refine Below.drew ?_ | with_reducible refine bl_drewN ?_ _ | with_reducible refine bl_alloc ?_ _)) hb))
  have OP1x14 := Lib.hid (OwnZ.below (w := w13) OP1x13.out (show Below w13.heap.size w13 w14 from bl_trans (by repeat (first | with_reducible exact Below.refl _ _ | with_reducible refine Below.drew ?_ | with_reducible refine bl_drewN ?_ _ | with_reducible refine bl_alloc ?_ _)) hb))
  have OP2x14 := Lib.hid (OwnZ.below (w := w13) OP2x13.out (show Below w13.heap.size w13 w14 from bl_trans (by repeat (first | with_reducible exact Below.refl _ _ | with_reducible refine Below.drew ?_ | with_reducible refine bl_drewN ?_ _ | with_reducible refine bl_alloc ?_ _)) hb))
  have OP3x14 := Lib.hid (OwnZ.below (w := w13) OP3x13.out (show Below w13.heap.size w13 w14 from bl_trans (by repeat (first | with_reducible exact Below.refl _ _ | with_reducible refine Below.drew ?_ | with_reducible refine bl_drewN ?_ _ | with_reducible refine bl_alloc ?_ _)) hb))
  have Og14 := Lib.hid (OwnZ.below (w := w13) Og13.out (show Below w13.heap.size w13 w14 from bl_trans (by repeat (first | with_reducible exact Below.refl _ _ | with_reducible refine Below.drew ?_ | with_reducible refine bl_drewN ?_ _ | with_reducible refine bl_alloc ?_ _)) hb))
  clear hb  bA13 bP13 Hjj13 HP13 Hvv13 Oy13 Ox13 Oj13 OP1x13 OP2x13 OP3x13 Og13 HB13 cA cP
  have cA := bA14.out.cell
  have cP := bP14.out.cell
  clear Hvv14 Hjj14
  have hS14 := (And.intro (Blk.four bA14.out) (Blk.four bP14.out))
  go_wp2_with fail
  go_region_held3 (fun W => (W.cell? ⟨w.heap.size, 0, none⟩ = some (.slice A1 n1 c1) ∧ W.cell? ⟨w.heap.size, 1, none⟩ = some (.slice A2 n2 c2) ∧ W.cell? ⟨w.heap.size, 2, none⟩ = some (.slice A3 n3 c3) ∧ W.cell? ⟨w.heap.size, 3, none⟩ = some (.bool hi)) ∧ (W.cell? ⟨w8.heap.size, 0, none⟩ = some (.slice P1 en.length f1) ∧ W.cell? ⟨w8.heap.size, 1, none⟩ = some (.slice P2 tr.length f2) ∧ W.cell? ⟨w8.heap.size, 2, none⟩ = some (.slice P3 sw.length f3) ∧ W.cell? ⟨w8.heap.size, 3, none⟩ = some (.bool hi))) (first | exact hS14 | exact hS15 | exact hS16)
    ((first
      | (go_at_call 40
         refine (toRun_any _ A1 n1 c1 A2 n2 c2 A3 n3 c3 hi en tr sw (H.out.below (by repeat (first | with_reducible exact HB14.out | with_reducible refine Below.drew ?_ | with_reducible refine bl_drewN ?_ _ | with_reducible refine bl_alloc ?_ _))) k1 k2 k3).mono ?_
         rintro e w15 ⟨X1, d1, X2, d2, X3, d3, s1, s2, rfl, o1, o2, o3, _, _, _, _, hb⟩
         have HB15 := Lib.hid (show Below w.heap.size w w15 from bl_trans (by repeat (first | with_reducible exact HB14.out | with_reducible refine Below.drew ?_ | with_reducible refine bl_drewN ?_ _ | with_reducible refine bl_alloc ?_ _)) hb)
         have hs15 : w14.heap.size ≤ w15.heap.size := by have := hb.size; (try simp at this); omega
         have bA15 := Lib.hid (show Blk w15 (w.heap.size) 50 #[.slice A1 n1 c1, .slice A2 n2 c2, .slice A3 n3 c3, .bool hi] from Blk.below (by repeat (first | with_reducible exact bA14.out | with_reducible refine Blk.drewN ?_ _ | with_reducible refine Blk.drewR ?_ | with_reducible refine Blk.alloc ?_ _)) hb (by have := bA14.out.lt; first | exact this | omega | (simp; omega)))
         have bP15 := Lib.hid (show Blk w15 (w8.heap.size) 27 #[.slice P1 en.length f1, .slice P2 tr.length f2, .slice P3 sw.length f3, .bool hi] from Blk.below (by repeat (first | with_reducible exact bP14.out | with_reducible refine Blk.drewN ?_ _ | with_reducible refine Blk.drewR ?_ | with_reducible refine Blk.alloc ?_ _)) hb (by have := bP14.out.lt; first | exact this | omega | (simp; omega)))
         have HP15 := Lib.hid (HP14.out.below (show Below w14.heap.size w14 w15 from bl_trans (by repeat (first | with_reducible exact Below.refl _ _ | with_reducible refine Below.drew ?_ | with_reducible refine bl_drewN ?_ _ | with_reducible refine bl_alloc ?_ _)) hb))
         have Oy15 := Lib.hid (OwnZ.below (w := w14) Oy14.out (show Below w14.heap.size w14 w15 from bl_trans (by repeat (first | with_reducible exact Below.refl _ _ | with_reducible refine Below.drew ?_ | with_reducible refine bl_drewN ?_ _ | with_reducible refine bl_alloc ?_ _)) hb))
         have Ox15 := Lib.hid (Own.below (w := w14) Ox14.out (show Below w14.heap.size w14 w15 from bl_trans (by repeat (first | with_reducible exact Below.refl _ _ | with_reducible refine Below.drew ?_ | with_reducible refine bl_drewN ?_ _ | with_reducible refine bl_alloc ?_ _)) hb))
         have Oj15 := Lib.hid (OwnJ.below (w := w14) Oj14.out (show Below w14.heap.size w14 w15 from bl_trans (by repeat (first | with_reducible exact Below.refl _ _ | with_reducible refine Below.drew ?_ | with_reducible refine bl_drewN ?_ _ | with_reducible refine bl_alloc ?_ _)) hb))
         have OP1x15 := Lib.hid (OwnZ.below (w := w14) OP1x14.out (show Below w14.heap.size w14 w15 from bl_trans (by repeat (first | with_reducible exact Below.refl _ _ | with_reducible refine Below.drew ?_ | with_reducible refine bl_drewN ?_ _ | with_reducible refine bl_alloc ?_ _)) hb))
         have OP2x15 := Lib.hid (OwnZ.below (w := w14) OP2x14.out (show Below w14.heap.size w14 w15 from bl_trans (by repeat (first | with_reducible exact Below.refl _ _ | with_reducible refine Below.drew ?_ | with_reducible refine bl_drewN ?_ _ | with_reducible refine bl_alloc ?_ _)) hb))
         have OP3x15 := Lib.hid (OwnZ.below (w := w14) OP3x14.out (show Below w14.heap.size w14 w15 from bl_trans (by repeat (first | with_reducible exact Below.refl _ _ | with_reducible refine Below.drew ?_ | with_reducible refine bl_drewN ?_ _ | with_reducible refine bl_alloc ?_ _)) hb))
         have Og15 := Lib.hid (OwnZ.below (w := w14) Og14.out (show Below w14.heap.size w14 w15 from bl_trans (by repeat (first | with_reducible exact Below.refl _ _ | with_reducible refine Below.drew ?_ | with_reducible refine bl_drewN ?_ _ | with_reducible refine bl_alloc ?_ _)) hb))
         have HX15 := Lib.hid (RnCopy.reads o1 o2 o3)
         clear o1 o2 o3
         have cA := bA15.out.cell
         have cP := bP15.out.cell
         have hS15 := (And.intro (Blk.four bA15.out) (Blk.four bP15.out))
         clear hb)
      | (go_at_call 41
         refine (eqRun_any _ P1 _ f1 P2 _ f2 P3 _ f3 X1 d1 X2 d2 X3 d3 hi en tr sw (HP15.out.below (by repeat (first | with_reducible exact Below.refl _ _ | with_reducible refine Below.drew ?_ | with_reducible refine bl_drewN ?_ _ | with_reducible refine bl_alloc ?_ _))) (HX15.out.below (by repeat (first | with_reducible exact Below.refl _ _ | with_reducible refine Below.drew ?_ | with_reducible refine bl_drewN ?_ _ | with_reducible refine bl_alloc ?_ _))) (by have := L1.out; omega) (by have := L2.out; omega) (by have := L3.out; omega)).mono ?_
         rintro e w16 ⟨rfl, hb⟩
         have HB16 := Lib.hid (show Below w.heap.size w w16 from bl_trans (by repeat (first | with_reducible exact HB15.out | with_reducible refine Below.drew ?_ | with_reducible refine bl_drewN ?_ _ | with_reducible refine bl_alloc ?_ _)) hb)
         have hs16 : w15.heap.size ≤ w16.heap.size := by have := hb.size; (try simp at this); omega
         have bA16 := Lib.hid (show Blk w16 (w.heap.size) 50 #[.slice A1 n1 c1, .slice A2 n2 c2, .slice A3 n3 c3, .bool hi] from Blk.below (by repeat (first | with_reducible exact bA15.out | with_reducible refine Blk.drewN ?_ _ | with_reducible refine Blk.drewR ?_ | with_reducible refine Blk.alloc ?_ _)) hb (by have := bA15.out.lt; first | exact this | omega | (simp; omega)))
         have bP16 := Lib.hid (show Blk w16 (w8.heap.size) 27 #[.slice P1 en.length f1, .slice P2 tr.length f2, .slice P3 sw.length f3, .bool hi] from Blk.below (by repeat (first | with_reducible exact bP15.out | with_reducible refine Blk.drewN ?_ _ | with_reducible refine Blk.drewR ?_ | with_reducible refine Blk.alloc ?_ _)) hb (by have := bP15.out.lt; first | exact this | omega | (simp; omega)))
         have HP16 := Lib.hid (HP15.out.below (show Below w15.heap.size w15 w16 from bl_trans (by repeat (first | with_reducible exact Below.refl _ _ | with_reducible refine Below.drew ?_ | with_reducible refine bl_drewN ?_ _ | with_reducible refine bl_alloc ?_ _)) hb))
         have HX16 := Lib.hid (HX15.out.below (show Below w15.heap.size w15 w16 from bl_trans (by repeat (first | with_reducible exact Below.refl _ _ | with_reducible refine Below.drew ?_ | with_reducible refine bl_drewN ?_ _ | with_reducible refine bl_alloc ?_ _)) hb))
         have Oy16 := Lib.hid (OwnZ.below (w := w15) Oy15.out (show Below w15.heap.size w15 w16 from bl_trans (by repeat (first | with_reducible exact Below.refl _ _ | with_reducible refine Below.drew ?_ | with_reducible refine bl_drewN ?_ _ | with_reducible refine bl_alloc ?_ _)) hb))
         have Ox16 := Lib.hid (Own.below (w := w15) Ox15.out (show Below w15.heap.size w15 w16 from bl_trans (by repeat (first | with_reducible exact Below.refl _ _ | with_reducible refine Below.drew ?_ | with_reducible refine bl_drewN ?_ _ | with_reducible refine bl_alloc ?_ _)) hb))
         have Oj16 := Lib.hid (OwnJ.below (w := w15) Oj15.out (show Below w15.heap.size w15 w16 from bl_trans (by repeat (first | with_reducible exact Below.refl _ _ | with_reducible refine Below.drew ?_ | with_reducible refine bl_drewN ?_ _ | with_reducible refine bl_alloc ?_ _)) hb))
         have OP1x16 := Lib.hid (OwnZ.below (w := w15) OP1x15.out (show Below w15.heap.size w15 w16 from bl_trans (by repeat (first | with_reducible exact Below.refl _ _ | with_reducible refine Below.drew ?_ | with_reducible refine bl_drewN ?_ _ | with_reducible refine bl_alloc ?_ _)) hb))
         have OP2x16 := Lib.hid (OwnZ.below (w := w15) OP2x15.out (show Below w15.heap.size w15 w16 from bl_trans (by repeat (first | with_reducible exact Below.refl _ _ | with_reducible refine Below.drew ?_ | with_reducible refine bl_drewN ?_ _ | with_reducible refine bl_alloc ?_ _)) hb))
         have OP3x16 := Lib.hid (OwnZ.below (w := w15) OP3x15.out (show Below w15.heap.size w15 w16 from bl_trans (by repeat (first | with_reducible exact Below.refl _ _ | with_reducible refine Below.drew ?_ | with_reducible refine bl_drewN ?_ _ | with_reducible refine bl_alloc ?_ _)) hb))
         have Og16 := Lib.hid (OwnZ.below (w := w15) Og15.out (show Below w15.heap.size w15 w16 from bl_trans (by repeat (first | with_reducible exact Below.refl _ _ | with_reducible refine Below.drew ?_ | with_reducible refine bl_drewN ?_ _ | with_reducible refine bl_alloc ?_ _)) hb))
         have cA := bA16.out.cell
         have cP := bP16.out.cell
         have hS16 := (And.intro (Blk.four bA16.out) (Blk.four bP16.out))
         clear hb)))
  have cA := bA16.out.cell
  have cP := bP16.out.cell
  clear HX16 HP16
  go_wp2_with fail
  refine (mark_own _ _ xx _ cxx 1 ts Ox16.out (by omega) (by omega)).mono ?_
  rintro e w17 ⟨rfl, _, hg⟩
  have HB17 := Lib.hid (HB16.out.grown hg HB16.out.size (fun q e => by have := (HMx.out q e).1; omega))
  have hs17 : w16.heap.size ≤ w17.heap.size := hg.size
  have Oy17 := Lib.hid (Oy16.out.kept_dn hg (M := w5.heap.size) (fun q e => by have := (HMy.out q e).2; omega) (fun q e => by have := (HMx.out q e).1; omega))
  have Oj17 := Lib.hid (Oj16.out.kept hg (fun q e => by have := (HMx.out q e).2; omega))
  have OP1x17 := Lib.hid (OP1x16.out.kept hg (fun q e => by have := (HMx.out q e).2; omega))
  have OP2x17 := Lib.hid (OP2x16.out.kept hg (fun q e => by have := (HMx.out q e).2; omega))
  have OP3x17 := Lib.hid (OP3x16.out.kept hg (fun q e => by have := (HMx.out q e).2; omega))
  have Og17 := Lib.hid (Og16.out.kept hg (fun q e => by have := (HMx.out q e).2; omega))
  have bA17 := Lib.hid (show Blk w17 (w.heap.size) 50 #[.slice A1 n1 c1, .slice A2 n2 c2, .slice A3 n3 c3, .bool hi] from bA16.out.grown hg (fun e => by have := (HMx.out _ e.symm).1; omega))
  have bP17 := Lib.hid (show Blk w17 (w8.heap.size) 27 #[.slice P1 en.length f1, .slice P2 tr.length f2, .slice P3 sw.length f3, .bool hi] from bP16.out.grown hg (fun e => by have := (HMx.out _ e.symm).2; omega))
  clear hg HB16 Oy16 Ox16 Oj16 OP1x16 OP2x16 OP3x16 Og16 bA16 bP16 cA cP
  have cA := bA17.out.cell
  have cP := bP17.out.cell
  go_wp2_with fail
  refine (jmark_own _ _ (some ⟨jj, 0, none⟩) _ _ (1 + ts.length * 5) js Oj17.out (by omega) (by omega)).mono ?_
  rintro e w18 ⟨rfl, _, hg⟩
  have HB18 := Lib.hid (HB17.out.grown hg HB17.out.size (fun q e => by have := (HMj.out q e).1; omega))
  have hs18 : w17.heap.size ≤ w18.heap.size := hg.size
  have Oy18 := Lib.hid (Oy17.out.kept_dn hg (M := w5.heap.size) (fun q e => by have := (HMy.out q e).2; omega) (fun q e => by have := (HMj.out q e).1; omega))
  have OP1x18 := Lib.hid (OP1x17.out.kept hg (fun q e => by have := (HMj.out q e).2; omega))
  have OP2x18 := Lib.hid (OP2x17.out.kept hg (fun q e => by have := (HMj.out q e).2; omega))
  have OP3x18 := Lib.hid (OP3x17.out.kept hg (fun q e => by have := (HMj.out q e).2; omega))
  have Og18 := Lib.hid (Og17.out.kept hg (fun q e => by have := (HMj.out q e).2; omega))
  have bA18 := Lib.hid (show Blk w18 (w.heap.size) 50 #[.slice A1 n1 c1, .slice A2 n2 c2, .slice A3 n3 c3, .bool hi] from bA17.out.grown hg (fun e => by have := (HMj.out _ e.symm).1; omega))
  have bP18 := Lib.hid (show Blk w18 (w8.heap.size) 27 #[.slice P1 en.length f1, .slice P2 tr.length f2, .slice P3 sw.length f3, .bool hi] from bP17.out.grown hg (fun e => by have := (HMj.out _ e.symm).2; omega))
  clear hg HB17 Oy17 Oj17 OP1x17 OP2x17 OP3x17 Og17 bA17 bP17 cA cP
  have cA := bA18.out.cell
  have cP := bP18.out.cell
  go_wp2_with fail
  refine (markRun_own _ w7.heap.size t1 t2 w8.heap.size P1 f1 P2 f2 P3 f3 hi en tr sw (1 + ts.length * 5 + js.length * 3) OP1x18.out OP2x18.out OP3x18.out HLP.out.1 HLP.out.2.1 HLP.out.2.2 h12 h23 h34 (by omega) (by have := L1.out; omega) (by have := L2.out; omega) (by have := L3.out; omega) (by omega)).mono ?_
  rintro e w19 ⟨⟨z, rfl⟩, hb, hsj, hup, hdn⟩
  have HB19 := Lib.hid (bl_trans2 HB18.out (bl_less hb (by omega)))
  have Oy19 := Lib.hid (hdn _ _ _ (fun k e => by have := (HMy.out k e).2; omega) Oy18.out)
  have Og19 := Lib.hid (hup _ _ Og18.out)
  have bA19 := Lib.hid (show Blk w19 (w.heap.size) 50 #[.slice A1 n1 c1, .slice A2 n2 c2, .slice A3 n3 c3, .bool hi] from bA18.out.below hb (by omega))
  clear hb hup hdn HB18 Oy18 Og18 bA18 bP18 OP1x18 OP2x18 OP3x18 cA cP
  have hs19 : w18.heap.size ≤ w19.heap.size := hsj
  have dz : ¬ ((z : Nat) : Int) < 0 := by omega
  have cA := bA19.out.cell
  go_wp2_with fail
  refine (eqIntS_any _ Ag Ay _ cg cy us Og19.out.reads Oy19.out.reads (by omega)).mono ?_
  rintro e w20 ⟨rfl, hb⟩
  have HB20 := Lib.hid (show Below w.heap.size w w20 from bl_trans (by repeat (first | with_reducible exact HB19.out | with_reducible refine Below.drew ?_ | with_reducible refine bl_drewN ?_ _ | with_reducible refine bl_alloc ?_ _)) hb)
  have hs20 : w19.heap.size ≤ w20.heap.size := by have := hb.size; (try simp at this); omega
  have bA20 := Lib.hid (show Blk w20 (w.heap.size) 50 #[.slice A1 n1 c1, .slice A2 n2 c2, .slice A3 n3 c3, .bool hi] from Blk.below (by repeat (first | with_reducible exact bA19.out | with_reducible refine Blk.drewN ?_ _ | with_reducible refine Blk.drewR ?_ | with_reducible refine Blk.alloc ?_ _)) hb (by have := bA19.out.lt; first | exact this | omega | (simp; omega)))
  have Oy20 := Lib.hid (OwnZ.below (w := w19) Oy19.out (show Below w19.heap.size w19 w20 from bl_trans (by repeat (first | with_reducible exact Below.refl _ _ | with_reducible refine Below.drew ?_ | with_reducible refine bl_drewN ?_ _ | with_reducible refine bl_alloc ?_ _)) hb))
  have Og20 := Lib.hid (OwnZ.below (w := w19) Og19.out (show Below w19.heap.size w19 w20 from bl_trans (by repeat (first | with_reducible exact Below.refl _ _ | with_reducible refine Below.drew ?_ | with_reducible refine bl_drewN ?_ _ | with_reducible refine bl_alloc ?_ _)) hb))
  clear hb  bA19 Oy19 Og19 HB19 cA
  have cA := bA20.out.cell
  go_wp2_with fail
  refine (markZ_own _ _ Ag cg 1 us Og20.out (by omega) (by omega)).mono ?_
  rintro e w21 ⟨rfl, ho, hg⟩
  have Og21 := Lib.hid ho
  have HB21 := Lib.hid (HB20.out.grown hg HB20.out.size (fun q e => by have := (World.ownsRow.lt Og20.out q e).1; omega))
  have hs21 : w20.heap.size ≤ w21.heap.size := hg.size
  have Oy21 := Lib.hid (Oy20.out.kept_dn hg (M := w5.heap.size) (fun q e => by have := (HMy.out q e).2; omega) (fun q e => by have := (HMg.out q e).1; omega))
  have bA21 := Lib.hid (show Blk w21 (w.heap.size) 50 #[.slice A1 n1 c1, .slice A2 n2 c2, .slice A3 n3 c3, .bool hi] from bA20.out.grown hg (fun e => by have := (HMg.out _ e.symm).1; omega))
  clear ho hg HB20 Oy20 Og20 bA20 cA
  have cA := bA21.out.cell
  go_wp2_with fail
  refine (heldZ_any w21 Ag us.length cg 1 (OwnZ.readsM Og21.out (marksZ_len _ _)) (by omega) (by omega)).mono ?_
  rintro e w0 ⟨rfl, rfl⟩
  have hS21 := (Blk.four bA21.out)
  go_wp2_with fail
  go_region_held3 (fun W => (W.cell? ⟨w.heap.size, 0, none⟩ = some (.slice A1 n1 c1) ∧ W.cell? ⟨w.heap.size, 1, none⟩ = some (.slice A2 n2 c2) ∧ W.cell? ⟨w.heap.size, 2, none⟩ = some (.slice A3 n3 c3) ∧ W.cell? ⟨w.heap.size, 3, none⟩ = some (.bool hi))) (first | exact hS21 | exact hS22 | exact hS23 | exact hS24 | exact hS25)
    ((first
      | (go_at_call 44
         refine (toTaskS_any _ At nt ct ts (HTw.out.below (by repeat (first | with_reducible exact HB21.out | with_reducible refine Below.drew ?_ | with_reducible refine bl_drewN ?_ _ | with_reducible refine bl_alloc ?_ _))) knt).mono ?_
         rintro e w22 ⟨u, cu, rfl, ho, hb⟩
         have HB22 := Lib.hid (show Below w.heap.size w w22 from bl_trans (by repeat (first | with_reducible exact HB21.out | with_reducible refine Below.drew ?_ | with_reducible refine bl_drewN ?_ _ | with_reducible refine bl_alloc ?_ _)) hb)
         have hs22 : w21.heap.size ≤ w22.heap.size := by have := hb.size; (try simp at this); omega
         have bA22 := Lib.hid (show Blk w22 (w.heap.size) 50 #[.slice A1 n1 c1, .slice A2 n2 c2, .slice A3 n3 c3, .bool hi] from Blk.below (by repeat (first | with_reducible exact bA21.out | with_reducible refine Blk.drewN ?_ _ | with_reducible refine Blk.drewR ?_ | with_reducible refine Blk.alloc ?_ _)) hb (by have := bA21.out.lt; first | exact this | omega | (simp; omega)))
         have Oy22 := Lib.hid (OwnZ.below (w := w21) Oy21.out (show Below w21.heap.size w21 w22 from bl_trans (by repeat (first | with_reducible exact Below.refl _ _ | with_reducible refine Below.drew ?_ | with_reducible refine bl_drewN ?_ _ | with_reducible refine bl_alloc ?_ _)) hb))
         have Og22 := Lib.hid (OwnZ.below (w := w21) Og21.out (show Below w21.heap.size w21 w22 from bl_trans (by repeat (first | with_reducible exact Below.refl _ _ | with_reducible refine Below.drew ?_ | with_reducible refine bl_drewN ?_ _ | with_reducible refine bl_alloc ?_ _)) hb))
         have Hu22 := Lib.hid (show TksAt w22 _ _ ts from ho.reads.2)
         clear ho
         have cA := bA22.out.cell
         have hS22 := (Blk.four bA22.out)
         clear hb)
      | (go_at_call 45
         refine (toJobS_any _ Aj nj cj js (HJw.out.below (by repeat (first | with_reducible exact HB22.out | with_reducible refine Below.drew ?_ | with_reducible refine bl_drewN ?_ _ | with_reducible refine bl_alloc ?_ _))) knj).mono ?_
         rintro e w23 ⟨v, rfl, ho, hb⟩
         have HB23 := Lib.hid (show Below w.heap.size w w23 from bl_trans (by repeat (first | with_reducible exact HB22.out | with_reducible refine Below.drew ?_ | with_reducible refine bl_drewN ?_ _ | with_reducible refine bl_alloc ?_ _)) hb)
         have hs23 : w22.heap.size ≤ w23.heap.size := by have := hb.size; (try simp at this); omega
         have bA23 := Lib.hid (show Blk w23 (w.heap.size) 50 #[.slice A1 n1 c1, .slice A2 n2 c2, .slice A3 n3 c3, .bool hi] from Blk.below (by repeat (first | with_reducible exact bA22.out | with_reducible refine Blk.drewN ?_ _ | with_reducible refine Blk.drewR ?_ | with_reducible refine Blk.alloc ?_ _)) hb (by have := bA22.out.lt; first | exact this | omega | (simp; omega)))
         have Hu23 := Lib.hid (Hu22.out.below (show Below w22.heap.size w22 w23 from bl_trans (by repeat (first | with_reducible exact Below.refl _ _ | with_reducible refine Below.drew ?_ | with_reducible refine bl_drewN ?_ _ | with_reducible refine bl_alloc ?_ _)) hb))
         have Oy23 := Lib.hid (OwnZ.below (w := w22) Oy22.out (show Below w22.heap.size w22 w23 from bl_trans (by repeat (first | with_reducible exact Below.refl _ _ | with_reducible refine Below.drew ?_ | with_reducible refine bl_drewN ?_ _ | with_reducible refine bl_alloc ?_ _)) hb))
         have Og23 := Lib.hid (OwnZ.below (w := w22) Og22.out (show Below w22.heap.size w22 w23 from bl_trans (by repeat (first | with_reducible exact Below.refl _ _ | with_reducible refine Below.drew ?_ | with_reducible refine bl_drewN ?_ _ | with_reducible refine bl_alloc ?_ _)) hb))
         have Hv23 := Lib.hid (show JbsAt w23 _ _ js from ho.reads.2)
         clear ho
         have cA := bA23.out.cell
         have hS23 := (Blk.four bA23.out)
         clear hb)
      | (go_at_call 40
         refine (toRun_any _ A1 n1 c1 A2 n2 c2 A3 n3 c3 hi en tr sw (H.out.below (by repeat (first | with_reducible exact HB23.out | with_reducible refine Below.drew ?_ | with_reducible refine bl_drewN ?_ _ | with_reducible refine bl_alloc ?_ _))) k1 k2 k3).mono ?_
         rintro e w24 ⟨X1, d1, X2, d2, X3, d3, s1, s2, rfl, o1, o2, o3, _, _, _, _, hb⟩
         have HB24 := Lib.hid (show Below w.heap.size w w24 from bl_trans (by repeat (first | with_reducible exact HB23.out | with_reducible refine Below.drew ?_ | with_reducible refine bl_drewN ?_ _ | with_reducible refine bl_alloc ?_ _)) hb)
         have hs24 : w23.heap.size ≤ w24.heap.size := by have := hb.size; (try simp at this); omega
         have bA24 := Lib.hid (show Blk w24 (w.heap.size) 50 #[.slice A1 n1 c1, .slice A2 n2 c2, .slice A3 n3 c3, .bool hi] from Blk.below (by repeat (first | with_reducible exact bA23.out | with_reducible refine Blk.drewN ?_ _ | with_reducible refine Blk.drewR ?_ | with_reducible refine Blk.alloc ?_ _)) hb (by have := bA23.out.lt; first | exact this | omega | (simp; omega)))
         have Hu24 := Lib.hid (Hu23.out.below (show Below w23.heap.size w23 w24 from bl_trans (by repeat (first | with_reducible exact Below.refl _ _ | with_reducible refine Below.drew ?_ | with_reducible refine bl_drewN ?_ _ | with_reducible refine bl_alloc ?_ _)) hb))
         have Hv24 := Lib.hid (Hv23.out.below (show Below w23.heap.size w23 w24 from bl_trans (by repeat (first | with_reducible exact Below.refl _ _ | with_reducible refine Below.drew ?_ | with_reducible refine bl_drewN ?_ _ | with_reducible refine bl_alloc ?_ _)) hb))
         have Oy24 := Lib.hid (OwnZ.below (w := w23) Oy23.out (show Below w23.heap.size w23 w24 from bl_trans (by repeat (first | with_reducible exact Below.refl _ _ | with_reducible refine Below.drew ?_ | with_reducible refine bl_drewN ?_ _ | with_reducible refine bl_alloc ?_ _)) hb))
         have Og24 := Lib.hid (OwnZ.below (w := w23) Og23.out (show Below w23.heap.size w23 w24 from bl_trans (by repeat (first | with_reducible exact Below.refl _ _ | with_reducible refine Below.drew ?_ | with_reducible refine bl_drewN ?_ _ | with_reducible refine bl_alloc ?_ _)) hb))
         have HX24 := Lib.hid (RnCopy.reads o1 o2 o3)
         clear o1 o2 o3
         have cA := bA24.out.cell
         have hS24 := (Blk.four bA24.out)
         clear hb)
      | (go_at_call 18
         refine (iMiss_is _ u _ cu ts (Hu24.out.below (by repeat (first | with_reducible exact Below.refl _ _ | with_reducible refine Below.drew ?_ | with_reducible refine bl_drewN ?_ _ | with_reducible refine bl_alloc ?_ _))) (by omega) (some ⟨v, 0, none⟩) _ _ js (Hv24.out.below (by repeat (first | with_reducible exact Below.refl _ _ | with_reducible refine Below.drew ?_ | with_reducible refine bl_drewN ?_ _ | with_reducible refine bl_alloc ?_ _))) X1 _ d1 X2 _ d2 X3 _ d3 hi en (HX24.out.below (by repeat (first | with_reducible exact Below.refl _ _ | with_reducible refine Below.drew ?_ | with_reducible refine bl_drewN ?_ _ | with_reducible refine bl_alloc ?_ _))).e us HU.out).mono ?_
         rintro e w25 ⟨Ah, ch, rfl, ho, hb⟩
         have HB25 := Lib.hid (show Below w.heap.size w w25 from bl_trans (by repeat (first | with_reducible exact HB24.out | with_reducible refine Below.drew ?_ | with_reducible refine bl_drewN ?_ _ | with_reducible refine bl_alloc ?_ _)) hb)
         have hs25 : w24.heap.size ≤ w25.heap.size := by have := hb.size; (try simp at this); omega
         have bA25 := Lib.hid (show Blk w25 (w.heap.size) 50 #[.slice A1 n1 c1, .slice A2 n2 c2, .slice A3 n3 c3, .bool hi] from Blk.below (by repeat (first | with_reducible exact bA24.out | with_reducible refine Blk.drewN ?_ _ | with_reducible refine Blk.drewR ?_ | with_reducible refine Blk.alloc ?_ _)) hb (by have := bA24.out.lt; first | exact this | omega | (simp; omega)))
         have Hu25 := Lib.hid (Hu24.out.below (show Below w24.heap.size w24 w25 from bl_trans (by repeat (first | with_reducible exact Below.refl _ _ | with_reducible refine Below.drew ?_ | with_reducible refine bl_drewN ?_ _ | with_reducible refine bl_alloc ?_ _)) hb))
         have Hv25 := Lib.hid (Hv24.out.below (show Below w24.heap.size w24 w25 from bl_trans (by repeat (first | with_reducible exact Below.refl _ _ | with_reducible refine Below.drew ?_ | with_reducible refine bl_drewN ?_ _ | with_reducible refine bl_alloc ?_ _)) hb))
         have HX25 := Lib.hid (HX24.out.below (show Below w24.heap.size w24 w25 from bl_trans (by repeat (first | with_reducible exact Below.refl _ _ | with_reducible refine Below.drew ?_ | with_reducible refine bl_drewN ?_ _ | with_reducible refine bl_alloc ?_ _)) hb))
         have Oy25 := Lib.hid (OwnZ.below (w := w24) Oy24.out (show Below w24.heap.size w24 w25 from bl_trans (by repeat (first | with_reducible exact Below.refl _ _ | with_reducible refine Below.drew ?_ | with_reducible refine bl_drewN ?_ _ | with_reducible refine bl_alloc ?_ _)) hb))
         have Og25 := Lib.hid (OwnZ.below (w := w24) Og24.out (show Below w24.heap.size w24 w25 from bl_trans (by repeat (first | with_reducible exact Below.refl _ _ | with_reducible refine Below.drew ?_ | with_reducible refine bl_drewN ?_ _ | with_reducible refine bl_alloc ?_ _)) hb))
         have Oh25 := Lib.hid ho
         clear ho
         have cA := bA25.out.cell
         have hS25 := (Blk.four bA25.out)
         clear hb)))
  have cA := bA25.out.cell
  clear Hu25 Hv25 HX25
  go_wp2_with fail
  refine (eqIntS_any _ Ah Ay _ ch cy us Oh25.out.reads Oy25.out.reads (by omega)).mono ?_
  rintro e w26 ⟨rfl, hb⟩
  have HB26 := Lib.hid (show Below w.heap.size w w26 from bl_trans (by repeat (first | with_reducible exact HB25.out | with_reducible refine Below.drew ?_ | with_reducible refine bl_drewN ?_ _ | with_reducible refine bl_alloc ?_ _)) hb)
  have hs26 : w25.heap.size ≤ w26.heap.size := by have := hb.size; (try simp at this); omega
  have bA26 := Lib.hid (show Blk w26 (w.heap.size) 50 #[.slice A1 n1 c1, .slice A2 n2 c2, .slice A3 n3 c3, .bool hi] from Blk.below (by repeat (first | with_reducible exact bA25.out | with_reducible refine Blk.drewN ?_ _ | with_reducible refine Blk.drewR ?_ | with_reducible refine Blk.alloc ?_ _)) hb (by have := bA25.out.lt; first | exact this | omega | (simp; omega)))
  have Oy26 := Lib.hid (OwnZ.below (w := w25) Oy25.out (show Below w25.heap.size w25 w26 from bl_trans (by repeat (first | with_reducible exact Below.refl _ _ | with_reducible refine Below.drew ?_ | with_reducible refine bl_drewN ?_ _ | with_reducible refine bl_alloc ?_ _)) hb))
  have Og26 := Lib.hid (OwnZ.below (w := w25) Og25.out (show Below w25.heap.size w25 w26 from bl_trans (by repeat (first | with_reducible exact Below.refl _ _ | with_reducible refine Below.drew ?_ | with_reducible refine bl_drewN ?_ _ | with_reducible refine bl_alloc ?_ _)) hb))
  have Oh26 := Lib.hid (OwnZ.below (w := w25) Oh25.out (show Below w25.heap.size w25 w26 from bl_trans (by repeat (first | with_reducible exact Below.refl _ _ | with_reducible refine Below.drew ?_ | with_reducible refine bl_drewN ?_ _ | with_reducible refine bl_alloc ?_ _)) hb))
  clear hb  bA25 Oy25 Og25 Oh25 HB25 cA
  have cA := bA26.out.cell
  go_wp2_with fail
  refine (heldZ_any w26 Ag us.length cg 1 (OwnZ.readsM Og26.out (marksZ_len _ _)) (by omega) (by omega)).mono ?_
  rintro e w0 ⟨rfl, rfl⟩
  go_wp2
  go_ret
  exact ⟨rfl, (by repeat (first | with_reducible exact HB26.out | with_reducible refine Below.drew ?_ | with_reducible refine bl_drewN ?_ _ | with_reducible refine bl_alloc ?_ _))⟩

end Go.Proofs.Ytjondedkgkohfaa
