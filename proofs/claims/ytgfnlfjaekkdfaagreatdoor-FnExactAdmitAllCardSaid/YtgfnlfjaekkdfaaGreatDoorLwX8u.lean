/- The walk of the exact law of AdmitAll. -/
import Derived.Test.YtgfnlfjaekkdfaaGreatDoorNA
import Derived.Test.YtgfnlfjaekkdfaaGreatDoorNB
import Derived.Test.YtgfnlfjaekkdfaaGreatDoorZk
import Derived.Test.YtgfnlfjaekkdfaaGreatDoorPAe
namespace Go.Proofs.YtgfnlfjaekkdfaaGreatDoor
open Go.RowKit
set_option linter.unusedVariables false

theorem OwnZ.readsNa {w : World} {B : Nat} {A : Option Addr} {n c : Nat} {zs : List Int} (h : OwnZ w B (.slice A n c) zs) (hn : zs.length = n) : Zs w w.heap.size A n zs := by
  subst hn
  exact h.reads
theorem Own.keptA {w w' : World} {B : Nat} {v : Value} {ts : List Tk} {row : Option Nat} (h : Own w B v ts) (hg : w.grownBy w' row) (hne : v.ownBlock = none ∨ v.ownBlock ≠ row) : Own w' B v ts := World.ownsRow.kept h hg hne
theorem OwnZ.keptA {w w' : World} {B : Nat} {v : Value} {zs : List Int} {row : Option Nat} (h : OwnZ w B v zs) (hg : w.grownBy w' row) (hne : v.ownBlock = none ∨ v.ownBlock ≠ row) : OwnZ w' B v zs := World.ownsRow.kept h hg hne
theorem apart {a b : Option Nat} (h : ∀ q, a = some q → b = some q → False) : a = none ∨ a ≠ b := by
  rcases ha : a with _ | k
  · exact .inl rfl
  · right
    intro e
    exact h k ha e.symm
set_option maxHeartbeats 2000000 in
theorem heldZ2_any (w : World) (A : Option Addr) (n c k0 : Nat) (h : Zs w w.heap.size A n (marksZ k0 n)) (hn : n ≤ 1048576) (hk0 : k0 ≤ 1000) :
    Calls Tryz.prog 28 #[.slice A n c, .int .i64 k0] w fun e w' => e = .returned (.int .i64 ((k0 + n : Nat) : Int)) ∧ w = w' := by
  have H := Lib.hid h
  clear h
  go_enter Tryz.func28, Tryz.ntmps28
  go_wp2
  go_loop [1, 5] (fun q i => ∃ j : Nat, j ≤ n ∧ i = .int .i64 j ∧ q = .int .i64 ((k0 + j : Nat) : Int)) (fun _ i => n - (intOf i).toNat)
  case atStart => exact ⟨0, Nat.zero_le _, rfl, rfl⟩
  case round =>
    obtain ⟨j, hj, rfl, rfl⟩ := hrel
    by_cases hlt : j < n
    · obtain ⟨b, o, rfl, hbl, c0⟩ := H.out.at_ j _ (marksZ_get hlt)
      have e0 : w.cell? ⟨b, o + j, none⟩ = some (.int .i64 ((k0 : Int) + (j : Int))) := c0
      clear c0
      have hji : (j : Int) < (n : Int) := by omega
      go_wp2
      go_round
      case rel => exact ⟨j + 1, by omega, by go_num, by go_num⟩
      case measure => simp [intOf]; omega
    · obtain rfl : j = n := by omega
      go_wp2
      go_ret
      exact ⟨rfl, rfl⟩

set_option maxRecDepth 100000 in
set_option maxHeartbeats 8000000 in
theorem fnExactAdmitAll_walk (w : World) (A : Option Addr) (n c : Nat) (ts : List Tk) (h : Tks w w.heap.size A n ts) (hmax : n ≤ 9223372036854775807) (a : Int) (e0 : Addr) (he : EG w e0) :
    Calls Tryz.prog 8 #[.slice A n c, .int .i64 a] w fun e w' => e = .returned (.bool true) ∧ Below w.heap.size w w' := by
  have H := Lib.hid h
  have HL := Lib.hid h.len
  have HE := Lib.hid he
  clear h he
  by_cases hn : 1048576 < n
  · go_enter Tryz.func8, Tryz.ntmps8
    go_wp2_with fail
    refine (sz_any w A n c hmax).mono ?_
    rintro e w1 ⟨rfl, rfl⟩
    rw [if_pos (by omega)]
    go_wp2
    go_ret
    exact ⟨rfl, Below.refl _ _⟩
  have htl : ts.length ≤ 1048576 := by rw [HL.out]; omega
  obtain ⟨b, hv⟩ : ∃ b, allB ts a = b := ⟨_, rfl⟩
  obtain ⟨us, hus⟩ : ∃ us, us = if b then (allA ts a ts.length).1 else [] := ⟨_, rfl⟩
  obtain ⟨zr, hzr⟩ : ∃ zr, zr = if b then (allA ts a ts.length).2 else [] := ⟨_, rfl⟩
  have HV := Lib.hid hv
  have HU : Hid (us = if b = true then (allA ts a ts.length).1 else []) := hus
  have HZ : Hid (zr = if b = true then (allA ts a ts.length).2 else []) := hzr
  have hul : us.length ≤ 5 := by
    rw [hus]; split
    · exact (all_len _ _ _ (Nat.le_refl _)).1
    · exact Nat.zero_le _
  have hzl : zr.length ≤ 1048576 := by
    rw [hzr]; split
    · exact Nat.le_trans (all_len _ _ _ (Nat.le_refl _)).2 htl
    · exact Nat.zero_le _
  clear hv hus hzr
  go_enter Tryz.func8, Tryz.ntmps8
  go_wp2_with fail
  refine (sz_any w A n c hmax).mono ?_
  rintro e w1 ⟨rfl, rfl⟩
  rw [if_neg (by omega)]
  obtain ⟨w1, hw1⟩ : ∃ w1, w1 = w := ⟨_, rfl⟩
  have HB1 : Hid (Below w.heap.size w w1) := Lib.hid (by rw [hw1]; exact Below.refl _ _)
  rw [← hw1]
  have hsw : w.heap.size = w1.heap.size := by rw [hw1]
  clear hw1
  go_wp2_with fail
  refine (toTaskS_any w1 A n c ts ((H.out.below HB1.out).more HB1.out.size) (by omega)).mono ?_
  rintro e w2 ⟨Au, cu, rfl, ho, hb⟩
  have hs2 : w1.heap.size ≤ w2.heap.size := hb.size
  have HB2 := Lib.hid (bl_trans HB1.out hb)
  have HOu2 := Lib.hid ho
  have HMu := Lib.hid (World.ownsRow.lt ho)
  clear hb ho
  go_wp2_with fail
  refine (sAll_is w2 Au _ cu ts a HOu2.out.reads.2 b HV.out (by omega) us zr HU.out HZ.out).mono ?_
  rintro e w3 ⟨Ay, cy, Ayz, cyz, rfl, ho, hoz, hb⟩
  have hs3 : w2.heap.size ≤ w3.heap.size := hb.size
  have HB3 := Lib.hid (bl_trans HB2.out hb)
  have HOu3 := Lib.hid (HOu2.out.below hb)
  have HOy3 := Lib.hid ho
  have HMy := Lib.hid (World.ownsRow.lt ho)
  have HOyz3 := Lib.hid hoz
  have HMyz := Lib.hid (World.ownsRow.lt hoz)
  clear hb ho hoz HOu2
  clear HOu3
  go_wp2_with fail
  refine (toTaskS_any w3 A n c ts ((H.out.below HB3.out).more HB3.out.size) (by omega)).mono ?_
  rintro e w4 ⟨Ax, cx, rfl, ho, hb⟩
  have hs4 : w3.heap.size ≤ w4.heap.size := hb.size
  have HB4 := Lib.hid (bl_trans HB3.out hb)
  have HOy4 := Lib.hid (HOy3.out.below hb)
  have HOyz4 := Lib.hid (HOyz3.out.below hb)
  have HOx4 := Lib.hid ho
  have HMx := Lib.hid (World.ownsRow.lt ho)
  clear hb ho HOy3 HOyz3
  go_wp2_with fail
  refine (iAll2_is w4 Ax _ cx ts a HOx4.out.reads.2 b HV.out (by omega) us zr HU.out HZ.out e0 (HE.out.below HB4.out)).mono ?_
  rintro e w5 ⟨Ag, cg, Agz, cgz, rfl, ho, hoz, hb, hsp⟩
  have hs5 : w4.heap.size ≤ w5.heap.size := hb.size
  have HB5 := Lib.hid (bl_trans HB4.out hb)
  have HOy5 := Lib.hid (HOy4.out.below hb)
  have HOyz5 := Lib.hid (HOyz4.out.below hb)
  have HOx5 := Lib.hid (HOx4.out.below hb)
  have HOg5 := Lib.hid ho
  have HMg := Lib.hid (World.ownsRow.lt ho)
  have HOgz5 := Lib.hid hoz
  have HMgz := Lib.hid (World.ownsRow.lt hoz)
  clear hb ho hoz HOy4 HOyz4 HOx4
  have HSP := Lib.hid hsp
  clear hsp
  go_wp2_with fail
  refine (eqTaskS_any w5 Ag Ay _ cg cy us HOg5.out.reads.2 HOy5.out.reads.2 (by omega)).mono ?_
  rintro e w6 ⟨rfl, hb⟩
  have hs6 : w5.heap.size ≤ w6.heap.size := hb.size
  have HB6 := Lib.hid (bl_trans HB5.out hb)
  have HOy6 := Lib.hid (HOy5.out.below hb)
  have HOyz6 := Lib.hid (HOyz5.out.below hb)
  have HOx6 := Lib.hid (HOx5.out.below hb)
  have HOg6 := Lib.hid (HOg5.out.below hb)
  have HOgz6 := Lib.hid (HOgz5.out.below hb)
  clear hb  HOy5 HOyz5 HOx5 HOg5 HOgz5
  go_wp2_with fail
  refine (eqIntS_any w6 Agz Ayz _ cgz cyz zr HOgz6.out.reads HOyz6.out.reads (by omega)).mono ?_
  rintro e w7 ⟨rfl, hb⟩
  have hs7 : w6.heap.size ≤ w7.heap.size := hb.size
  have HB7 := Lib.hid (bl_trans HB6.out hb)
  have HOy7 := Lib.hid (HOy6.out.below hb)
  have HOyz7 := Lib.hid (HOyz6.out.below hb)
  have HOx7 := Lib.hid (HOx6.out.below hb)
  have HOg7 := Lib.hid (HOg6.out.below hb)
  have HOgz7 := Lib.hid (HOgz6.out.below hb)
  clear hb  HOy6 HOyz6 HOx6 HOg6 HOgz6
  go_wp2_with fail
  refine (toTaskS_any w7 A n c ts ((H.out.below HB7.out).more HB7.out.size) (by omega)).mono ?_
  rintro e w8 ⟨Av, cv, rfl, ho, hb⟩
  have hs8 : w7.heap.size ≤ w8.heap.size := hb.size
  have HB8 := Lib.hid (bl_trans HB7.out hb)
  have HOy8 := Lib.hid (HOy7.out.below hb)
  have HOyz8 := Lib.hid (HOyz7.out.below hb)
  have HOx8 := Lib.hid (HOx7.out.below hb)
  have HOg8 := Lib.hid (HOg7.out.below hb)
  have HOgz8 := Lib.hid (HOgz7.out.below hb)
  have HOv8 := Lib.hid ho
  have HMv := Lib.hid (World.ownsRow.lt ho)
  clear hb ho HOy7 HOyz7 HOx7 HOg7 HOgz7
  go_wp2_with fail
  refine (eqTaskS_any w8 Ax Av _ cx cv ts HOx8.out.reads.2 HOv8.out.reads.2 (by omega)).mono ?_
  rintro e w9 ⟨rfl, hb⟩
  have hs9 : w8.heap.size ≤ w9.heap.size := hb.size
  have HB9 := Lib.hid (bl_trans HB8.out hb)
  have HOy9 := Lib.hid (HOy8.out.below hb)
  have HOyz9 := Lib.hid (HOyz8.out.below hb)
  have HOx9 := Lib.hid (HOx8.out.below hb)
  have HOg9 := Lib.hid (HOg8.out.below hb)
  have HOgz9 := Lib.hid (HOgz8.out.below hb)
  have HOv9 := Lib.hid (HOv8.out.below hb)
  clear hb  HOy8 HOyz8 HOx8 HOg8 HOgz8 HOv8
  clear HOv9
  go_wp2_with fail
  refine (mark_own w9 _ Ax _ cx 1 ts HOx9.out (by omega) (by omega)).mono ?_
  rintro e w10 ⟨rfl, ho, hg⟩
  have HOx10 := Lib.hid ho
  have HB10 := Lib.hid (HB9.out.grown hg HB9.out.size (fun q e => by have := (HMx.out q e).1; omega))
  have hs10 : w9.heap.size ≤ w10.heap.size := hg.size
  have HOy10 := Lib.hid (Own.keptA HOy9.out hg (apart (fun q e e2 => by have := (HMy.out q e).2; have := (HMx.out q e2).1; omega)))
  have HOyz10 := Lib.hid (OwnZ.keptA HOyz9.out hg (apart (fun q e e2 => by have := (HMyz.out q e).2; have := (HMx.out q e2).1; omega)))
  have HOg10 := Lib.hid (Own.keptA HOg9.out hg (apart (fun q e e2 => by have := (HMg.out q e).1; have := (HMx.out q e2).2; omega)))
  have HOgz10 := Lib.hid (OwnZ.keptA HOgz9.out hg (apart (fun q e e2 => by have := (HMgz.out q e).1; have := (HMx.out q e2).2; omega)))
  clear ho hg HOy9 HOyz9 HOx9 HOg9 HOgz9
  clear HOx10
  go_wp2_with fail
  refine (eqTaskS_any w10 Ag Ay _ cg cy us HOg10.out.reads.2 HOy10.out.reads.2 (by omega)).mono ?_
  rintro e w11 ⟨rfl, hb⟩
  have hs11 : w10.heap.size ≤ w11.heap.size := hb.size
  have HB11 := Lib.hid (bl_trans HB10.out hb)
  have HOy11 := Lib.hid (HOy10.out.below hb)
  have HOyz11 := Lib.hid (HOyz10.out.below hb)
  have HOg11 := Lib.hid (HOg10.out.below hb)
  have HOgz11 := Lib.hid (HOgz10.out.below hb)
  clear hb  HOy10 HOyz10 HOg10 HOgz10
  go_wp2_with fail
  refine (eqIntS_any w11 Agz Ayz _ cgz cyz zr HOgz11.out.reads HOyz11.out.reads (by omega)).mono ?_
  rintro e w12 ⟨rfl, hb⟩
  have hs12 : w11.heap.size ≤ w12.heap.size := hb.size
  have HB12 := Lib.hid (bl_trans HB11.out hb)
  have HOy12 := Lib.hid (HOy11.out.below hb)
  have HOyz12 := Lib.hid (HOyz11.out.below hb)
  have HOg12 := Lib.hid (HOg11.out.below hb)
  have HOgz12 := Lib.hid (HOgz11.out.below hb)
  clear hb  HOy11 HOyz11 HOg11 HOgz11
  go_wp2_with fail
  refine (mark_own w12 _ Ag _ cg 1 us HOg12.out (by omega) (by omega)).mono ?_
  rintro e w13 ⟨rfl, ho, hg⟩
  have HOg13 := Lib.hid ho
  have HB13 := Lib.hid (HB12.out.grown hg HB12.out.size (fun q e => by have := (HMg.out q e).1; omega))
  have hs13 : w12.heap.size ≤ w13.heap.size := hg.size
  have HOy13 := Lib.hid (Own.keptA HOy12.out hg (apart (fun q e e2 => by have := (HMy.out q e).2; have := (HMg.out q e2).1; omega)))
  have HOyz13 := Lib.hid (OwnZ.keptA HOyz12.out hg (apart (fun q e e2 => by have := (HMyz.out q e).2; have := (HMg.out q e2).1; omega)))
  have HOgz13 := Lib.hid (OwnZ.keptA HOgz12.out hg (apart (fun q e e2 => HSP.out q e2 e)))
  clear ho hg HOy12 HOyz12 HOg12 HOgz12
  go_wp2_with fail
  refine (markZ_own w13 _ Agz cgz (1 + us.length * 5) zr HOgz13.out (by omega) (by omega)).mono ?_
  rintro e w14 ⟨rfl, ho, hg⟩
  have HOgz14 := Lib.hid ho
  have HB14 := Lib.hid (HB13.out.grown hg HB13.out.size (fun q e => by have := (HMgz.out q e).1; omega))
  have hs14 : w13.heap.size ≤ w14.heap.size := hg.size
  have HOy14 := Lib.hid (Own.keptA HOy13.out hg (apart (fun q e e2 => by have := (HMy.out q e).2; have := (HMgz.out q e2).1; omega)))
  have HOyz14 := Lib.hid (OwnZ.keptA HOyz13.out hg (apart (fun q e e2 => by have := (HMyz.out q e).2; have := (HMgz.out q e2).1; omega)))
  have HOg14 := Lib.hid (Own.keptA HOg13.out hg (apart (fun q e e2 => HSP.out q e e2)))
  clear ho hg HOy13 HOyz13 HOg13 HOgz13
  go_wp2_with fail
  refine (held_any w14 Ag _ cg 1 HOg14.out.reads.2 (by omega) (by omega)).mono ?_
  rintro e w0 ⟨rfl, rfl⟩
  have hneg : decide (((1 + us.length * 5 : Nat) : Int) < 0) = false := decide_eq_false (by omega)
  go_wp2_with fail
  refine (heldZ2_any w14 Agz zr.length cgz (1 + us.length * 5) (OwnZ.readsNa HOgz14.out (marksZ_len _ _)) (by omega) (by omega)).mono ?_
  rintro e w0 ⟨rfl, rfl⟩
  have hneg2 : decide (((1 + us.length * 5 + zr.length : Nat) : Int) < 0) = false := decide_eq_false (by omega)
  go_wp2_with fail
  refine (toTaskS_any w14 A n c ts ((H.out.below HB14.out).more HB14.out.size) (by omega)).mono ?_
  rintro e w15 ⟨Az, cz, rfl, ho, hb⟩
  have hs15 : w14.heap.size ≤ w15.heap.size := hb.size
  have HB15 := Lib.hid (bl_trans HB14.out hb)
  have HOy15 := Lib.hid (HOy14.out.below hb)
  have HOyz15 := Lib.hid (HOyz14.out.below hb)
  have HOg15 := Lib.hid (HOg14.out.below hb)
  have HOgz15 := Lib.hid (HOgz14.out.below hb)
  have HOz15 := Lib.hid ho
  have HMz := Lib.hid (World.ownsRow.lt ho)
  clear hb ho HOy14 HOyz14 HOg14 HOgz14
  go_wp2_with fail
  refine (iAll2_is w15 Az _ cz ts a HOz15.out.reads.2 b HV.out (by omega) us zr HU.out HZ.out e0 (HE.out.below HB15.out)).mono ?_
  rintro e w16 ⟨Ah, ch, Ahz, chz, rfl, ho, hoz, hb, _⟩
  have hs16 : w15.heap.size ≤ w16.heap.size := hb.size
  have HB16 := Lib.hid (bl_trans HB15.out hb)
  have HOy16 := Lib.hid (HOy15.out.below hb)
  have HOyz16 := Lib.hid (HOyz15.out.below hb)
  have HOg16 := Lib.hid (HOg15.out.below hb)
  have HOgz16 := Lib.hid (HOgz15.out.below hb)
  have HOz16 := Lib.hid (HOz15.out.below hb)
  have HOh16 := Lib.hid ho
  have HMh := Lib.hid (World.ownsRow.lt ho)
  have HOhz16 := Lib.hid hoz
  have HMhz := Lib.hid (World.ownsRow.lt hoz)
  clear hb ho hoz HOy15 HOyz15 HOg15 HOgz15 HOz15
  clear HOz16
  go_wp2_with fail
  refine (eqTaskS_any w16 Ah Ay _ ch cy us HOh16.out.reads.2 HOy16.out.reads.2 (by omega)).mono ?_
  rintro e w17 ⟨rfl, hb⟩
  have hs17 : w16.heap.size ≤ w17.heap.size := hb.size
  have HB17 := Lib.hid (bl_trans HB16.out hb)
  have HOy17 := Lib.hid (HOy16.out.below hb)
  have HOyz17 := Lib.hid (HOyz16.out.below hb)
  have HOg17 := Lib.hid (HOg16.out.below hb)
  have HOgz17 := Lib.hid (HOgz16.out.below hb)
  have HOh17 := Lib.hid (HOh16.out.below hb)
  have HOhz17 := Lib.hid (HOhz16.out.below hb)
  clear hb  HOy16 HOyz16 HOg16 HOgz16 HOh16 HOhz16
  go_wp2_with fail
  refine (eqIntS_any w17 Ahz Ayz _ chz cyz zr HOhz17.out.reads HOyz17.out.reads (by omega)).mono ?_
  rintro e w18 ⟨rfl, hb⟩
  have hs18 : w17.heap.size ≤ w18.heap.size := hb.size
  have HB18 := Lib.hid (bl_trans HB17.out hb)
  have HOy18 := Lib.hid (HOy17.out.below hb)
  have HOyz18 := Lib.hid (HOyz17.out.below hb)
  have HOg18 := Lib.hid (HOg17.out.below hb)
  have HOgz18 := Lib.hid (HOgz17.out.below hb)
  have HOh18 := Lib.hid (HOh17.out.below hb)
  have HOhz18 := Lib.hid (HOhz17.out.below hb)
  clear hb  HOy17 HOyz17 HOg17 HOgz17 HOh17 HOhz17
  go_wp2_with fail
  refine (held_any w18 Ag _ cg 1 HOg18.out.reads.2 (by omega) (by omega)).mono ?_
  rintro e w0 ⟨rfl, rfl⟩
  have hneg : decide (((1 + us.length * 5 : Nat) : Int) < 0) = false := decide_eq_false (by omega)
  go_wp2_with fail
  refine (heldZ2_any w18 Agz zr.length cgz (1 + us.length * 5) (OwnZ.readsNa HOgz18.out (marksZ_len _ _)) (by omega) (by omega)).mono ?_
  rintro e w0 ⟨rfl, rfl⟩
  have hneg2 : decide (((1 + us.length * 5 + zr.length : Nat) : Int) < 0) = false := decide_eq_false (by omega)
  go_wp2
  go_ret
  exact ⟨rfl, HB18.out⟩

end Go.Proofs.YtgfnlfjaekkdfaaGreatDoor
