/- The walk of the exact law of AdmitTask. -/
import Derived.Test.YtfjbkblodgdcnaaGreatDoorNA
import Derived.Test.YtfjbkblodgdcnaaGreatDoorNB
import Derived.Test.YtfjbkblodgdcnaaGreatDoorSAd
import Derived.Test.YtfjbkblodgdcnaaGreatDoorPAd
import Derived.Deep.RegionWith
namespace Go.Proofs.YtfjbkblodgdcnaaGreatDoor
open Go.RowKit
set_option linter.unusedVariables false

set_option maxRecDepth 100000 in
set_option maxHeartbeats 8000000 in
theorem fnExactAdmitTask_walk (w : World) (A : Option Addr) (n c : Nat) (ts : List Tk) (h : Tks w w.heap.size A n ts) (hmax : n ≤ 9223372036854775807) (lo hi' du ev : Int) (cr : Bool) (a : Int) (e0 : Addr) (he : EG w e0) :
    Calls Tryz.prog 7 #[.slice A n c, .agg #[.int .i64 lo, .int .i64 hi', .int .i64 du, .int .i64 ev, .bool cr], .int .i64 a] w fun e w' => e = .returned (.bool true) ∧ Below w.heap.size w w' := by
  have HL := Lib.hid h.len
  obtain ⟨W0, hW0⟩ : ∃ W0, w.alloc (.cells #[.int .i64 lo, .int .i64 hi', .int .i64 du, .int .i64 ev, .bool cr] 44) = W0 := ⟨_, rfl⟩
  have hb0 : Below w.heap.size w W0 := by rw [← hW0]; exact bl_alloc (Below.refl _ _) _
  have bT : Blk W0 w.heap.size 44 #[.int .i64 lo, .int .i64 hi', .int .i64 du, .int .i64 ev, .bool cr] := by rw [← hW0]; exact Blk.new w _ _
  have HB0 := Lib.hid hb0
  have BT := Lib.hid bT
  have H0 := Lib.hid ((h.below hb0).more hb0.size)
  have HE0 := Lib.hid (he.below hb0)
  clear hb0 bT h he
  by_cases hn : 1048576 < n
  · go_enter Tryz.func7, Tryz.ntmps7
    go_wp2_with (go_at_call 22; refine (sz_any W0 A n c hmax).mono ?_; rintro e w1 ⟨rfl, rfl⟩; rw [if_pos (by omega)])
    go_ret
    exact ⟨rfl, HB0.out⟩
  have htl : ts.length ≤ 1048576 := by rw [HL.out]; omega
  obtain ⟨us, b, hu⟩ : ∃ us b, admB ts ⟨lo, hi', du, ev, cr⟩ a = b ∧ us = admL ts ⟨lo, hi', du, ev, cr⟩ a := ⟨_, _, rfl, rfl⟩
  have hul : us.length ≤ 5 := by rw [hu.2]; exact adm_len5
  have HU := Lib.hid hu
  clear hu
  go_enter Tryz.func7, Tryz.ntmps7
  go_wp2_with (go_at_call 22; refine (sz_any W0 A n c hmax).mono ?_; rintro e w1 ⟨rfl, rfl⟩; rw [if_neg (by omega)])
  clear hW0
  have HBr : Hid (Below W0.heap.size W0 W0) := Below.refl _ _
  have cT := BT.out.cell
  go_region_with (first
    | (go_at_call 23; refine (toTaskS_any _ A n c ts ?_ (by omega)).mono ?_; (exact (H0.out.below (by repeat (first | with_reducible exact HBr.out | with_reducible refine Below.drew ?_) : Below W0.heap.size W0 _)).more (by first | exact HBr.out.size | exact Nat.le_refl _)); rintro e wu ⟨Au, cu, rfl, ho, hb⟩; have HOu := Lib.hid (own_more ho (by first | exact HBr.out.size | exact Nat.le_refl _) : Own wu W0.heap.size (.slice Au ts.length cu) ts); have HBr := Lib.hid (bl_trans (by repeat (first | with_reducible exact HBr.out | with_reducible refine Below.drew ?_) : Below W0.heap.size W0 _) hb); have cT2 := (BT.out.below HBr.out BT.out.lt).cell; clear ho hb)
    | (go_at_call 24; refine (toTask_any _ _ _ _ _ _).mono ?_; rintro e wt ⟨rfl, hb⟩; (try have HOu := Lib.hid (HOu.out.below hb)); have HBr := Lib.hid (bl_trans (by repeat (first | with_reducible exact HBr.out | with_reducible refine Below.drew ?_) : Below W0.heap.size W0 _) hb); have cT2 := (BT.out.below HBr.out BT.out.lt).cell; clear hb)
    | (go_at_call 10; refine (sAdmit_is _ Au _ cu ts ⟨lo, hi', du, ev, cr⟩ a us b HOu.out.reads.2 (by omega) HU.out.1 HU.out.2).mono ?_; rintro e w3 ⟨Ay, cy, rfl, ho, hb⟩; have HOy3 := Lib.hid ho; have HMy := Lib.hid (World.ownsRow.lt ho); have HB3 := Lib.hid (bl_trans HBr.out hb); have hs3 : W0.heap.size ≤ w3.heap.size := HB3.out.size; clear ho hb))
  all_goals (
    (try clear cT cT2 HBr)
    go_wp2_with fail
    refine (toTaskS_any w3 A n c ts  ((H0.out.below HB3.out).more HB3.out.size) (by omega)).mono ?_
    rintro e w4 ⟨Ax, cx, rfl, ho, hb⟩
    have HOx4 := Lib.hid ho
    have HMx := Lib.hid (World.ownsRow.lt ho)
    have hs4 : w3.heap.size ≤ w4.heap.size := hb.size
    clear ho
    have HB4 := Lib.hid (bl_trans HB3.out hb)
    have HOy4 := Lib.hid (HOy3.out.below hb)
    clear hb HOy3
    have cT4 := (BT.out.below HB4.out BT.out.lt).cell
    go_wp2_with fail
    refine (toTask_any _ _ _ _ _ w4).mono ?_
    rintro e w4t ⟨rfl, hb⟩
    have hs4t : w4.heap.size ≤ w4t.heap.size := hb.size
    have HB4t := Lib.hid (bl_trans HB4.out hb)
    have HOy4t := Lib.hid (HOy4.out.below hb)
    have HOx4t := Lib.hid (HOx4.out.below hb)
    clear hb HOx4 HOy4 cT4
    go_wp2_with fail
    refine (iAdmit_is w4t Ax _ cx ts ⟨lo, hi', du, ev, cr⟩ a us b HOx4t.out.reads.2 (by omega) (own_le HOx4t.out) e0 (HE0.out.below HB4t.out) HU.out.1 HU.out.2).mono ?_
    rintro e w5 ⟨Ag, cg, rfl, ho, hb⟩
    have HOg5 := Lib.hid ho
    have HMg := Lib.hid (World.ownsRow.lt ho)
    have hs5 : w4t.heap.size ≤ w5.heap.size := hb.size
    clear ho
    have HB5 := Lib.hid (bl_trans HB4t.out hb)
    have HOy5 := Lib.hid (HOy4t.out.below hb)
    have HOx5 := Lib.hid (HOx4t.out.below hb)
    clear hb HOy4t HOx4t
    go_wp2_with fail
    refine (eqTaskS_any w5 Ag Ay _ cg cy us HOg5.out.reads.2 HOy5.out.reads.2 (by omega)).mono ?_
    rintro e w6 ⟨rfl, hb⟩
    have hs6 : w5.heap.size ≤ w6.heap.size := hb.size
    have HB6 := Lib.hid (bl_trans HB5.out hb)
    have HOy6 := Lib.hid (HOy5.out.below hb)
    have HOx6 := Lib.hid (HOx5.out.below hb)
    have HOg6 := Lib.hid (HOg5.out.below hb)
    clear hb HOy5 HOx5 HOg5
    go_wp2_with fail
    refine (toTaskS_any w6 A n c ts  ((H0.out.below HB6.out).more HB6.out.size) (by omega)).mono ?_
    rintro e w7 ⟨Av, cv, rfl, ho, hb⟩
    have HOv7 := Lib.hid ho
    have HMv := Lib.hid (World.ownsRow.lt ho)
    have hs7 : w6.heap.size ≤ w7.heap.size := hb.size
    clear ho
    have HB7 := Lib.hid (bl_trans HB6.out hb)
    have HOy7 := Lib.hid (HOy6.out.below hb)
    have HOx7 := Lib.hid (HOx6.out.below hb)
    have HOg7 := Lib.hid (HOg6.out.below hb)
    clear hb HOy6 HOx6 HOg6
    go_wp2_with fail
    refine (eqTaskS_any w7 Ax Av _ cx cv ts HOx7.out.reads.2 HOv7.out.reads.2 (by omega)).mono ?_
    rintro e w8 ⟨rfl, hb⟩
    have hs8 : w7.heap.size ≤ w8.heap.size := hb.size
    have HB8 := Lib.hid (bl_trans HB7.out hb)
    have HOy8 := Lib.hid (HOy7.out.below hb)
    have HOx8 := Lib.hid (HOx7.out.below hb)
    have HOg8 := Lib.hid (HOg7.out.below hb)
    have HOv8 := Lib.hid (HOv7.out.below hb)
    clear hb HOy7 HOx7 HOg7 HOv7
    go_wp2_with fail
    refine (mark_own w8 _ Ax _ cx 1 ts HOx8.out (by omega) (by omega)).mono ?_
    rintro e w9 ⟨rfl, ho, hg⟩
    have HOx9 := Lib.hid ho
    have HB9 := Lib.hid (HB8.out.grown hg HB8.out.size (fun q e => by have := (World.ownsRow.lt HOx8.out q e).1; omega))
    have hs9 : w8.heap.size ≤ w9.heap.size := hg.size
    have HOy9 := Lib.hid (HOy8.out.kept_down hg (M := w3.heap.size) (fun q e => by have := (HMy.out q e).2; omega) (fun q e => by have := (HMx.out q e).1; omega))
    have HOg9 := Lib.hid (HOg8.out.kept hg (fun q e => by have := (HMx.out q e).2; omega))
    clear ho hg HOx8 HOy8 HOg8
    go_wp2_with fail
    refine (eqTaskS_any w9 Ag Ay _ cg cy us HOg9.out.reads.2 HOy9.out.reads.2 (by omega)).mono ?_
    rintro e w10 ⟨rfl, hb⟩
    have hs10 : w9.heap.size ≤ w10.heap.size := hb.size
    have HB10 := Lib.hid (bl_trans HB9.out hb)
    have HOy10 := Lib.hid (HOy9.out.below hb)
    have HOg10 := Lib.hid (HOg9.out.below hb)
    have HOx10 := Lib.hid (HOx9.out.below hb)
    clear hb HOy9 HOg9 HOx9
    go_wp2_with fail
    refine (mark_own w10 _ Ag _ cg 1 us HOg10.out (by omega) (by omega)).mono ?_
    rintro e w11 ⟨rfl, ho, hg⟩
    have HOg11 := Lib.hid ho
    have HB11 := Lib.hid (HB10.out.grown hg HB10.out.size (fun q e => by have := (World.ownsRow.lt HOg10.out q e).1; omega))
    have hs11 : w10.heap.size ≤ w11.heap.size := hg.size
    have HOy11 := Lib.hid (HOy10.out.kept_down hg (M := w4t.heap.size) (fun q e => by have := (HMy.out q e).2; omega) (fun q e => by have := (HMg.out q e).1; omega))
    clear ho hg HOy10 HOg10
    go_wp2_with fail
    refine (held_any w11 Ag _ cg 1 HOg11.out.reads.2 (by omega) (by omega)).mono ?_
    rintro e w0 ⟨rfl, rfl⟩
    go_wp2
    have H11 := Lib.hid ((H0.out.below HB11.out).more HB11.out.size)
    have BT11 := Lib.hid (BT.out.below HB11.out BT.out.lt)
    have HE11 := Lib.hid (HE0.out.below HB11.out)
    have HBr : Hid (Below w11.heap.size w11 w11) := Below.refl _ _
    have cT := BT11.out.cell
    go_region_with (first
      | (go_at_call 23; refine (toTaskS_any _ A n c ts ?_ (by omega)).mono ?_; (exact (H11.out.below (by repeat (first | with_reducible exact HBr.out | with_reducible refine Below.drew ?_) : Below w11.heap.size w11 _)).more (by first | exact HBr.out.size | exact Nat.le_refl _)); rintro e wu ⟨Au, cu, rfl, ho, hb⟩; have HOu := Lib.hid (own_more ho (by first | exact HBr.out.size | exact Nat.le_refl _) : Own wu w11.heap.size (.slice Au ts.length cu) ts); have HBr := Lib.hid (bl_trans (by repeat (first | with_reducible exact HBr.out | with_reducible refine Below.drew ?_) : Below w11.heap.size w11 _) hb); have cT2 := (BT11.out.below HBr.out BT11.out.lt).cell; clear ho hb)
      | (go_at_call 24; refine (toTask_any _ _ _ _ _ _).mono ?_; rintro e wt ⟨rfl, hb⟩; (try have HOu := Lib.hid (HOu.out.below hb)); have HBr := Lib.hid (bl_trans (by repeat (first | with_reducible exact HBr.out | with_reducible refine Below.drew ?_) : Below w11.heap.size w11 _) hb); have cT2 := (BT11.out.below HBr.out BT11.out.lt).cell; clear hb)
      | (go_at_call 9; refine (iAdmit_is _ Au _ cu ts ⟨lo, hi', du, ev, cr⟩ a us b HOu.out.reads.2 (by omega) (own_le HOu.out) e0 (HE11.out.below HBr.out) HU.out.1 HU.out.2).mono ?_; rintro e w13 ⟨Ah, ch, rfl, ho, hb⟩; have HOh13 := Lib.hid ho; have HX := Lib.hid (bl_trans HBr.out hb); clear ho hb))
    all_goals (
      (try clear cT cT2)
      have HB13 := Lib.hid (bl_trans HB11.out HX.out)
      have HOy13 := Lib.hid (HOy11.out.below HX.out)
      have HOg13 := Lib.hid (HOg11.out.below HX.out)
      have hs13 : w11.heap.size ≤ w13.heap.size := HX.out.size
      clear HOy11 HOg11 HX
      go_wp2_with fail
      refine (eqTaskS_any w13 Ah Ay _ ch cy us HOh13.out.reads.2 HOy13.out.reads.2 (by omega)).mono ?_
      rintro e w14 ⟨rfl, hb⟩
      have hs14 : w13.heap.size ≤ w14.heap.size := hb.size
      have HB14 := Lib.hid (bl_trans HB13.out hb)
      have HOy14 := Lib.hid (HOy13.out.below hb)
      have HOg14 := Lib.hid (HOg13.out.below hb)
      have HOh14 := Lib.hid (HOh13.out.below hb)
      clear hb HOy13 HOg13 HOh13
      go_wp2_with fail
      refine (held_any w14 Ag _ cg 1 HOg14.out.reads.2 (by omega) (by omega)).mono ?_
      rintro e w0 ⟨rfl, rfl⟩
      go_wp2
      go_ret
      exact ⟨rfl, HB0.out.trans (HB14.out.mono HB0.out.size)⟩))

end Go.Proofs.YtfjbkblodgdcnaaGreatDoor
