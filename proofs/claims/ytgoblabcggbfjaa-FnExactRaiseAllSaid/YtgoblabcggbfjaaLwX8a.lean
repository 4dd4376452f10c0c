/- The walks of the exact laws of LeaveTask and RaiseAll. -/
import Derived.Test.YtgoblabcggbfjaaMA
import Derived.Test.YtgoblabcggbfjaaLv
import Derived.Test.YtgoblabcggbfjaaRi
namespace Go.Proofs.Ytgoblabcggbfjaa
open Go.RowKit
set_option linter.unusedVariables false

theorem leave_len {ts us : List Tk} {a : Int} {b : Bool} (h : hasB ts ts.length a = b ∧ (if hasB ts ts.length a then ts.eraseIdx a.toNat else []) = us) : us.length ≤ 5 := by
  rw [← h.2]
  split
  · rename_i hh
    have := setB_len (has_at hh).1
    have := List.length_eraseIdx_le ts a.toNat
    omega
  · exact Nat.zero_le _
theorem raise_len {ts us : List Tk} {a : Int} {b : Bool} (h : raiseB ts a = b ∧ (if raiseB ts a then raiseL ts a else []) = us) : us.length ≤ 5 := by
  rw [← h.2]
  split
  · rename_i hh
    unfold raiseB at hh
    rw [Bool.and_eq_true] at hh
    rw [raiseL_len]
    exact setB_len hh.1
  · exact Nat.zero_le _
theorem sLeave_at (w : World) {B : Nat} (A : Option Addr) (c : Nat) (ts : List Tk) (a : Int) (us : List Tk) (b : Bool) (h : Own w B (.slice A ts.length c) ts) (hn : ts.length ≤ 1048576) (hu : hasB ts ts.length a = b ∧ (if hasB ts ts.length a then ts.eraseIdx a.toNat else []) = us) :
    Calls Try.prog 48 #[.slice A ts.length c, .int .i64 a] w (LsRes2 us b w) :=
  sLeave_is w A ts.length c ts a us b h.reads.2 hn (own_le h) hu.1 (by rw [← hu.1]; exact hu.2.symm)
theorem iLeave_at (w : World) {B : Nat} (A : Option Addr) (c : Nat) (ts : List Tk) (a : Int) (us : List Tk) (b : Bool) (h : Own w B (.slice A ts.length c) ts) (hn : ts.length ≤ 1048576) (hu : hasB ts ts.length a = b ∧ (if hasB ts ts.length a then ts.eraseIdx a.toNat else []) = us) :
    Calls Try.prog 49 #[.slice A ts.length c, .int .i64 a] w (LsRes2 us b w) :=
  iLeave_is w A ts.length c ts a us b h.reads.2 hn (own_le h) hu.1 (by rw [← hu.1]; exact hu.2.symm)
theorem sRaise_at (w : World) {B : Nat} (A : Option Addr) (c : Nat) (ts : List Tk) (a : Int) (us : List Tk) (b : Bool) (h : Own w B (.slice A ts.length c) ts) (hn : ts.length ≤ 1048576) (hu : raiseB ts a = b ∧ (if raiseB ts a then raiseL ts a else []) = us) :
    Calls Try.prog 33 #[.slice A ts.length c, .int .i64 a] w (LsRes2 us b w) :=
  sRaise_is w A ts.length c ts a us b h.reads.2 hn hu.1 (by rw [← hu.1]; exact hu.2.symm)
theorem iRaise_at (w : World) {B : Nat} (A : Option Addr) (c : Nat) (ts : List Tk) (a : Int) (us : List Tk) (b : Bool) (h : Own w B (.slice A ts.length c) ts) (hn : ts.length ≤ 1048576) (hu : raiseB ts a = b ∧ (if raiseB ts a then raiseL ts a else []) = us) :
    Calls Try.prog 32 #[.slice A ts.length c, .int .i64 a] w (LsRes2 us b w) :=
  iRaise_is w A ts.length c ts a us b h.reads.2 hn hu.1 (by rw [← hu.1]; exact hu.2.symm)

set_option maxRecDepth 100000 in
set_option maxHeartbeats 4000000 in
theorem fnExactLeaveTask_walk (w : World) (A : Option Addr) (n c : Nat) (ts : List Tk) (h : Tks w w.heap.size A n ts) (hmax : n ≤ 9223372036854775807) (a : Int) :
    Calls Try.prog 14 #[.slice A n c, .int .i64 a] w fun e w' => e = .returned (.bool true) ∧ Below w.heap.size w w' := by
  have H := Lib.hid h
  have HL := Lib.hid h.len
  clear h
  by_cases hn : 1048576 < n
  · go_enter Try.func14, Try.ntmps14
    go_wp2_with fail
    refine (sz_any w A n c hmax).mono ?_
    rintro e w1 ⟨rfl, rfl⟩
    rw [if_pos (by omega)]
    go_wp2
    go_ret
    exact ⟨rfl, Below.refl _ _⟩
  go_enter Try.func14, Try.ntmps14
  go_wp2_with fail
  refine (sz_any w A n c hmax).mono ?_
  rintro e w1 ⟨rfl, rfl⟩
  rw [if_neg (by omega)]
  have HB1 : Hid (Below w.heap.size w w) := Below.refl _ _
  have htl : ts.length ≤ 1048576 := by rw [HL.out]; omega
  obtain ⟨us, b, hu⟩ : ∃ us b, hasB ts ts.length a = b ∧ (if hasB ts ts.length a then ts.eraseIdx a.toNat else []) = us := ⟨_, _, rfl, rfl⟩
  have hul : us.length ≤ 5 := leave_len hu
  have HU := Lib.hid hu
  clear hu
  go_wp2_with fail
  refine (toTaskS_any w A n c ts  ((H.out.below HB1.out).more HB1.out.size) (by omega)).mono ?_
  rintro e w2 ⟨Au, cu, rfl, ho, hb⟩
  have HOu2 := Lib.hid ho
  have HMu := Lib.hid (World.ownsRow.lt ho)
  have hs2 : w.heap.size ≤ w2.heap.size := hb.size
  clear ho
  have HB2 := Lib.hid (bl_trans HB1.out hb)
  clear hb 
  go_wp2_with fail
  refine (sLeave_at w2 Au cu ts a us b HOu2.out (by omega) HU.out).mono ?_
  rintro e w3 ⟨Ay, cy, rfl, ho, hb⟩
  have HOy3 := Lib.hid ho
  have HMy := Lib.hid (World.ownsRow.lt ho)
  have hs3 : w2.heap.size ≤ w3.heap.size := hb.size
  clear ho
  have HB3 := Lib.hid (bl_trans HB2.out hb)
  have HOu3 := Lib.hid (HOu2.out.below hb)
  clear hb HOu2
  go_wp2_with fail
  refine (toTaskS_any w3 A n c ts  ((H.out.below HB3.out).more HB3.out.size) (by omega)).mono ?_
  rintro e w4 ⟨Ax, cx, rfl, ho, hb⟩
  have HOx4 := Lib.hid ho
  have HMx := Lib.hid (World.ownsRow.lt ho)
  have hs4 : w3.heap.size ≤ w4.heap.size := hb.size
  clear ho
  have HB4 := Lib.hid (bl_trans HB3.out hb)
  have HOu4 := Lib.hid (HOu3.out.below hb)
  have HOy4 := Lib.hid (HOy3.out.below hb)
  clear hb HOu3 HOy3
  go_wp2_with fail
  refine (iLeave_at w4 Ax cx ts a us b HOx4.out (by omega) HU.out).mono ?_
  rintro e w5 ⟨Ag, cg, rfl, ho, hb⟩
  have HOg5 := Lib.hid ho
  have HMg := Lib.hid (World.ownsRow.lt ho)
  have hs5 : w4.heap.size ≤ w5.heap.size := hb.size
  clear ho
  have HB5 := Lib.hid (bl_trans HB4.out hb)
  have HOu5 := Lib.hid (HOu4.out.below hb)
  have HOy5 := Lib.hid (HOy4.out.below hb)
  have HOx5 := Lib.hid (HOx4.out.below hb)
  clear hb HOu4 HOy4 HOx4
  go_wp2_with fail
  refine (eqTaskS_any w5 Ag Ay _ cg cy us HOg5.out.reads.2 HOy5.out.reads.2 (by omega)).mono ?_
  rintro e w6 ⟨rfl, hb⟩
  have hs6 : w5.heap.size ≤ w6.heap.size := hb.size
  have HB6 := Lib.hid (bl_trans HB5.out hb)
  have HOu6 := Lib.hid (HOu5.out.below hb)
  have HOy6 := Lib.hid (HOy5.out.below hb)
  have HOx6 := Lib.hid (HOx5.out.below hb)
  have HOg6 := Lib.hid (HOg5.out.below hb)
  clear hb HOu5 HOy5 HOx5 HOg5
  go_wp2_with fail
  refine (toTaskS_any w6 A n c ts  ((H.out.below HB6.out).more HB6.out.size) (by omega)).mono ?_
  rintro e w7 ⟨Av, cv, rfl, ho, hb⟩
  have HOv7 := Lib.hid ho
  have HMv := Lib.hid (World.ownsRow.lt ho)
  have hs7 : w6.heap.size ≤ w7.heap.size := hb.size
  clear ho
  have HB7 := Lib.hid (bl_trans HB6.out hb)
  have HOu7 := Lib.hid (HOu6.out.below hb)
  have HOy7 := Lib.hid (HOy6.out.below hb)
  have HOx7 := Lib.hid (HOx6.out.below hb)
  have HOg7 := Lib.hid (HOg6.out.below hb)
  clear hb HOu6 HOy6 HOx6 HOg6
  go_wp2_with fail
  refine (eqTaskS_any w7 Ax Av _ cx cv ts HOx7.out.reads.2 HOv7.out.reads.2 (by omega)).mono ?_
  rintro e w8 ⟨rfl, hb⟩
  have hs8 : w7.heap.size ≤ w8.heap.size := hb.size
  have HB8 := Lib.hid (bl_trans HB7.out hb)
  have HOu8 := Lib.hid (HOu7.out.below hb)
  have HOy8 := Lib.hid (HOy7.out.below hb)
  have HOx8 := Lib.hid (HOx7.out.below hb)
  have HOg8 := Lib.hid (HOg7.out.below hb)
  have HOv8 := Lib.hid (HOv7.out.below hb)
  clear hb HOu7 HOy7 HOx7 HOg7 HOv7
  go_wp2_with fail
  refine (mark_own w8 _ Ax _ cx 1 ts HOx8.out (by omega) (by omega)).mono ?_
  rintro e w9 ⟨rfl, ho, hg⟩
  have HOx9 := Lib.hid ho
  have HB9 := Lib.hid (HB8.out.grown hg HB8.out.size (fun q e => by have := (World.ownsRow.lt HOx8.out q e).1; omega))
  have hs9 : w8.heap.size ≤ w9.heap.size := hg.size
  have HOy9 := Lib.hid (HOy8.out.kept_down hg (M := w3.heap.size) (fun q e => by have := (HMy.out q e).2; omega) (fun q e => by have := (HMx.out q e).1; omega))
  have HOg9 := Lib.hid (HOg8.out.kept hg (fun q e => by have := (HMx.out q e).2; omega))
  clear ho hg HOx8 HOy8 HOg8
  go_wp2_with fail
  refine (eqTaskS_any w9 Ag Ay _ cg cy us HOg9.out.reads.2 HOy9.out.reads.2 (by omega)).mono ?_
  rintro e w10 ⟨rfl, hb⟩
  have hs10 : w9.heap.size ≤ w10.heap.size := hb.size
  have HB10 := Lib.hid (bl_trans HB9.out hb)
  have HOy10 := Lib.hid (HOy9.out.below hb)
  have HOg10 := Lib.hid (HOg9.out.below hb)
  have HOx10 := Lib.hid (HOx9.out.below hb)
  clear hb HOy9 HOg9 HOx9
  go_wp2_with fail
  refine (mark_own w10 _ Ag _ cg 1 us HOg10.out (by omega) (by omega)).mono ?_
  rintro e w11 ⟨rfl, ho, hg⟩
  have HOg11 := Lib.hid ho
  have HB11 := Lib.hid (HB10.out.grown hg HB10.out.size (fun q e => by have := (World.ownsRow.lt HOg10.out q e).1; omega))
  have hs11 : w10.heap.size ≤ w11.heap.size := hg.size
  have HOy11 := Lib.hid (HOy10.out.kept_down hg (M := w4.heap.size) (fun q e => by have := (HMy.out q e).2; omega) (fun q e => by have := (HMg.out q e).1; omega))
  clear ho hg HOy10 HOg10
  go_wp2_with fail
  refine (held_any w11 Ag _ cg 1 HOg11.out.reads.2 (by omega) (by omega)).mono ?_
  rintro e w0 ⟨rfl, rfl⟩
  go_wp2_with fail
  refine (toTaskS_any w11 A n c ts  ((H.out.below HB11.out).more HB11.out.size) (by omega)).mono ?_
  rintro e w12 ⟨Az, cz, rfl, ho, hb⟩
  have HOz12 := Lib.hid ho
  have HMz := Lib.hid (World.ownsRow.lt ho)
  have hs12 : w11.heap.size ≤ w12.heap.size := hb.size
  clear ho
  have HB12 := Lib.hid (bl_trans HB11.out hb)
  have HOy12 := Lib.hid (HOy11.out.below hb)
  have HOg12 := Lib.hid (HOg11.out.below hb)
  clear hb HOy11 HOg11
  go_wp2_with fail
  refine (iLeave_at w12 Az cz ts a us b HOz12.out (by omega) HU.out).mono ?_
  rintro e w13 ⟨Ah, ch, rfl, ho, hb⟩
  have HOh13 := Lib.hid ho
  have HMh := Lib.hid (World.ownsRow.lt ho)
  have hs13 : w12.heap.size ≤ w13.heap.size := hb.size
  clear ho
  have HB13 := Lib.hid (bl_trans HB12.out hb)
  have HOy13 := Lib.hid (HOy12.out.below hb)
  have HOg13 := Lib.hid (HOg12.out.below hb)
  have HOz13 := Lib.hid (HOz12.out.below hb)
  clear hb HOy12 HOg12 HOz12
  go_wp2_with fail
  refine (eqTaskS_any w13 Ah Ay _ ch cy us HOh13.out.reads.2 HOy13.out.reads.2 (by omega)).mono ?_
  rintro e w14 ⟨rfl, hb⟩
  have hs14 : w13.heap.size ≤ w14.heap.size := hb.size
  have HB14 := Lib.hid (bl_trans HB13.out hb)
  have HOy14 := Lib.hid (HOy13.out.below hb)
  have HOg14 := Lib.hid (HOg13.out.below hb)
  have HOz14 := Lib.hid (HOz13.out.below hb)
  have HOh14 := Lib.hid (HOh13.out.below hb)
  clear hb HOy13 HOg13 HOz13 HOh13
  go_wp2_with fail
  refine (held_any w14 Ag _ cg 1 HOg14.out.reads.2 (by omega) (by omega)).mono ?_
  rintro e w0 ⟨rfl, rfl⟩
  go_wp2
  go_ret
  exact ⟨rfl, HB14.out⟩

set_option maxRecDepth 100000 in
set_option maxHeartbeats 4000000 in
theorem fnExactRaiseAll_walk (w : World) (A : Option Addr) (n c : Nat) (ts : List Tk) (h : Tks w w.heap.size A n ts) (hmax : n ≤ 9223372036854775807) (a : Int) :
    Calls Try.prog 15 #[.slice A n c, .int .i64 a] w fun e w' => e = .returned (.bool true) ∧ Below w.heap.size w w' := by
  have H := Lib.hid h
  have HL := Lib.hid h.len
  clear h
  by_cases hn : 1048576 < n
  · go_enter Try.func15, Try.ntmps15
    go_wp2_with fail
    refine (sz_any w A n c hmax).mono ?_
    rintro e w1 ⟨rfl, rfl⟩
    rw [if_pos (by omega)]
    go_wp2
    go_ret
    exact ⟨rfl, Below.refl _ _⟩
  go_enter Try.func15, Try.ntmps15
  go_wp2_with fail
  refine (sz_any w A n c hmax).mono ?_
  rintro e w1 ⟨rfl, rfl⟩
  rw [if_neg (by omega)]
  have HB1 : Hid (Below w.heap.size w w) := Below.refl _ _
  have htl : ts.length ≤ 1048576 := by rw [HL.out]; omega
  obtain ⟨us, b, hu⟩ : ∃ us b, raiseB ts a = b ∧ (if raiseB ts a then raiseL ts a else []) = us := ⟨_, _, rfl, rfl⟩
  have hul : us.length ≤ 5 := raise_len hu
  have HU := Lib.hid hu
  clear hu
  go_wp2_with fail
  refine (toTaskS_any w A n c ts  ((H.out.below HB1.out).more HB1.out.size) (by omega)).mono ?_
  rintro e w2 ⟨Au, cu, rfl, ho, hb⟩
  have HOu2 := Lib.hid ho
  have HMu := Lib.hid (World.ownsRow.lt ho)
  have hs2 : w.heap.size ≤ w2.heap.size := hb.size
  clear ho
  have HB2 := Lib.hid (bl_trans HB1.out hb)
  clear hb 
  go_wp2_with fail
  refine (sRaise_at w2 Au cu ts a us b HOu2.out (by omega) HU.out).mono ?_
  rintro e w3 ⟨Ay, cy, rfl, ho, hb⟩
  have HOy3 := Lib.hid ho
  have HMy := Lib.hid (World.ownsRow.lt ho)
  have hs3 : w2.heap.size ≤ w3.heap.size := hb.size
  clear ho
  have HB3 := Lib.hid (bl_trans HB2.out hb)
  have HOu3 := Lib.hid (HOu2.out.below hb)
  clear hb HOu2
  go_wp2_with fail
  refine (toTaskS_any w3 A n c ts  ((H.out.below HB3.out).more HB3.out.size) (by omega)).mono ?_
  rintro e w4 ⟨Ax, cx, rfl, ho, hb⟩
  have HOx4 := Lib.hid ho
  have HMx := Lib.hid (World.ownsRow.lt ho)
  have hs4 : w3.heap.size ≤ w4.heap.size := hb.size
  clear ho
  have HB4 := Lib.hid (bl_trans HB3.out hb)
  have HOu4 := Lib.hid (HOu3.out.below hb)
  have HOy4 := Lib.hid (HOy3.out.below hb)
  clear hb HOu3 HOy3
  go_wp2_with fail
  refine (iRaise_at w4 Ax cx ts a us b HOx4.out (by omega) HU.out).mono ?_
  rintro e w5 ⟨Ag, cg, rfl, ho, hb⟩
  have HOg5 := Lib.hid ho
  have HMg := Lib.hid (World.ownsRow.lt ho)
  have hs5 : w4.heap.size ≤ w5.heap.size := hb.size
  clear ho
  have HB5 := Lib.hid (bl_trans HB4.out hb)
  have HOu5 := Lib.hid (HOu4.out.below hb)
  have HOy5 := Lib.hid (HOy4.out.below hb)
  have HOx5 := Lib.hid (HOx4.out.below hb)
  clear hb HOu4 HOy4 HOx4
  go_wp2_with fail
  refine (eqTaskS_any w5 Ag Ay _ cg cy us HOg5.out.reads.2 HOy5.out.reads.2 (by omega)).mono ?_
  rintro e w6 ⟨rfl, hb⟩
  have hs6 : w5.heap.size ≤ w6.heap.size := hb.size
  have HB6 := Lib.hid (bl_trans HB5.out hb)
  have HOu6 := Lib.hid (HOu5.out.below hb)
  have HOy6 := Lib.hid (HOy5.out.below hb)
  have HOx6 := Lib.hid (HOx5.out.below hb)
  have HOg6 := Lib.hid (HOg5.out.below hb)
  clear hb HOu5 HOy5 HOx5 HOg5
  go_wp2_with fail
  refine (toTaskS_any w6 A n c ts  ((H.out.below HB6.out).more HB6.out.size) (by omega)).mono ?_
  rintro e w7 ⟨Av, cv, rfl, ho, hb⟩
  have HOv7 := Lib.hid ho
  have HMv := Lib.hid (World.ownsRow.lt ho)
  have hs7 : w6.heap.size ≤ w7.heap.size := hb.size
  clear ho
  have HB7 := Lib.hid (bl_trans HB6.out hb)
  have HOu7 := Lib.hid (HOu6.out.below hb)
  have HOy7 := Lib.hid (HOy6.out.below hb)
  have HOx7 := Lib.hid (HOx6.out.below hb)
  have HOg7 := Lib.hid (HOg6.out.below hb)
  clear hb HOu6 HOy6 HOx6 HOg6
  go_wp2_with fail
  refine (eqTaskS_any w7 Ax Av _ cx cv ts HOx7.out.reads.2 HOv7.out.reads.2 (by omega)).mono ?_
  rintro e w8 ⟨rfl, hb⟩
  have hs8 : w7.heap.size ≤ w8.heap.size := hb.size
  have HB8 := Lib.hid (bl_trans HB7.out hb)
  have HOu8 := Lib.hid (HOu7.out.below hb)
  have HOy8 := Lib.hid (HOy7.out.below hb)
  have HOx8 := Lib.hid (HOx7.out.below hb)
  have HOg8 := Lib.hid (HOg7.out.below hb)
  have HOv8 := Lib.hid (HOv7.out.below hb)
  clear hb HOu7 HOy7 HOx7 HOg7 HOv7
  go_wp2_with fail
  refine (mark_own w8 _ Ax _ cx 1 ts HOx8.out (by omega) (by omega)).mono ?_
  rintro e w9 ⟨rfl, ho, hg⟩
  have HOx9 := Lib.hid ho
  have HB9 := Lib.hid (HB8.out.grown hg HB8.out.size (fun q e => by have := (World.ownsRow.lt HOx8.out q e).1; omega))
  have hs9 : w8.heap.size ≤ w9.heap.size := hg.size
  have HOy9 := Lib.hid (HOy8.out.kept_down hg (M := w3.heap.size) (fun q e => by have := (HMy.out q e).2; omega) (fun q e => by have := (HMx.out q e).1; omega))
  have HOg9 := Lib.hid (HOg8.out.kept hg (fun q e => by have := (HMx.out q e).2; omega))
  clear ho hg HOx8 HOy8 HOg8
  go_wp2_with fail
  refine (eqTaskS_any w9 Ag Ay _ cg cy us HOg9.out.reads.2 HOy9.out.reads.2 (by omega)).mono ?_
  rintro e w10 ⟨rfl, hb⟩
  have hs10 : w9.heap.size ≤ w10.heap.size := hb.size
  have HB10 := Lib.hid (bl_trans HB9.out hb)
  have HOy10 := Lib.hid (HOy9.out.below hb)
  have HOg10 := Lib.hid (HOg9.out.below hb)
  have HOx10 := Lib.hid (HOx9.out.below hb)
  clear hb HOy9 HOg9 HOx9
  go_wp2_with fail
  refine (mark_own w10 _ Ag _ cg 1 us HOg10.out (by omega) (by omega)).mono ?_
  rintro e w11 ⟨rfl, ho, hg⟩
  have HOg11 := Lib.hid ho
  have HB11 := Lib.hid (HB10.out.grown hg HB10.out.size (fun q e => by have := (World.ownsRow.lt HOg10.out q e).1; omega))
  have hs11 : w10.heap.size ≤ w11.heap.size := hg.size
  have HOy11 := Lib.hid (HOy10.out.kept_down hg (M := w4.heap.size) (fun q e => by have := (HMy.out q e).2; omega) (fun q e => by have := (HMg.out q e).1; omega))
  clear ho hg HOy10 HOg10
  go_wp2_with fail
  refine (held_any w11 Ag _ cg 1 HOg11.out.reads.2 (by omega) (by omega)).mono ?_
  rintro e w0 ⟨rfl, rfl⟩
  go_wp2_with fail
  refine (toTaskS_any w11 A n c ts  ((H.out.below HB11.out).more HB11.out.size) (by omega)).mono ?_
  rintro e w12 ⟨Az, cz, rfl, ho, hb⟩
  have HOz12 := Lib.hid ho
  have HMz := Lib.hid (World.ownsRow.lt ho)
  have hs12 : w11.heap.size ≤ w12.heap.size := hb.size
  clear ho
  have HB12 := Lib.hid (bl_trans HB11.out hb)
  have HOy12 := Lib.hid (HOy11.out.below hb)
  have HOg12 := Lib.hid (HOg11.out.below hb)
  clear hb HOy11 HOg11
  go_wp2_with fail
  refine (iRaise_at w12 Az cz ts a us b HOz12.out (by omega) HU.out).mono ?_
  rintro e w13 ⟨Ah, ch, rfl, ho, hb⟩
  have HOh13 := Lib.hid ho
  have HMh := Lib.hid (World.ownsRow.lt ho)
  have hs13 : w12.heap.size ≤ w13.heap.size := hb.size
  clear ho
  have HB13 := Lib.hid (bl_trans HB12.out hb)
  have HOy13 := Lib.hid (HOy12.out.below hb)
  have HOg13 := Lib.hid (HOg12.out.below hb)
  have HOz13 := Lib.hid (HOz12.out.below hb)
  clear hb HOy12 HOg12 HOz12
  go_wp2_with fail
  refine (eqTaskS_any w13 Ah Ay _ ch cy us HOh13.out.reads.2 HOy13.out.reads.2 (by omega)).mono ?_
  rintro e w14 ⟨rfl, hb⟩
  have hs14 : w13.heap.size ≤ w14.heap.size := hb.size
  have HB14 := Lib.hid (bl_trans HB13.out hb)
  have HOy14 := Lib.hid (HOy13.out.below hb)
  have HOg14 := Lib.hid (HOg13.out.below hb)
  have HOz14 := Lib.hid (HOz13.out.below hb)
  have HOh14 := Lib.hid (HOh13.out.below hb)
  clear hb HOy13 HOg13 HOz13 HOh13
  go_wp2_with fail
  refine (held_any w14 Ag _ cg 1 HOg14.out.reads.2 (by omega) (by omega)).mono ?_
  rintro e w0 ⟨rfl, rfl⟩
  go_wp2
  go_ret
  exact ⟨rfl, HB14.out⟩

end Go.Proofs.Ytgoblabcggbfjaa
