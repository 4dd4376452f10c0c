/- The walks of the exact laws of AssignOrder and AnyOrder. -/
import Derived.Test.YtgoblabcggbfjaaMA
import Derived.Test.YtgoblabcggbfjaaMB
import Derived.Test.YtgoblabcggbfjaaMC
namespace Go.Proofs.Ytgoblabcggbfjaa
open Go.RowKit
set_option linter.unusedVariables false

theorem OwnZ.readsN {w : World} {B : Nat} {A : Option Addr} {n c : Nat} {zs : List Int} (h : OwnZ w B (.slice A n c) zs) (hn : zs.length = n) : Zs w w.heap.size A n zs := by
  subst hn
  exact h.reads
theorem OwnZ.kept_down {w w' : World} {B M : Nat} {v : Value} {zs : List Int} {row : Option Nat} (h : OwnZ w B v zs) (hg : w.grownBy w' row) (hv : ∀ k, v.ownBlock = some k → k < M) (hr : ∀ k, row = some k → M ≤ k) : OwnZ w' B v zs := by
  refine World.ownsRow.kept h hg ?_
  rcases he : v.ownBlock with _ | k
  · exact .inl rfl
  · right
    intro e
    have := hv k he
    have := hr k e.symm
    omega
theorem anyOf_len (ts : List Tk) : (asgR (anyOf ts)).length ≤ 5 := by
  cases h : anyOf ts with
  | none => exact Nat.zero_le _
  | some o =>
    obtain ⟨h1, h2, _⟩ := any_some h
    show (toZ o).length ≤ 5
    rw [toZ_len, h2.length_eq, List.length_range]
    exact setB_len h1
theorem assignOf_len (ts : List Tk) : (asgR (assignOf ts)).length ≤ 5 := by
  cases h : assignOf ts with
  | none => exact Nat.zero_le _
  | some o =>
    obtain ⟨h1, h2, _⟩ := assign_some h
    show (toZ o).length ≤ 5
    rw [toZ_len, h2.length_eq, List.length_range]
    exact setB_len h1
theorem sAny_at (w : World) (A : Option Addr) (n c : Nat) (ts : List Tk) (us : List Int) (b : Bool) (h : Tks w w.heap.size A n ts) (hn : n ≤ 1048576) (hu : asgR (anyOf ts) = us ∧ (anyOf ts).isSome = b) :
    Calls Try.prog 28 #[.slice A n c] w (ZsRes2 us b w) := by
  have := sAny_is w A n c ts h hn _ rfl
  rw [hu.1, hu.2] at this
  exact this
theorem sAssign_at (w : World) (A : Option Addr) (n c : Nat) (ts : List Tk) (us : List Int) (b : Bool) (h : Tks w w.heap.size A n ts) (hn : n ≤ 1048576) (hu : asgR (assignOf ts) = us ∧ (assignOf ts).isSome = b) :
    Calls Try.prog 20 #[.slice A n c] w (ZsRes2 us b w) := by
  have := sAssign_is w A n c ts h hn _ rfl
  rw [hu.1, hu.2] at this
  exact this
theorem iAny_at (w : World) (A : Option Addr) (n c : Nat) (ts : List Tk) (us : List Int) (b : Bool) (h : Tks w w.heap.size A n ts) (hn : n ≤ 1048576) (hu : asgR (anyOf ts) = us ∧ (anyOf ts).isSome = b) :
    Calls Try.prog 22 #[.slice A n c] w (ZsRes2 us b w) := by
  have := iAny_is w A n c ts h hn _ rfl
  rw [hu.1, hu.2] at this
  exact this
theorem iAssign_at (w : World) (A : Option Addr) (n c : Nat) (ts : List Tk) (us : List Int) (b : Bool) (h : Tks w w.heap.size A n ts) (hn : n ≤ 1048576) (hu : asgR (assignOf ts) = us ∧ (assignOf ts).isSome = b) :
    Calls Try.prog 19 #[.slice A n c] w (ZsRes2 us b w) := by
  have := iAssign_is w A n c ts h hn _ rfl
  rw [hu.1, hu.2] at this
  exact this

set_option maxRecDepth 100000 in
set_option maxHeartbeats 4000000 in
theorem fnExactAnyOrder_walk (w : World) (A : Option Addr) (n c : Nat) (ts : List Tk) (h : Tks w w.heap.size A n ts) (hmax : n ≤ 9223372036854775807) :
    Calls Try.prog 12 #[.slice A n c] w fun e w' => e = .returned (.bool true) ∧ Below w.heap.size w w' := by
  have H := Lib.hid h
  have HL := Lib.hid h.len
  clear h
  by_cases hn : 1048576 < n
  · go_enter Try.func12, Try.ntmps12
    go_wp2_with fail
    refine (sz_any w A n c hmax).mono ?_
    rintro e w1 ⟨rfl, rfl⟩
    rw [if_pos (by omega)]
    go_wp2
    go_ret
    exact ⟨rfl, Below.refl _ _⟩
  go_enter Try.func12, Try.ntmps12
  go_wp2_with fail
  refine (sz_any w A n c hmax).mono ?_
  rintro e w1 ⟨rfl, rfl⟩
  rw [if_neg (by omega)]
  have HB1 : Hid (Below w.heap.size w w) := Below.refl _ _
  have htl : ts.length ≤ 1048576 := by rw [HL.out]; omega
  obtain ⟨us, b, hu⟩ : ∃ us b, asgR (anyOf ts) = us ∧ (anyOf ts).isSome = b := ⟨_, _, rfl, rfl⟩
  have hul : us.length ≤ 5 := by rw [← hu.1]; exact anyOf_len ts
  have HU := Lib.hid hu
  clear hu
  go_wp2_with fail
  refine (toTaskS_any w A n c ts  ((H.out.below HB1.out).more HB1.out.size) (by omega)).mono ?_
  rintro e w2 ⟨Au, cu, rfl, ho, hb⟩
  have HOu2 := Lib.hid ho
  have HMu := Lib.hid (World.ownsRow.lt ho)
  have hs2 : w.heap.size ≤ w2.heap.size := hb.size
  clear ho
  have HB2 := Lib.hid (bl_trans HB1.out hb)
  clear hb 
  go_wp2_with fail
  refine (sAny_at w2 Au _ cu ts us b HOu2.out.reads.2 (by omega) HU.out).mono ?_
  rintro e w3 ⟨Ay, cy, rfl, ho, hb⟩
  have HOy3 := Lib.hid ho
  have HMy := Lib.hid (World.ownsRow.lt ho)
  have hs3 : w2.heap.size ≤ w3.heap.size := hb.size
  clear ho
  have HB3 := Lib.hid (bl_trans HB2.out hb)
  have HOu3 := Lib.hid (HOu2.out.below hb)
  clear hb HOu2
  go_wp2_with fail
  refine (toTaskS_any w3 A n c ts  ((H.out.below HB3.out).more HB3.out.size) (by omega)).mono ?_
  rintro e w4 ⟨Ax, cx, rfl, ho, hb⟩
  have HOx4 := Lib.hid ho
  have HMx := Lib.hid (World.ownsRow.lt ho)
  have hs4 : w3.heap.size ≤ w4.heap.size := hb.size
  clear ho
  have HB4 := Lib.hid (bl_trans HB3.out hb)
  have HOu4 := Lib.hid (HOu3.out.below hb)
  have HOy4 := Lib.hid (HOy3.out.below hb)
  clear hb HOu3 HOy3
  go_wp2_with fail
  refine (iAny_at w4 Ax _ cx ts us b HOx4.out.reads.2 (by omega) HU.out).mono ?_
  rintro e w5 ⟨Ag, cg, rfl, ho, hb⟩
  have HOg5 := Lib.hid ho
  have HMg := Lib.hid (World.ownsRow.lt ho)
  have hs5 : w4.heap.size ≤ w5.heap.size := hb.size
  clear ho
  have HB5 := Lib.hid (bl_trans HB4.out hb)
  have HOu5 := Lib.hid (HOu4.out.below hb)
  have HOy5 := Lib.hid (HOy4.out.below hb)
  have HOx5 := Lib.hid (HOx4.out.below hb)
  clear hb HOu4 HOy4 HOx4
  go_wp2_with fail
  refine (eqIntS_any w5 Ag Ay _ cg cy us HOg5.out.reads HOy5.out.reads (by omega)).mono ?_
  rintro e w6 ⟨rfl, hb⟩
  have hs6 : w5.heap.size ≤ w6.heap.size := hb.size
  have HB6 := Lib.hid (bl_trans HB5.out hb)
  have HOu6 := Lib.hid (HOu5.out.below hb)
  have HOy6 := Lib.hid (HOy5.out.below hb)
  have HOx6 := Lib.hid (HOx5.out.below hb)
  have HOg6 := Lib.hid (HOg5.out.below hb)
  clear hb HOu5 HOy5 HOx5 HOg5
  go_wp2_with fail
  refine (toTaskS_any w6 A n c ts  ((H.out.below HB6.out).more HB6.out.size) (by omega)).mono ?_
  rintro e w7 ⟨Av, cv, rfl, ho, hb⟩
  have HOv7 := Lib.hid ho
  have HMv := Lib.hid (World.ownsRow.lt ho)
  have hs7 : w6.heap.size ≤ w7.heap.size := hb.size
  clear ho
  have HB7 := Lib.hid (bl_trans HB6.out hb)
  have HOu7 := Lib.hid (HOu6.out.below hb)
  have HOy7 := Lib.hid (HOy6.out.below hb)
  have HOx7 := Lib.hid (HOx6.out.below hb)
  have HOg7 := Lib.hid (HOg6.out.below hb)
  clear hb HOu6 HOy6 HOx6 HOg6
  go_wp2_with fail
  refine (eqTaskS_any w7 Ax Av _ cx cv ts HOx7.out.reads.2 HOv7.out.reads.2 (by omega)).mono ?_
  rintro e w8 ⟨rfl, hb⟩
  have hs8 : w7.heap.size ≤ w8.heap.size := hb.size
  have HB8 := Lib.hid (bl_trans HB7.out hb)
  have HOu8 := Lib.hid (HOu7.out.below hb)
  have HOy8 := Lib.hid (HOy7.out.below hb)
  have HOx8 := Lib.hid (HOx7.out.below hb)
  have HOg8 := Lib.hid (HOg7.out.below hb)
  have HOv8 := Lib.hid (HOv7.out.below hb)
  clear hb HOu7 HOy7 HOx7 HOg7 HOv7
  go_wp2_with fail
  refine (mark_own w8 _ Ax _ cx 1 ts HOx8.out (by omega) (by omega)).mono ?_
  rintro e w9 ⟨rfl, ho, hg⟩
  have HOx9 := Lib.hid ho
  have HB9 := Lib.hid (HB8.out.grown hg HB8.out.size (fun q e => by have := (World.ownsRow.lt HOx8.out q e).1; omega))
  have hs9 : w8.heap.size ≤ w9.heap.size := hg.size
  have HOy9 := Lib.hid (HOy8.out.kept_down hg (M := w3.heap.size) (fun q e => by have := (HMy.out q e).2; omega) (fun q e => by have := (HMx.out q e).1; omega))
  have HOg9 := Lib.hid (HOg8.out.kept hg (fun q e => by have := (HMx.out q e).2; omega))
  clear ho hg HOx8 HOy8 HOg8
  go_wp2_with fail
  refine (eqIntS_any w9 Ag Ay _ cg cy us HOg9.out.reads HOy9.out.reads (by omega)).mono ?_
  rintro e w10 ⟨rfl, hb⟩
  have hs10 : w9.heap.size ≤ w10.heap.size := hb.size
  have HB10 := Lib.hid (bl_trans HB9.out hb)
  have HOy10 := Lib.hid (HOy9.out.below hb)
  have HOg10 := Lib.hid (HOg9.out.below hb)
  have HOx10 := Lib.hid (HOx9.out.below hb)
  clear hb HOy9 HOg9 HOx9
  go_wp2_with fail
  refine (markZ_own w10 _ Ag cg 1 us HOg10.out (by omega) (by omega)).mono ?_
  rintro e w11 ⟨rfl, ho, hg⟩
  have HOg11 := Lib.hid ho
  have HB11 := Lib.hid (HB10.out.grown hg HB10.out.size (fun q e => by have := (World.ownsRow.lt HOg10.out q e).1; omega))
  have hs11 : w10.heap.size ≤ w11.heap.size := hg.size
  have HOy11 := Lib.hid (HOy10.out.kept_down hg (M := w4.heap.size) (fun q e => by have := (HMy.out q e).2; omega) (fun q e => by have := (HMg.out q e).1; omega))
  clear ho hg HOy10 HOg10
  go_wp2_with fail
  refine (heldZ_any w11 Ag us.length cg 1 (OwnZ.readsN HOg11.out (marksZ_len _ _)) (by omega) (by omega)).mono ?_
  rintro e w0 ⟨rfl, rfl⟩
  go_wp2_with fail
  refine (toTaskS_any w11 A n c ts  ((H.out.below HB11.out).more HB11.out.size) (by omega)).mono ?_
  rintro e w12 ⟨Az, cz, rfl, ho, hb⟩
  have HOz12 := Lib.hid ho
  have HMz := Lib.hid (World.ownsRow.lt ho)
  have hs12 : w11.heap.size ≤ w12.heap.size := hb.size
  clear ho
  have HB12 := Lib.hid (bl_trans HB11.out hb)
  have HOy12 := Lib.hid (HOy11.out.below hb)
  have HOg12 := Lib.hid (HOg11.out.below hb)
  clear hb HOy11 HOg11
  go_wp2_with fail
  refine (iAny_at w12 Az _ cz ts us b HOz12.out.reads.2 (by omega) HU.out).mono ?_
  rintro e w13 ⟨Ah, ch, rfl, ho, hb⟩
  have HOh13 := Lib.hid ho
  have HMh := Lib.hid (World.ownsRow.lt ho)
  have hs13 : w12.heap.size ≤ w13.heap.size := hb.size
  clear ho
  have HB13 := Lib.hid (bl_trans HB12.out hb)
  have HOy13 := Lib.hid (HOy12.out.below hb)
  have HOg13 := Lib.hid (HOg12.out.below hb)
  have HOz13 := Lib.hid (HOz12.out.below hb)
  clear hb HOy12 HOg12 HOz12
  go_wp2_with fail
  refine (eqIntS_any w13 Ah Ay _ ch cy us HOh13.out.reads HOy13.out.reads (by omega)).mono ?_
  rintro e w14 ⟨rfl, hb⟩
  have hs14 : w13.heap.size ≤ w14.heap.size := hb.size
  have HB14 := Lib.hid (bl_trans HB13.out hb)
  have HOy14 := Lib.hid (HOy13.out.below hb)
  have HOg14 := Lib.hid (HOg13.out.below hb)
  have HOz14 := Lib.hid (HOz13.out.below hb)
  have HOh14 := Lib.hid (HOh13.out.below hb)
  clear hb HOy13 HOg13 HOz13 HOh13
  go_wp2_with fail
  refine (heldZ_any w14 Ag us.length cg 1 (OwnZ.readsN HOg14.out (marksZ_len _ _)) (by omega) (by omega)).mono ?_
  rintro e w0 ⟨rfl, rfl⟩
  go_wp2
  go_ret
  exact ⟨rfl, HB14.out⟩

end Go.Proofs.Ytgoblabcggbfjaa
