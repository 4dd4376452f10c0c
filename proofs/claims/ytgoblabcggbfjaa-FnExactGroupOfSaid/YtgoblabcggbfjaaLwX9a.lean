/- The walks of the exact laws of PackValid and GroupOf. -/
import Derived.Test.YtgoblabcggbfjaaLwX4o
import Derived.Test.YtgoblabcggbfjaaGo
namespace Go.Proofs.Ytgoblabcggbfjaa
open Go.RowKit
set_option linter.unusedVariables false

set_option maxRecDepth 100000 in
set_option maxHeartbeats 4000000 in
theorem fnExactPackValid_walk (w : World) (A : Option Addr) (n c : Nat) (ts : List Tk) (h : Tks w w.heap.size A n ts) (hmax : n ≤ 9223372036854775807) (A2 : Option Addr) (n2 c2 : Nat) (zs : List Int) (h2 : Zs w w.heap.size A2 n2 zs) (a : Int) :
    Calls Try.prog 16 #[.slice A n c, .slice A2 n2 c2, .int .i64 a] w fun e w' => e = .returned (.bool true) ∧ Below w.heap.size w w' := by
  have H := Lib.hid h
  have HL := Lib.hid h.len
  have H2 := Lib.hid h2
  have HL2 := Lib.hid h2.len
  clear h h2
  by_cases hn2 : 1048576 < n2
  · have hn2i : (1048576 : Int) < (n2 : Int) := by omega
    go_enter Try.func16, Try.ntmps16
    go_wp2
    go_ret
    exact ⟨rfl, Below.refl _ _⟩
  have hn2i : ¬ (1048576 : Int) < (n2 : Int) := by omega
  by_cases hn : 1048576 < n
  · go_enter Try.func16, Try.ntmps16
    go_wp2_with fail
    refine (sz_any w A n c hmax).mono ?_
    rintro e w1 ⟨rfl, rfl⟩
    rw [if_pos (by omega)]
    go_wp2
    go_ret
    exact ⟨rfl, Below.refl _ _⟩
  have htl : ts.length ≤ 1048576 := by rw [HL.out]; omega
  have hzl : zs.length ≤ 1048576 := by rw [HL2.out]; omega
  obtain ⟨b, hv⟩ : ∃ b, packB ts zs a = b := ⟨_, rfl⟩
  have HV := Lib.hid hv
  clear hv
  go_enter Try.func16, Try.ntmps16
  go_wp2_with fail
  refine (sz_any w A n c hmax).mono ?_
  rintro e w1 ⟨rfl, rfl⟩
  rw [if_neg (by omega)]
  have HB1 : Hid (Below w.heap.size w w) := Below.refl _ _
  go_wp2_with fail
  refine (toTaskS_any w A n c ts ((H.out.below HB1.out).more HB1.out.size) (by omega)).mono ?_
  rintro e w2 ⟨Au, cu, rfl, ho, hb⟩
  have HOu2 := Lib.hid ho
  have HMu := Lib.hid (World.ownsRow.lt ho)
  have hs2 : w.heap.size ≤ w2.heap.size := hb.size
  clear ho
  have HB2 := Lib.hid (bl_trans HB1.out hb)
  clear hb
  go_wp2_with fail
  refine (toIntS_any w2 A2 n2 c2 zs ((H2.out.below HB2.out).more HB2.out.size) (by omega)).mono ?_
  rintro e w3 ⟨Aj, cj, rfl, ho, hb⟩
  have HOj3 := Lib.hid ho
  have HMj := Lib.hid (World.ownsRow.lt ho)
  have hs3 : w2.heap.size ≤ w3.heap.size := hb.size
  clear ho
  have HB3 := Lib.hid (bl_trans HB2.out hb)
  have HOu3 := Lib.hid (HOu2.out.below hb)
  clear hb
  go_wp2_with fail
  refine (sPack_is w3 Au _ cu ts Aj _ cj zs a b HOu3.out.reads.2 (by omega) HOj3.out.reads (by omega) HV.out).mono ?_
  rintro e w4 ⟨rfl, hb⟩
  have hs4 : w3.heap.size ≤ w4.heap.size := hb.size
  have HB4 := Lib.hid (bl_trans HB3.out hb)
  clear hb
  go_wp2_with fail
  refine (toTaskS_any w4 A n c ts ((H.out.below HB4.out).more HB4.out.size) (by omega)).mono ?_
  rintro e w5 ⟨Ax, cx, rfl, ho, hb⟩
  have HOx5 := Lib.hid ho
  have HMx := Lib.hid (World.ownsRow.lt ho)
  have hs5 : w4.heap.size ≤ w5.heap.size := hb.size
  clear ho
  have HB5 := Lib.hid (bl_trans HB4.out hb)
  clear hb
  go_wp2_with fail
  refine (toIntS_any w5 A2 n2 c2 zs ((H2.out.below HB5.out).more HB5.out.size) (by omega)).mono ?_
  rintro e w6 ⟨Ai, ci, rfl, ho, hb⟩
  have HOi6 := Lib.hid ho
  have HMi := Lib.hid (World.ownsRow.lt ho)
  have hs6 : w5.heap.size ≤ w6.heap.size := hb.size
  clear ho
  have HB6 := Lib.hid (bl_trans HB5.out hb)
  have HOx6 := Lib.hid (HOx5.out.below hb)
  clear hb
  go_wp2_with fail
  refine (iPack_is w6 Ax _ cx ts Ai _ ci zs a b HOx6.out.reads.2 (by omega) HOi6.out.reads (by omega) HV.out).mono ?_
  rintro e w7 ⟨rfl, hb⟩
  have hs7 : w6.heap.size ≤ w7.heap.size := hb.size
  have HB7 := Lib.hid (bl_trans HB6.out hb)
  have HOx7 := Lib.hid (HOx6.out.below hb)
  have HOi7 := Lib.hid (HOi6.out.below hb)
  clear hb
  go_wp2_with fail
  refine (toTaskS_any w7 A n c ts ((H.out.below HB7.out).more HB7.out.size) (by omega)).mono ?_
  rintro e w8 ⟨Av, cv, rfl, ho, hb⟩
  have HOv8 := Lib.hid ho
  have HMv := Lib.hid (World.ownsRow.lt ho)
  have hs8 : w7.heap.size ≤ w8.heap.size := hb.size
  clear ho
  have HB8 := Lib.hid (bl_trans HB7.out hb)
  have HOx8 := Lib.hid (HOx7.out.below hb)
  have HOi8 := Lib.hid (HOi7.out.below hb)
  clear hb
  go_wp2_with fail
  refine (eqTaskS_any w8 Ax Av _ cx cv ts HOx8.out.reads.2 HOv8.out.reads.2 (by omega)).mono ?_
  rintro e w9 ⟨rfl, hb⟩
  have hs9 : w8.heap.size ≤ w9.heap.size := hb.size
  have HB9 := Lib.hid (bl_trans HB8.out hb)
  have HOi9 := Lib.hid (HOi8.out.below hb)
  clear hb
  go_wp2_with fail
  refine (toIntS_any w9 A2 n2 c2 zs ((H2.out.below HB9.out).more HB9.out.size) (by omega)).mono ?_
  rintro e w10 ⟨Az, cz, rfl, ho, hb⟩
  have HOz10 := Lib.hid ho
  have HMz := Lib.hid (World.ownsRow.lt ho)
  have hs10 : w9.heap.size ≤ w10.heap.size := hb.size
  clear ho
  have HB10 := Lib.hid (bl_trans HB9.out hb)
  have HOi10 := Lib.hid (HOi9.out.below hb)
  clear hb
  go_wp2_with fail
  refine (eqIntS_any w10 Ai Az _ ci cz zs HOi10.out.reads HOz10.out.reads (by omega)).mono ?_
  rintro e w11 ⟨rfl, hb⟩
  have hs11 : w10.heap.size ≤ w11.heap.size := hb.size
  have HB11 := Lib.hid (bl_trans HB10.out hb)
  have HOi11 := Lib.hid (HOi10.out.below hb)
  have HOz11 := Lib.hid (HOz10.out.below hb)
  clear hb
  go_wp2
  go_ret
  exact ⟨rfl, HB11.out⟩
  
set_option maxRecDepth 100000 in
set_option maxHeartbeats 4000000 in
theorem fnExactGroupOf_walk (w : World) (A : Option Addr) (n c : Nat) (ts : List Tk) (h : Tks w w.heap.size A n ts) (hmax : n ≤ 9223372036854775807) (A2 : Option Addr) (n2 c2 : Nat) (zs : List Int) (h2 : Zs w w.heap.size A2 n2 zs) (a : Int) :
    Calls Try.prog 17 #[.slice A n c, .slice A2 n2 c2, .int .i64 a] w fun e w' => e = .returned (.bool true) ∧ Below w.heap.size w w' := by
  have H := Lib.hid h
  have HL := Lib.hid h.len
  have H2 := Lib.hid h2
  have HL2 := Lib.hid h2.len
  clear h h2
  by_cases hn2 : 1048576 < n2
  · have hn2i : (1048576 : Int) < (n2 : Int) := by omega
    go_enter Try.func17, Try.ntmps17
    go_wp2
    go_ret
    exact ⟨rfl, Below.refl _ _⟩
  have hn2i : ¬ (1048576 : Int) < (n2 : Int) := by omega
  by_cases hn : 1048576 < n
  · go_enter Try.func17, Try.ntmps17
    go_wp2_with fail
    refine (sz_any w A n c hmax).mono ?_
    rintro e w1 ⟨rfl, rfl⟩
    rw [if_pos (by omega)]
    go_wp2
    go_ret
    exact ⟨rfl, Below.refl _ _⟩
  have htl : ts.length ≤ 1048576 := by rw [HL.out]; omega
  have hzl : zs.length ≤ 1048576 := by rw [HL2.out]; omega
  obtain ⟨b, hv⟩ : ∃ b, groupB ts zs a = b := ⟨_, rfl⟩
  have HV := Lib.hid hv
  obtain ⟨us, hus⟩ : ∃ us, us = if b = true then groupL ts zs a else [] := ⟨_, rfl⟩
  have HU := Lib.hid hus
  have hul : us.length ≤ 5 := by
    rw [hus]
    cases b
    · exact Nat.zero_le _
    · rw [if_pos rfl]
      unfold groupB at hv
      rw [Bool.and_eq_true] at hv
      exact Nat.le_trans (groupK_len _ _ _ _) (setB_len (packB_iff.1 hv.1).1)
  clear hus hv
  go_enter Try.func17, Try.ntmps17
  go_wp2_with fail
  refine (sz_any w A n c hmax).mono ?_
  rintro e w1 ⟨rfl, rfl⟩
  rw [if_neg (by omega)]
  have HB1 : Hid (Below w.heap.size w w) := Below.refl _ _
  go_wp2_with fail
  refine (toTaskS_any w A n c ts ((H.out.below HB1.out).more HB1.out.size) (by omega)).mono ?_
  rintro e w2 ⟨Au, cu, rfl, ho, hb⟩
  have HOu2 := Lib.hid ho
  have HMu := Lib.hid (World.ownsRow.lt ho)
  have hs2 : w.heap.size ≤ w2.heap.size := hb.size
  clear ho
  have HB2 := Lib.hid (bl_trans HB1.out hb)
  clear hb
  go_wp2_with fail
  refine (toIntS_any w2 A2 n2 c2 zs ((H2.out.below HB2.out).more HB2.out.size) (by omega)).mono ?_
  rintro e w3 ⟨Aj, cj, rfl, ho, hb⟩
  have HOj3 := Lib.hid ho
  have HMj := Lib.hid (World.ownsRow.lt ho)
  have hs3 : w2.heap.size ≤ w3.heap.size := hb.size
  clear ho
  have HB3 := Lib.hid (bl_trans HB2.out hb)
  have HOu3 := Lib.hid (HOu2.out.below hb)
  clear hb
  go_wp2_with fail
  refine (sGroup_is w3 Au _ cu ts Aj _ cj zs a us b HOu3.out.reads.2 (by omega) HOj3.out.reads (by omega) HV.out HU.out).mono ?_
  rintro e w4 ⟨Ay, cy, rfl, ho, hb⟩
  have HOy4 := Lib.hid ho
  have HMy := Lib.hid (World.ownsRow.lt ho)
  have hs4 : w3.heap.size ≤ w4.heap.size := hb.size
  clear ho
  have HB4 := Lib.hid (bl_trans HB3.out hb)
  clear hb
  go_wp2_with fail
  refine (toTaskS_any w4 A n c ts ((H.out.below HB4.out).more HB4.out.size) (by omega)).mono ?_
  rintro e w5 ⟨Ax, cx, rfl, ho, hb⟩
  have HOx5 := Lib.hid ho
  have HMx := Lib.hid (World.ownsRow.lt ho)
  have hs5 : w4.heap.size ≤ w5.heap.size := hb.size
  clear ho
  have HB5 := Lib.hid (bl_trans HB4.out hb)
  have HOy5 := Lib.hid (HOy4.out.below hb)
  clear hb
  go_wp2_with fail
  refine (toIntS_any w5 A2 n2 c2 zs ((H2.out.below HB5.out).more HB5.out.size) (by omega)).mono ?_
  rintro e w6 ⟨Ai, ci, rfl, ho, hb⟩
  have HOi6 := Lib.hid ho
  have HMi := Lib.hid (World.ownsRow.lt ho)
  have hs6 : w5.heap.size ≤ w6.heap.size := hb.size
  clear ho
  have HB6 := Lib.hid (bl_trans HB5.out hb)
  have HOy6 := Lib.hid (HOy5.out.below hb)
  have HOx6 := Lib.hid (HOx5.out.below hb)
  clear hb
  go_wp2_with fail
  refine (iGroup_is w6 Ax _ cx ts Ai _ ci zs a us b HOx6.out.reads.2 (by omega) HOi6.out.reads (by omega) HV.out HU.out).mono ?_
  rintro e w7 ⟨Ag, cg, rfl, ho, hb⟩
  have HOg7 := Lib.hid ho
  have HMg := Lib.hid (World.ownsRow.lt ho)
  have hs7 : w6.heap.size ≤ w7.heap.size := hb.size
  clear ho
  have HB7 := Lib.hid (bl_trans HB6.out hb)
  have HOy7 := Lib.hid (HOy6.out.below hb)
  have HOx7 := Lib.hid (HOx6.out.below hb)
  have HOi7 := Lib.hid (HOi6.out.below hb)
  clear hb
  go_wp2_with fail
  refine (eqTaskS_any w7 Ag Ay _ cg cy us HOg7.out.reads.2 HOy7.out.reads.2 (by omega)).mono ?_
  rintro e w8 ⟨rfl, hb⟩
  have hs8 : w7.heap.size ≤ w8.heap.size := hb.size
  have HB8 := Lib.hid (bl_trans HB7.out hb)
  have HOy8 := Lib.hid (HOy7.out.below hb)
  have HOx8 := Lib.hid (HOx7.out.below hb)
  have HOi8 := Lib.hid (HOi7.out.below hb)
  have HOg8 := Lib.hid (HOg7.out.below hb)
  clear hb
  go_wp2_with fail
  refine (toTaskS_any w8 A n c ts ((H.out.below HB8.out).more HB8.out.size) (by omega)).mono ?_
  rintro e w9 ⟨Av, cv, rfl, ho, hb⟩
  have HOv9 := Lib.hid ho
  have HMv := Lib.hid (World.ownsRow.lt ho)
  have hs9 : w8.heap.size ≤ w9.heap.size := hb.size
  clear ho
  have HB9 := Lib.hid (bl_trans HB8.out hb)
  have HOy9 := Lib.hid (HOy8.out.below hb)
  have HOx9 := Lib.hid (HOx8.out.below hb)
  have HOi9 := Lib.hid (HOi8.out.below hb)
  have HOg9 := Lib.hid (HOg8.out.below hb)
  clear hb
  go_wp2_with fail
  refine (eqTaskS_any w9 Ax Av _ cx cv ts HOx9.out.reads.2 HOv9.out.reads.2 (by omega)).mono ?_
  rintro e w10 ⟨rfl, hb⟩
  have hs10 : w9.heap.size ≤ w10.heap.size := hb.size
  have HB10 := Lib.hid (bl_trans HB9.out hb)
  have HOy10 := Lib.hid (HOy9.out.below hb)
  have HOx10 := Lib.hid (HOx9.out.below hb)
  have HOi10 := Lib.hid (HOi9.out.below hb)
  have HOg10 := Lib.hid (HOg9.out.below hb)
  clear hb
  go_wp2_with fail
  refine (toIntS_any w10 A2 n2 c2 zs ((H2.out.below HB10.out).more HB10.out.size) (by omega)).mono ?_
  rintro e w11 ⟨Az, cz, rfl, ho, hb⟩
  have HOz11 := Lib.hid ho
  have HMz := Lib.hid (World.ownsRow.lt ho)
  have hs11 : w10.heap.size ≤ w11.heap.size := hb.size
  clear ho
  have HB11 := Lib.hid (bl_trans HB10.out hb)
  have HOy11 := Lib.hid (HOy10.out.below hb)
  have HOx11 := Lib.hid (HOx10.out.below hb)
  have HOi11 := Lib.hid (HOi10.out.below hb)
  have HOg11 := Lib.hid (HOg10.out.below hb)
  clear hb
  go_wp2_with fail
  refine (eqIntS_any w11 Ai Az _ ci cz zs HOi11.out.reads HOz11.out.reads (by omega)).mono ?_
  rintro e w12 ⟨rfl, hb⟩
  have hs12 : w11.heap.size ≤ w12.heap.size := hb.size
  have HB12 := Lib.hid (bl_trans HB11.out hb)
  have HOy12 := Lib.hid (HOy11.out.below hb)
  have HOx12 := Lib.hid (HOx11.out.below hb)
  have HOi12 := Lib.hid (HOi11.out.below hb)
  have HOg12 := Lib.hid (HOg11.out.below hb)
  clear hb
  go_wp2_with fail
  refine (mark_own w12 _ Ax _ cx 1 ts HOx12.out (by omega) (by omega)).mono ?_
  rintro e w13 ⟨rfl, ho, hg⟩
  have HOx13 := Lib.hid ho
  have HB13 := Lib.hid (HB12.out.grown hg HB12.out.size (fun q e => by have := (World.ownsRow.lt HOx12.out q e).1; omega))
  have hs13 : w12.heap.size ≤ w13.heap.size := hg.size
  have HOy13 := Lib.hid (HOy12.out.kept_down hg (M := w4.heap.size) (fun q e => by have := (HMy.out q e).2; omega) (fun q e => by have := (HMx.out q e).1; omega))
  have HOi13 := Lib.hid (HOi12.out.kept hg (fun q e => by have := (HMx.out q e).2; omega))
  have HOg13 := Lib.hid (HOg12.out.kept hg (fun q e => by have := (HMx.out q e).2; omega))
  clear ho hg
  go_wp2_with fail
  refine (markZ_big w13 _ Ai ci (1 + ts.length * 5) zs HOi13.out (by omega) (by omega)).mono ?_
  rintro e w14 ⟨rfl, ho, hg⟩
  have HOi14 := Lib.hid ho
  have HB14 := Lib.hid (HB13.out.grown hg HB13.out.size (fun q e => by have := (World.ownsRow.lt HOi13.out q e).1; omega))
  have hs14 : w13.heap.size ≤ w14.heap.size := hg.size
  have HOy14 := Lib.hid (HOy13.out.kept_down hg (M := w4.heap.size) (fun q e => by have := (HMy.out q e).2; omega) (fun q e => by have := (HMi.out q e).1; omega))
  have HOg14 := Lib.hid (HOg13.out.kept hg (fun q e => by have := (HMi.out q e).2; omega))
  clear ho hg
  have hk0 : ¬ ((1 + ts.length * 5 + zs.length : Nat) : Int) < 0 := by omega
  go_wp2_with fail
  refine (eqTaskS_any w14 Ag Ay _ cg cy us HOg14.out.reads.2 HOy14.out.reads.2 (by omega)).mono ?_
  rintro e w15 ⟨rfl, hb⟩
  have hs15 : w14.heap.size ≤ w15.heap.size := hb.size
  have HB15 := Lib.hid (bl_trans HB14.out hb)
  have HOy15 := Lib.hid (HOy14.out.below hb)
  have HOg15 := Lib.hid (HOg14.out.below hb)
  clear hb
  go_wp2_with fail
  refine (mark_own w15 _ Ag _ cg 1 us HOg15.out (by omega) (by omega)).mono ?_
  rintro e w16 ⟨rfl, ho, hg⟩
  have HOg16 := Lib.hid ho
  have HB16 := Lib.hid (HB15.out.grown hg HB15.out.size (fun q e => by have := (World.ownsRow.lt HOg15.out q e).1; omega))
  have hs16 : w15.heap.size ≤ w16.heap.size := hg.size
  have HOy16 := Lib.hid (HOy15.out.kept_down hg (M := w4.heap.size) (fun q e => by have := (HMy.out q e).2; omega) (fun q e => by have := (HMg.out q e).1; omega))
  clear ho hg
  go_wp2_with fail
  refine (held_any w16 Ag us.length cg 1 HOg16.out.reads.2 (by omega) (by omega)).mono ?_
  rintro e w0 ⟨rfl, rfl⟩
  go_wp2_with fail
  refine (toTaskS_any w16 A n c ts ((H.out.below HB16.out).more HB16.out.size) (by omega)).mono ?_
  rintro e w17 ⟨Ap, cp, rfl, ho, hb⟩
  have HOp17 := Lib.hid ho
  have HMp := Lib.hid (World.ownsRow.lt ho)
  have hs17 : w16.heap.size ≤ w17.heap.size := hb.size
  clear ho
  have HB17 := Lib.hid (bl_trans HB16.out hb)
  have HOy17 := Lib.hid (HOy16.out.below hb)
  have HOg17 := Lib.hid (HOg16.out.below hb)
  clear hb
  go_wp2_with fail
  refine (toIntS_any w17 A2 n2 c2 zs ((H2.out.below HB17.out).more HB17.out.size) (by omega)).mono ?_
  rintro e w18 ⟨Aq, cq, rfl, ho, hb⟩
  have HOq18 := Lib.hid ho
  have HMq := Lib.hid (World.ownsRow.lt ho)
  have hs18 : w17.heap.size ≤ w18.heap.size := hb.size
  clear ho
  have HB18 := Lib.hid (bl_trans HB17.out hb)
  have HOy18 := Lib.hid (HOy17.out.below hb)
  have HOg18 := Lib.hid (HOg17.out.below hb)
  have HOp18 := Lib.hid (HOp17.out.below hb)
  clear hb
  go_wp2_with fail
  refine (iGroup_is w18 Ap _ cp ts Aq _ cq zs a us b HOp18.out.reads.2 (by omega) HOq18.out.reads (by omega) HV.out HU.out).mono ?_
  rintro e w19 ⟨Ah, ch, rfl, ho, hb⟩
  have HOh19 := Lib.hid ho
  have HMh := Lib.hid (World.ownsRow.lt ho)
  have hs19 : w18.heap.size ≤ w19.heap.size := hb.size
  clear ho
  have HB19 := Lib.hid (bl_trans HB18.out hb)
  have HOy19 := Lib.hid (HOy18.out.below hb)
  have HOg19 := Lib.hid (HOg18.out.below hb)
  clear hb
  go_wp2_with fail
  refine (eqTaskS_any w19 Ah Ay _ ch cy us HOh19.out.reads.2 HOy19.out.reads.2 (by omega)).mono ?_
  rintro e w20 ⟨rfl, hb⟩
  have hs20 : w19.heap.size ≤ w20.heap.size := hb.size
  have HB20 := Lib.hid (bl_trans HB19.out hb)
  have HOy20 := Lib.hid (HOy19.out.below hb)
  have HOg20 := Lib.hid (HOg19.out.below hb)
  have HOh20 := Lib.hid (HOh19.out.below hb)
  clear hb
  go_wp2_with fail
  refine (held_any w20 Ag us.length cg 1 HOg20.out.reads.2 (by omega) (by omega)).mono ?_
  rintro e w0 ⟨rfl, rfl⟩
  go_wp2
  go_ret
  exact ⟨rfl, HB20.out⟩
  

end Go.Proofs.Ytgoblabcggbfjaa
