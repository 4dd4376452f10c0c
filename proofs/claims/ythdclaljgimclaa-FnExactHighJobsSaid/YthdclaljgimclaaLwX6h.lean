/- The walk of the exact law of HighJobs. -/
import Derived.Test.YthdclaljgimclaaMarkOwn
import Derived.Test.YthdclaljgimclaaExJ
import Derived.Test.YthdclaljgimclaaZx6
import Derived.Test.YthdclaljgimclaaZk
import Derived.Test.YthdclaljgimclaaM4
import Derived.Test.YthdclaljgimclaaM5
import Derived.Test.YthdclaljgimclaaM2
namespace Go.Proofs.Ythdclaljgimclaa
open Go.RowKit
set_option linter.unusedVariables false

theorem OwnZ.readsN {w : World} {B : Nat} {A : Option Addr} {n c : Nat} {zs : List Int} (h : OwnZ w B (.slice A n c) zs) (hn : zs.length = n) : Zs w w.heap.size A n zs := by
  subst hn
  exact h.reads
theorem OwnZ.kept_down {w w' : World} {B M : Nat} {v : Value} {zs : List Int} {row : Option Nat} (h : OwnZ w B v zs) (hg : w.grownBy w' row) (hv : ∀ k, v.ownBlock = some k → k < M) (hr : ∀ k, row = some k → M ≤ k) : OwnZ w' B v zs := by
  refine World.ownsRow.kept h hg ?_
  rcases he : v.ownBlock with _ | k
  · exact .inl rfl
  · right
    intro e
    have := hv k he
    have := hr k e.symm
    omega
theorem sH_at (w : World) (A : Option Addr) (n c : Nat) (ts : List Tk) (A2 : Option Addr) (m c2 : Nat) (js : List Jb) (us : List Int) (h : Tks w w.heap.size A n ts) (hn : n ≤ 1048576) (h2 : Jbs w w.heap.size A2 m js) (hu : highV ts js = us) :
    Calls Try.prog 10 #[.slice A n c, .slice A2 m c2] w (ZsRes us w) := by
  have := sHighJ_is w A n c ts h hn A2 m c2 js h2
  rw [hu] at this
  exact this
theorem iH_at (w : World) (A : Option Addr) (n c : Nat) (ts : List Tk) (A2 : Option Addr) (m c2 : Nat) (js : List Jb) (us : List Int) (h : Tks w w.heap.size A n ts) (hn : n ≤ 1048576) (h2 : Jbs w w.heap.size A2 m js) (hu : highV ts js = us) :
    Calls Try.prog 8 #[.slice A n c, .slice A2 m c2] w (ZsRes us w) := by
  have := iHighJ_is w A n c ts h hn A2 m c2 js h2
  rw [hu] at this
  exact this

set_option maxRecDepth 100000 in
set_option maxHeartbeats 4000000 in
theorem fnExactHighJobs_walk (w : World) (A : Option Addr) (n c : Nat) (ts : List Tk) (h : Tks w w.heap.size A n ts) (hmax : n ≤ 9223372036854775807) (Aj : Option Addr) (nj cj : Nat) (js : List Jb) (hj : Jbs w w.heap.size Aj nj js) (hjmax : nj ≤ 9223372036854775807) :
    Calls Try.prog 6 #[.slice A n c, .slice Aj nj cj] w fun e w' => e = .returned (.bool true) ∧ Below w.heap.size w w' := by
  have H := Lib.hid h
  have HL := Lib.hid h.len
  have HJ := Lib.hid hj
  have HJL := Lib.hid hj.len
  clear h hj
  by_cases hn : 1048576 < n
  · go_enter Try.func6, Try.ntmps6
    go_wp2_with fail
    refine (sz_any _ A n c hmax).mono ?_
    rintro e w1 ⟨rfl, rfl⟩
    rw [if_pos (by omega)]
    go_wp2
    go_ret
    exact ⟨rfl, Below.refl _ _⟩
  by_cases hnj : (1048576 - (n : Int)) < (nj : Int)
  · go_enter Try.func6, Try.ntmps6
    go_wp2_with fail
    refine (sz_any _ A n c hmax).mono ?_
    rintro e w1 ⟨rfl, rfl⟩
    rw [if_neg (by omega)]
    go_wp2_with fail
    refine (szJ_any _ Aj nj cj hjmax (1048576 - (n : Int)) (by omega) (by omega)).mono ?_
    rintro e w1 ⟨rfl, rfl⟩
    rw [if_pos (by omega)]
    go_wp2
    go_ret
    exact ⟨rfl, Below.refl _ _⟩
  have htl : ts.length ≤ 1048576 := by rw [HL.out]; omega
  have hjl : js.length ≤ 1048576 := by rw [HJL.out]; omega
  obtain ⟨us, hu⟩ : ∃ us, highV ts js = us := ⟨_, rfl⟩
  have hul : us.length ≤ 1048576 := by rw [← hu]; exact Nat.le_trans highV_len hjl
  have HU := Lib.hid hu
  clear hu
  go_enter Try.func6, Try.ntmps6
  go_wp2_with fail
  refine (sz_any _ A n c hmax).mono ?_
  rintro e w1 ⟨rfl, rfl⟩
  rw [if_neg (by omega)]
  go_wp2_with fail
  refine (szJ_any _ Aj nj cj hjmax (1048576 - (n : Int)) (by omega) (by omega)).mono ?_
  rintro e w1 ⟨rfl, rfl⟩
  rw [if_neg (by omega)]
  have HB1 : Hid (Below w.heap.size w w) := Below.refl _ _
  go_wp2_with fail
  refine (toTaskS_any w A n c ts ((H.out.below HB1.out).more HB1.out.size) (by omega)).mono ?_
  rintro e w2 ⟨Au, cu, rfl, ho, hb⟩
  have HOu2 := Lib.hid ho
  have HMu := Lib.hid (World.ownsRow.lt ho)
  clear ho
  have hs2 : w.heap.size ≤ w2.heap.size := hb.size
  have HB2 := Lib.hid (bl_trans HB1.out hb)
  clear hb 
  go_wp2_with fail
  refine (toJobS_any w2 Aj nj cj js ((HJ.out.below HB2.out).more HB2.out.size) (by omega)).mono ?_
  rintro e w3 ⟨Ap, rfl, ho, hb⟩
  have HOp3 := Lib.hid ho
  have HMp := Lib.hid (World.ownsRow.lt ho)
  clear ho
  have hs3 : w2.heap.size ≤ w3.heap.size := hb.size
  have HB3 := Lib.hid (bl_trans HB2.out hb)
  have HOu3 := Lib.hid (HOu2.out.below hb)
  clear hb HOu2
  go_wp2_with fail
  refine (sH_at w3 Au _ cu ts (some ⟨Ap, 0, none⟩) _ _ js us HOu3.out.reads.2 (by omega) HOp3.out.reads.2 HU.out).mono ?_
  rintro e w4 ⟨Ay, cy, rfl, ho, hb⟩
  have HOy4 := Lib.hid ho
  have HMy := Lib.hid (World.ownsRow.lt ho)
  clear ho
  have hs4 : w3.heap.size ≤ w4.heap.size := hb.size
  have HB4 := Lib.hid (bl_trans HB3.out hb)
  have HOu4 := Lib.hid (HOu3.out.below hb)
  have HOp4 := Lib.hid (HOp3.out.below hb)
  clear hb HOu3 HOp3
  clear HOu4
  clear HOp4
  go_wp2_with fail
  refine (toTaskS_any w4 A n c ts ((H.out.below HB4.out).more HB4.out.size) (by omega)).mono ?_
  rintro e w5 ⟨Ax, cx, rfl, ho, hb⟩
  have HOx5 := Lib.hid ho
  have HMx := Lib.hid (World.ownsRow.lt ho)
  clear ho
  have hs5 : w4.heap.size ≤ w5.heap.size := hb.size
  have HB5 := Lib.hid (bl_trans HB4.out hb)
  have HOy5 := Lib.hid (HOy4.out.below hb)
  clear hb HOy4
  go_wp2_with fail
  refine (toJobS_any w5 Aj nj cj js ((HJ.out.below HB5.out).more HB5.out.size) (by omega)).mono ?_
  rintro e w6 ⟨Ar, rfl, ho, hb⟩
  have HOr6 := Lib.hid ho
  have HMr := Lib.hid (World.ownsRow.lt ho)
  clear ho
  have hs6 : w5.heap.size ≤ w6.heap.size := hb.size
  have HB6 := Lib.hid (bl_trans HB5.out hb)
  have HOy6 := Lib.hid (HOy5.out.below hb)
  have HOx6 := Lib.hid (HOx5.out.below hb)
  clear hb HOy5 HOx5
  go_wp2_with fail
  refine (iH_at w6 Ax _ cx ts (some ⟨Ar, 0, none⟩) _ _ js us HOx6.out.reads.2 (by omega) HOr6.out.reads.2 HU.out).mono ?_
  rintro e w7 ⟨Ag, cg, rfl, ho, hb⟩
  have HOg7 := Lib.hid ho
  have HMg := Lib.hid (World.ownsRow.lt ho)
  clear ho
  have hs7 : w6.heap.size ≤ w7.heap.size := hb.size
  have HB7 := Lib.hid (bl_trans HB6.out hb)
  have HOy7 := Lib.hid (HOy6.out.below hb)
  have HOx7 := Lib.hid (HOx6.out.below hb)
  have HOr7 := Lib.hid (HOr6.out.below hb)
  clear hb HOy6 HOx6 HOr6
  go_wp2_with fail
  refine (eqIntS_any w7 Ag Ay _ cg cy us HOg7.out.reads HOy7.out.reads (by omega)).mono ?_
  rintro e w8 ⟨rfl, hb⟩
  have hs8 : w7.heap.size ≤ w8.heap.size := hb.size
  have HB8 := Lib.hid (bl_trans HB7.out hb)
  have HOy8 := Lib.hid (HOy7.out.below hb)
  have HOx8 := Lib.hid (HOx7.out.below hb)
  have HOr8 := Lib.hid (HOr7.out.below hb)
  have HOg8 := Lib.hid (HOg7.out.below hb)
  clear hb HOy7 HOx7 HOr7 HOg7
  go_wp2_with fail
  refine (toTaskS_any w8 A n c ts ((H.out.below HB8.out).more HB8.out.size) (by omega)).mono ?_
  rintro e w9 ⟨Av, cv, rfl, ho, hb⟩
  have HOv9 := Lib.hid ho
  have HMv := Lib.hid (World.ownsRow.lt ho)
  clear ho
  have hs9 : w8.heap.size ≤ w9.heap.size := hb.size
  have HB9 := Lib.hid (bl_trans HB8.out hb)
  have HOy9 := Lib.hid (HOy8.out.below hb)
  have HOx9 := Lib.hid (HOx8.out.below hb)
  have HOr9 := Lib.hid (HOr8.out.below hb)
  have HOg9 := Lib.hid (HOg8.out.below hb)
  clear hb HOy8 HOx8 HOr8 HOg8
  go_wp2_with fail
  refine (eqTaskS_any w9 Ax Av _ cx cv ts HOx9.out.reads.2 HOv9.out.reads.2 (by omega)).mono ?_
  rintro e w10 ⟨rfl, hb⟩
  have hs10 : w9.heap.size ≤ w10.heap.size := hb.size
  have HB10 := Lib.hid (bl_trans HB9.out hb)
  have HOy10 := Lib.hid (HOy9.out.below hb)
  have HOx10 := Lib.hid (HOx9.out.below hb)
  have HOr10 := Lib.hid (HOr9.out.below hb)
  have HOg10 := Lib.hid (HOg9.out.below hb)
  have HOv10 := Lib.hid (HOv9.out.below hb)
  clear hb HOy9 HOx9 HOr9 HOg9 HOv9
  clear HOv10
  go_wp2_with fail
  refine (toJobS_any w10 Aj nj cj js ((HJ.out.below HB10.out).more HB10.out.size) (by omega)).mono ?_
  rintro e w11 ⟨As, rfl, ho, hb⟩
  have HOs11 := Lib.hid ho
  have HMs := Lib.hid (World.ownsRow.lt ho)
  clear ho
  have hs11 : w10.heap.size ≤ w11.heap.size := hb.size
  have HB11 := Lib.hid (bl_trans HB10.out hb)
  have HOy11 := Lib.hid (HOy10.out.below hb)
  have HOx11 := Lib.hid (HOx10.out.below hb)
  have HOr11 := Lib.hid (HOr10.out.below hb)
  have HOg11 := Lib.hid (HOg10.out.below hb)
  clear hb HOy10 HOx10 HOr10 HOg10
  go_wp2_with fail
  refine (eqJobS_any w11 (some ⟨Ar, 0, none⟩) (some ⟨As, 0, none⟩) js.length js.length js.length js HOr11.out.reads.2 HOs11.out.reads.2 (by omega)).mono ?_
  rintro e w12 ⟨rfl, hb⟩
  have hs12 : w11.heap.size ≤ w12.heap.size := hb.size
  have HB12 := Lib.hid (bl_trans HB11.out hb)
  have HOy12 := Lib.hid (HOy11.out.below hb)
  have HOx12 := Lib.hid (HOx11.out.below hb)
  have HOr12 := Lib.hid (HOr11.out.below hb)
  have HOg12 := Lib.hid (HOg11.out.below hb)
  have HOs12 := Lib.hid (HOs11.out.below hb)
  clear hb HOy11 HOx11 HOr11 HOg11 HOs11
  clear HOs12
  go_wp2_with fail
  refine (mark_own w12 _ Ax _ cx 1 ts HOx12.out (by omega) (by omega)).mono ?_
  rintro e w13 ⟨rfl, ho, hg⟩
  have HOx13 := Lib.hid ho
  have HB13 := Lib.hid (HB12.out.grown hg HB12.out.size (fun q e => by have := (World.ownsRow.lt HOx12.out q e).1; omega))
  have hs13 : w12.heap.size ≤ w13.heap.size := hg.size
  have HOy13 := Lib.hid (HOy12.out.kept_down hg (M := w4.heap.size) (fun q e => by have := (HMy.out q e).2; omega) (fun q e => by have := (HMx.out q e).1; omega))
  have HOr13 := Lib.hid (HOr12.out.kept hg (fun q e => by have := (HMx.out q e).2; omega))
  have HOg13 := Lib.hid (HOg12.out.kept hg (fun q e => by have := (HMx.out q e).2; omega))
  clear ho hg HOy12 HOx12 HOr12 HOg12
  clear HOx13
  go_wp2_with fail
  refine (jmark_own w13 _ (some ⟨Ar, 0, none⟩) _ _ (1 + ts.length * 5) js HOr13.out (by omega) (by omega)).mono ?_
  rintro e w14 ⟨rfl, ho, hg⟩
  have HOr14 := Lib.hid ho
  have HB14 := Lib.hid (HB13.out.grown hg HB13.out.size (fun q e => by have := (World.ownsRow.lt HOr13.out q e).1; omega))
  have hs14 : w13.heap.size ≤ w14.heap.size := hg.size
  have HOy14 := Lib.hid (HOy13.out.kept_down hg (M := w5.heap.size) (fun q e => by have := (HMy.out q e).2; omega) (fun q e => by have := (HMr.out q e).1; omega))
  have HOg14 := Lib.hid (HOg13.out.kept hg (fun q e => by have := (HMr.out q e).2; omega))
  clear ho hg HOy13 HOr13 HOg13
  clear HOr14
  go_wp2_with fail
  refine (eqIntS_any w14 Ag Ay _ cg cy us HOg14.out.reads HOy14.out.reads (by omega)).mono ?_
  rintro e w15 ⟨rfl, hb⟩
  have hs15 : w14.heap.size ≤ w15.heap.size := hb.size
  have HB15 := Lib.hid (bl_trans HB14.out hb)
  have HOy15 := Lib.hid (HOy14.out.below hb)
  have HOg15 := Lib.hid (HOg14.out.below hb)
  clear hb HOy14 HOg14
  go_wp2_with fail
  refine (markZ_own w15 _ Ag cg 1 us HOg15.out (by omega) (by omega)).mono ?_
  rintro e w16 ⟨rfl, ho, hg⟩
  have HOg16 := Lib.hid ho
  have HB16 := Lib.hid (HB15.out.grown hg HB15.out.size (fun q e => by have := (World.ownsRow.lt HOg15.out q e).1; omega))
  have hs16 : w15.heap.size ≤ w16.heap.size := hg.size
  have HOy16 := Lib.hid (HOy15.out.kept_down hg (M := w6.heap.size) (fun q e => by have := (HMy.out q e).2; omega) (fun q e => by have := (HMg.out q e).1; omega))
  clear ho hg HOy15 HOg15
  go_wp2_with fail
  refine (heldZ_any w16 Ag us.length cg 1 (OwnZ.readsN HOg16.out (marksZ_len _ _)) (by omega) (by omega)).mono ?_
  rintro e w0 ⟨rfl, rfl⟩
  go_wp2_with fail
  refine (toTaskS_any w16 A n c ts ((H.out.below HB16.out).more HB16.out.size) (by omega)).mono ?_
  rintro e w17 ⟨Az, cz, rfl, ho, hb⟩
  have HOz17 := Lib.hid ho
  have HMz := Lib.hid (World.ownsRow.lt ho)
  clear ho
  have hs17 : w16.heap.size ≤ w17.heap.size := hb.size
  have HB17 := Lib.hid (bl_trans HB16.out hb)
  have HOy17 := Lib.hid (HOy16.out.below hb)
  have HOg17 := Lib.hid (HOg16.out.below hb)
  clear hb HOy16 HOg16
  go_wp2_with fail
  refine (toJobS_any w17 Aj nj cj js ((HJ.out.below HB17.out).more HB17.out.size) (by omega)).mono ?_
  rintro e w18 ⟨At, rfl, ho, hb⟩
  have HOt18 := Lib.hid ho
  have HMt := Lib.hid (World.ownsRow.lt ho)
  clear ho
  have hs18 : w17.heap.size ≤ w18.heap.size := hb.size
  have HB18 := Lib.hid (bl_trans HB17.out hb)
  have HOy18 := Lib.hid (HOy17.out.below hb)
  have HOg18 := Lib.hid (HOg17.out.below hb)
  have HOz18 := Lib.hid (HOz17.out.below hb)
  clear hb HOy17 HOg17 HOz17
  go_wp2_with fail
  refine (iH_at w18 Az _ cz ts (some ⟨At, 0, none⟩) _ _ js us HOz18.out.reads.2 (by omega) HOt18.out.reads.2 HU.out).mono ?_
  rintro e w19 ⟨Ah, ch, rfl, ho, hb⟩
  have HOh19 := Lib.hid ho
  have HMh := Lib.hid (World.ownsRow.lt ho)
  clear ho
  have hs19 : w18.heap.size ≤ w19.heap.size := hb.size
  have HB19 := Lib.hid (bl_trans HB18.out hb)
  have HOy19 := Lib.hid (HOy18.out.below hb)
  have HOg19 := Lib.hid (HOg18.out.below hb)
  have HOz19 := Lib.hid (HOz18.out.below hb)
  have HOt19 := Lib.hid (HOt18.out.below hb)
  clear hb HOy18 HOg18 HOz18 HOt18
  clear HOz19
  clear HOt19
  go_wp2_with fail
  refine (eqIntS_any w19 Ah Ay _ ch cy us HOh19.out.reads HOy19.out.reads (by omega)).mono ?_
  rintro e w20 ⟨rfl, hb⟩
  have hs20 : w19.heap.size ≤ w20.heap.size := hb.size
  have HB20 := Lib.hid (bl_trans HB19.out hb)
  have HOy20 := Lib.hid (HOy19.out.below hb)
  have HOg20 := Lib.hid (HOg19.out.below hb)
  have HOh20 := Lib.hid (HOh19.out.below hb)
  clear hb HOy19 HOg19 HOh19
  go_wp2_with fail
  refine (heldZ_any w20 Ag us.length cg 1 (OwnZ.readsN HOg20.out (marksZ_len _ _)) (by omega) (by omega)).mono ?_
  rintro e w0 ⟨rfl, rfl⟩
  go_wp2
  go_ret
  exact ⟨rfl, HB20.out⟩

end Go.Proofs.Ythdclaljgimclaa
