import Derived.Test.YtgponahmkjohiabGreatDoorT2ExJ
import Derived.Test.YtgponahmkjohiabGreatDoorT2RnE
import Derived.Test.YtgponahmkjohiabGreatDoorT2PmL
import Derived.Test.YtgponahmkjohiabGreatDoorT2DrA
namespace Go.Proofs.YtgponahmkjohiabGreatDoor
open Go.RowKit
set_option linter.unusedVariables false
theorem OwnZ.readsE {w : World} {B : Nat} {A : Option Addr} {n c : Nat} {zs : List Int} (h : OwnZ w B (.slice A n c) zs) (hn : zs.length = n) : Zs w w.heap.size A n zs := by
  subst hn
  exact h.reads
theorem OwnJ.kept_downR {w w' : World} {B M : Nat} {v : Value} {js : List Jb} {row : Option Nat} (h : OwnJ w B v js) (hg : w.grownBy w' row) (hv : ∀ k, v.ownBlock = some k → k < M) (hr : ∀ k, row = some k → M ≤ k) : OwnJ w' B v js := by
  refine World.ownsRow.kept h hg ?_
  rcases he : v.ownBlock with _ | k
  · exact .inl rfl
  · right
    intro e
    have := hv k he
    have := hr k e.symm
    omega
/-- What a call of RunJobs answers, part by part. -/
def RunIs (ts : List Tk) (js : List Jb) (pol tk : Int) (en tr sw : List Int) (hi b : Bool) : Prop := (runR ts js pol tk).en = en ∧ (runR ts js pol tk).tr = tr ∧ (runR ts js pol tk).sw = sw ∧ (runR ts js pol tk).hi = hi ∧ okR ts js pol tk = b
theorem RunIs.lens {ts : List Tk} {js : List Jb} {pol tk : Int} {en tr sw : List Int} {hi b : Bool} (h : RunIs ts js pol tk en tr sw hi b) : en.length ≤ 61 ∧ tr.length ≤ 200 ∧ sw.length ≤ 200 := by
  obtain ⟨rfl, rfl, rfl, rfl, rfl⟩ := h
  cases hk : okR ts js pol tk
  · rw [runR_no hk]; exact ⟨Nat.zero_le _, Nat.zero_le _, Nat.zero_le _⟩
  · exact runR_len10 ts js pol tk (by have := (wrsB_iff.1 (jobs_wrs (okR_iff.1 hk).1)).1; omega)
def RunL (en tr sw : List Int) (hi b : Bool) (w : World) (e : Ending) (w' : World) : Prop :=
  ∃ (A1 : Option Addr) (c1 : Nat) (A2 : Option Addr) (c2 : Nat) (A3 : Option Addr) (c3 : Nat), e = .returned (.tuple #[.agg #[.slice A1 en.length c1, .slice A2 tr.length c2, .slice A3 sw.length c3, .bool hi], .bool b]) ∧
    OwnZ w' w.heap.size (.slice A1 en.length c1) en ∧ OwnZ w' w.heap.size (.slice A2 tr.length c2) tr ∧ OwnZ w' w.heap.size (.slice A3 sw.length c3) sw ∧
    apart (.slice A1 en.length c1) (.slice A2 tr.length c2) ∧ apart (.slice A1 en.length c1) (.slice A3 sw.length c3) ∧ apart (.slice A2 tr.length c2) (.slice A3 sw.length c3) ∧ Below w.heap.size w w'
theorem sR_at (w : World) (A : Option Addr) (n c : Nat) (ts : List Tk) (Aj : Option Addr) (nj cj : Nat) (js : List Jb) (pol tk : Int) (en tr sw : List Int) (hi b : Bool) (h : Tks w w.heap.size A n ts) (hn : n ≤ 1048576) (hj : Jbs w w.heap.size Aj nj js) (hu : RunIs ts js pol tk en tr sw hi b) :
    Calls Tryz.prog 14 #[.slice A n c, .slice Aj nj cj, .int .i64 pol, .int .i64 tk] w (RunL en tr sw hi b w) := by
  obtain ⟨rfl, rfl, rfl, rfl, rfl⟩ := hu
  exact sRunJobs_is w A n c ts h hn Aj nj cj js hj pol tk
theorem iR_at (w : World) (A : Option Addr) (n c : Nat) (ts : List Tk) (Aj : Option Addr) (nj cj : Nat) (js : List Jb) (pol tk : Int) (en tr sw : List Int) (hi b : Bool) (h : Tks w w.heap.size A n ts) (hn : n ≤ 1048576) (hj : Jbs w w.heap.size Aj nj js) (e0 : Addr) (he : EG w e0) (hu : RunIs ts js pol tk en tr sw hi b) :
    Calls Tryz.prog 13 #[.slice A n c, .slice Aj nj cj, .int .i64 pol, .int .i64 tk] w (RunL en tr sw hi b w) := by
  obtain ⟨rfl, rfl, rfl, rfl, rfl⟩ := hu
  exact iRunJobs_is w A n c ts h hn Aj nj cj js hj pol tk e0 he
set_option maxRecDepth 100000 in
set_option maxHeartbeats 8000000 in
theorem fnExactRunJobs_walk (w : World) (A : Option Addr) (n c : Nat) (ts : List Tk) (h : Tks w w.heap.size A n ts) (hmax : n ≤ 9223372036854775807) (Aj : Option Addr) (nj cj : Nat) (js : List Jb) (hj : Jbs w w.heap.size Aj nj js) (hjmax : nj ≤ 9223372036854775807) (pol tk : Int) (e0 : Addr) (he : EG w e0) :
    Calls Tryz.prog 11 #[.slice A n c, .slice Aj nj cj, .int .i64 pol, .int .i64 tk] w fun e w' => e = .returned (.bool true) ∧ Below w.heap.size w w' := by
  have H := Lib.hid h
  have HL := Lib.hid h.len
  have HJ := Lib.hid hj
  have HJL := Lib.hid hj.len
  have HE := Lib.hid he
  clear h hj he
  by_cases hn : 1048576 < n
  · go_enter Tryz.func11, Tryz.ntmps11
    go_wp2_with fail
    refine (sz_any _ A n c hmax).mono ?_
    rintro e w1 ⟨rfl, rfl⟩
    rw [if_pos (by omega)]
    go_wp2
    go_ret
    exact ⟨rfl, Below.refl _ _⟩
  by_cases hnj : (1048576 - (n : Int)) < (nj : Int)
  · go_enter Tryz.func11, Tryz.ntmps11
    go_wp2_with fail
    refine (sz_any _ A n c hmax).mono ?_
    rintro e w1 ⟨rfl, rfl⟩
    rw [if_neg (by omega)]
    go_wp2_with fail
    refine (szJ_any _ Aj nj cj hjmax (1048576 - (n : Int)) (by omega) (by omega)).mono ?_
    rintro e w1 ⟨rfl, rfl⟩
    rw [if_pos (by omega)]
    go_wp2
    go_ret
    exact ⟨rfl, Below.refl _ _⟩
  have htl : ts.length ≤ 1048576 := by rw [HL.out]; omega
  have hjl : js.length ≤ 1048576 := by rw [HJL.out]; omega
  obtain ⟨en, tr, sw, hi, b, hu⟩ : ∃ en tr sw hi b, RunIs ts js pol tk en tr sw hi b := ⟨_, _, _, _, _, rfl, rfl, rfl, rfl, rfl⟩
  have hlen := hu.lens
  have HU := Lib.hid hu
  have HLE : Hid (en.length ≤ 61 ∧ tr.length ≤ 200 ∧ sw.length ≤ 200) := Lib.hid hlen
  clear hu hlen
  go_enter Tryz.func11, Tryz.ntmps11
  go_wp2_with fail
  refine (sz_any _ A n c hmax).mono ?_
  rintro e w1 ⟨rfl, rfl⟩
  rw [if_neg (by omega)]
  go_wp2_with fail
  refine (szJ_any _ Aj nj cj hjmax (1048576 - (n : Int)) (by omega) (by omega)).mono ?_
  rintro e w1 ⟨rfl, rfl⟩
  rw [if_neg (by omega)]
  have HB1 : Hid (Below w.heap.size w w) := Below.refl _ _
  go_wp2_with fail
  refine (toTaskS_any w A n c ts ((H.out.below HB1.out).more HB1.out.size) (by omega)).mono ?_
  rintro e w2 ⟨Au, cu, rfl, ho, hb⟩
  have HOu2 := Lib.hid ho
  have HMu := Lib.hid (World.ownsRow.lt ho)
  clear ho
  have hs2 : w.heap.size ≤ w2.heap.size := hb.size
  have HB2 := Lib.hid (bl_trans HB1.out hb)
  clear hb 
  go_wp2_with fail
  refine (toJobS_any w2 Aj nj cj js ((HJ.out.below HB2.out).more HB2.out.size) (by omega)).mono ?_
  rintro e w3 ⟨Ap, rfl, ho, hb⟩
  have HOp3 := Lib.hid ho
  have HMp := Lib.hid (World.ownsRow.lt ho)
  clear ho
  have hs3 : w2.heap.size ≤ w3.heap.size := hb.size
  have HB3 := Lib.hid (bl_trans HB2.out hb)
  have HOu3 := Lib.hid (HOu2.out.below hb)
  clear hb HOu2
  go_wp2_with fail
  refine (sR_at w3 Au _ cu ts (some ⟨Ap, 0, none⟩) _ _ js pol tk en tr sw hi b HOu3.out.reads.2 (by omega) HOp3.out.reads.2 HU.out).mono ?_
  rintro e w4 ⟨Ay1, cy1, Ay2, cy2, Ay3, cy3, rfl, o1, o2, o3, a12, a13, a23, hb⟩
  have HOy14 := Lib.hid o1
  have HMy1 := Lib.hid (World.ownsRow.lt o1)
  have HOy24 := Lib.hid o2
  have HMy2 := Lib.hid (World.ownsRow.lt o2)
  have HOy34 := Lib.hid o3
  have HMy3 := Lib.hid (World.ownsRow.lt o3)
  have HAPy := Lib.hid (And.intro a12 (And.intro a13 a23))
  clear o1 o2 o3 a12 a13 a23
  have hs4 : w3.heap.size ≤ w4.heap.size := hb.size
  have HB4 := Lib.hid (bl_trans HB3.out hb)
  have HOu4 := Lib.hid (HOu3.out.below hb)
  have HOp4 := Lib.hid (HOp3.out.below hb)
  clear hb HOu3 HOp3
  obtain ⟨wzy, hwzy⟩ : ∃ wz, w4.alloc (.cells #[.slice none 0 0, .slice none 0 0, .slice none 0 0, .bool false] 29) = wz := ⟨_, rfl⟩
  have hzy : Blk wzy w4.heap.size 29 #[.slice none 0 0, .slice none 0 0, .slice none 0 0, .bool false] := by rw [← hwzy]; exact Blk.new w4 _ _
  have bzy : Below w4.heap.size w4 wzy := by rw [← hwzy]; exact bl_alloc (Below.refl _ _) _
  obtain ⟨zay, zby, zcy, zdy⟩ := Blk.quad hzy
  have zfy := hzy.frozen
  obtain ⟨w5, hwny⟩ : ∃ wn, (((wzy.setCell ⟨w4.heap.size, 0, none⟩ (.slice Ay1 en.length cy1)).setCell ⟨w4.heap.size, 1, none⟩ (.slice Ay2 tr.length cy2)).setCell ⟨w4.heap.size, 2, none⟩ (.slice Ay3 sw.length cy3)).setCell ⟨w4.heap.size, 3, none⟩ (.bool hi) = wn := ⟨_, rfl⟩
  have hXy : Blk w5 w4.heap.size 29 #[(.slice Ay1 en.length cy1), (.slice Ay2 tr.length cy2), (.slice Ay3 sw.length cy3), .bool hi] := by
    rw [← hwny]
    have h := (((hzy.set_ 0 ((.slice Ay1 en.length cy1))).set_ 1 ((.slice Ay2 tr.length cy2))).set_ 2 ((.slice Ay3 sw.length cy3))).set_ 3 (.bool hi)
    simpa using h
  have hYy : Below w4.heap.size w4 w5 := by
    rw [← hwny]
    exact (((bl_set bzy (by dsimp only; omega) _).setCell (by dsimp only; omega) _).setCell (by dsimp only; omega) _).setCell (by dsimp only; omega) _
  have BXy5 := Lib.hid hXy
  have hgy : w4.heap.size < w5.heap.size := hXy.lt
  clear hXy hzy bzy
  have hs5 : w4.heap.size ≤ w5.heap.size := hYy.size
  have HB5 := Lib.hid (bl_trans HB4.out hYy)
  have HOu5 := Lib.hid (HOu4.out.below hYy)
  have HOp5 := Lib.hid (HOp4.out.below hYy)
  have HOy15 := Lib.hid (HOy14.out.below hYy)
  have HOy25 := Lib.hid (HOy24.out.below hYy)
  have HOy35 := Lib.hid (HOy34.out.below hYy)
  clear hYy HOu4 HOp4 HOy14 HOy24 HOy34
  clear HOu5
  clear HOp5
  go_wp2_with fail
  refine (toTaskS_any w5 A n c ts ((H.out.below HB5.out).more HB5.out.size) (by omega)).mono ?_
  rintro e w6 ⟨Ax, cx, rfl, ho, hb⟩
  have HOx6 := Lib.hid ho
  have HMx := Lib.hid (World.ownsRow.lt ho)
  clear ho
  have hs6 : w5.heap.size ≤ w6.heap.size := hb.size
  have HB6 := Lib.hid (bl_trans HB5.out hb)
  have HOy16 := Lib.hid (HOy15.out.below hb)
  have HOy26 := Lib.hid (HOy25.out.below hb)
  have HOy36 := Lib.hid (HOy35.out.below hb)
  have BXy6 := Lib.hid (BXy5.out.below hb BXy5.out.lt)
  clear hb HOy15 HOy25 HOy35 BXy5
  go_wp2_with fail
  refine (toJobS_any w6 Aj nj cj js ((HJ.out.below HB6.out).more HB6.out.size) (by omega)).mono ?_
  rintro e w7 ⟨Ar, rfl, ho, hb⟩
  have HOr7 := Lib.hid ho
  have HMr := Lib.hid (World.ownsRow.lt ho)
  clear ho
  have hs7 : w6.heap.size ≤ w7.heap.size := hb.size
  have HB7 := Lib.hid (bl_trans HB6.out hb)
  have HOy17 := Lib.hid (HOy16.out.below hb)
  have HOy27 := Lib.hid (HOy26.out.below hb)
  have HOy37 := Lib.hid (HOy36.out.below hb)
  have HOx7 := Lib.hid (HOx6.out.below hb)
  have BXy7 := Lib.hid (BXy6.out.below hb BXy6.out.lt)
  clear hb HOy16 HOy26 HOy36 HOx6 BXy6
  go_wp2_with fail
  refine (iR_at w7 Ax _ cx ts (some ⟨Ar, 0, none⟩) _ _ js pol tk en tr sw hi b HOx7.out.reads.2 (by omega) HOr7.out.reads.2 e0 (HE.out.below HB7.out) HU.out).mono ?_
  rintro e w8 ⟨Ag1, cg1, Ag2, cg2, Ag3, cg3, rfl, o1, o2, o3, a12, a13, a23, hb⟩
  have HOg18 := Lib.hid o1
  have HMg1 := Lib.hid (World.ownsRow.lt o1)
  have HOg28 := Lib.hid o2
  have HMg2 := Lib.hid (World.ownsRow.lt o2)
  have HOg38 := Lib.hid o3
  have HMg3 := Lib.hid (World.ownsRow.lt o3)
  have HAPg := Lib.hid (And.intro a12 (And.intro a13 a23))
  clear o1 o2 o3 a12 a13 a23
  have hs8 : w7.heap.size ≤ w8.heap.size := hb.size
  have HB8 := Lib.hid (bl_trans HB7.out hb)
  have HOy18 := Lib.hid (HOy17.out.below hb)
  have HOy28 := Lib.hid (HOy27.out.below hb)
  have HOy38 := Lib.hid (HOy37.out.below hb)
  have HOx8 := Lib.hid (HOx7.out.below hb)
  have HOr8 := Lib.hid (HOr7.out.below hb)
  have BXy8 := Lib.hid (BXy7.out.below hb BXy7.out.lt)
  clear hb HOy17 HOy27 HOy37 HOx7 HOr7 BXy7
  obtain ⟨wzg, hwzg⟩ : ∃ wz, w8.alloc (.cells #[.slice none 0 0, .slice none 0 0, .slice none 0 0, .bool false] 29) = wz := ⟨_, rfl⟩
  have hzg : Blk wzg w8.heap.size 29 #[.slice none 0 0, .slice none 0 0, .slice none 0 0, .bool false] := by rw [← hwzg]; exact Blk.new w8 _ _
  have bzg : Below w8.heap.size w8 wzg := by rw [← hwzg]; exact bl_alloc (Below.refl _ _) _
  obtain ⟨zag, zbg, zcg, zdg⟩ := Blk.quad hzg
  have zfg := hzg.frozen
  obtain ⟨w9, hwng⟩ : ∃ wn, (((wzg.setCell ⟨w8.heap.size, 0, none⟩ (.slice Ag1 en.length cg1)).setCell ⟨w8.heap.size, 1, none⟩ (.slice Ag2 tr.length cg2)).setCell ⟨w8.heap.size, 2, none⟩ (.slice Ag3 sw.length cg3)).setCell ⟨w8.heap.size, 3, none⟩ (.bool hi) = wn := ⟨_, rfl⟩
  have hXg : Blk w9 w8.heap.size 29 #[(.slice Ag1 en.length cg1), (.slice Ag2 tr.length cg2), (.slice Ag3 sw.length cg3), .bool hi] := by
    rw [← hwng]
    have h := (((hzg.set_ 0 ((.slice Ag1 en.length cg1))).set_ 1 ((.slice Ag2 tr.length cg2))).set_ 2 ((.slice Ag3 sw.length cg3))).set_ 3 (.bool hi)
    simpa using h
  have hYg : Below w8.heap.size w8 w9 := by
    rw [← hwng]
    exact (((bl_set bzg (by dsimp only; omega) _).setCell (by dsimp only; omega) _).setCell (by dsimp only; omega) _).setCell (by dsimp only; omega) _
  have BXg9 := Lib.hid hXg
  have hgg : w8.heap.size < w9.heap.size := hXg.lt
  clear hXg hzg bzg
  have hs9 : w8.heap.size ≤ w9.heap.size := hYg.size
  have HB9 := Lib.hid (bl_trans HB8.out hYg)
  have HOy19 := Lib.hid (HOy18.out.below hYg)
  have HOy29 := Lib.hid (HOy28.out.below hYg)
  have HOy39 := Lib.hid (HOy38.out.below hYg)
  have HOx9 := Lib.hid (HOx8.out.below hYg)
  have HOr9 := Lib.hid (HOr8.out.below hYg)
  have HOg19 := Lib.hid (HOg18.out.below hYg)
  have HOg29 := Lib.hid (HOg28.out.below hYg)
  have HOg39 := Lib.hid (HOg38.out.below hYg)
  have BXy9 := Lib.hid (BXy8.out.below hYg BXy8.out.lt)
  clear hYg HOy18 HOy28 HOy38 HOx8 HOr8 HOg18 HOg28 HOg38 BXy8
  obtain ⟨qy0, qy1, qy2, qy3⟩ := Blk.quad BXy9.out
  obtain ⟨qg0, qg1, qg2, qg3⟩ := Blk.quad BXg9.out
  go_wp2_with fail
  refine (eqRun_any w9 Ag1 _ cg1 Ag2 _ cg2 Ag3 _ cg3 Ay1 cy1 Ay2 cy2 Ay3 cy3 hi en tr sw ⟨HOg19.out.reads, HOg29.out.reads, HOg39.out.reads⟩ ⟨HOy19.out.reads, HOy29.out.reads, HOy39.out.reads⟩ (by have := HLE.out; omega) (by have := HLE.out; omega) (by have := HLE.out; omega)).mono ?_
  rintro e w10 ⟨rfl, hb⟩
  clear qy0 qy1 qy2 qy3 qg0 qg1 qg2 qg3 hwzy hwny zay zby zcy zdy zfy hwzg hwng zag zbg zcg zdg zfg
  have hs10 : w9.heap.size ≤ w10.heap.size := hb.size
  have HB10 := Lib.hid (bl_trans HB9.out hb)
  have HOy110 := Lib.hid (HOy19.out.below hb)
  have HOy210 := Lib.hid (HOy29.out.below hb)
  have HOy310 := Lib.hid (HOy39.out.below hb)
  have HOx10 := Lib.hid (HOx9.out.below hb)
  have HOr10 := Lib.hid (HOr9.out.below hb)
  have HOg110 := Lib.hid (HOg19.out.below hb)
  have HOg210 := Lib.hid (HOg29.out.below hb)
  have HOg310 := Lib.hid (HOg39.out.below hb)
  have BXy10 := Lib.hid (BXy9.out.below hb BXy9.out.lt)
  have BXg10 := Lib.hid (BXg9.out.below hb BXg9.out.lt)
  clear hb HOy19 HOy29 HOy39 HOx9 HOr9 HOg19 HOg29 HOg39 BXy9 BXg9
  go_wp2_with fail
  refine (toTaskS_any w10 A n c ts ((H.out.below HB10.out).more HB10.out.size) (by omega)).mono ?_
  rintro e w11 ⟨Av, cv, rfl, ho, hb⟩
  have HOv11 := Lib.hid ho
  have HMv := Lib.hid (World.ownsRow.lt ho)
  clear ho
  have hs11 : w10.heap.size ≤ w11.heap.size := hb.size
  have HB11 := Lib.hid (bl_trans HB10.out hb)
  have HOy111 := Lib.hid (HOy110.out.below hb)
  have HOy211 := Lib.hid (HOy210.out.below hb)
  have HOy311 := Lib.hid (HOy310.out.below hb)
  have HOx11 := Lib.hid (HOx10.out.below hb)
  have HOr11 := Lib.hid (HOr10.out.below hb)
  have HOg111 := Lib.hid (HOg110.out.below hb)
  have HOg211 := Lib.hid (HOg210.out.below hb)
  have HOg311 := Lib.hid (HOg310.out.below hb)
  have BXy11 := Lib.hid (BXy10.out.below hb BXy10.out.lt)
  have BXg11 := Lib.hid (BXg10.out.below hb BXg10.out.lt)
  clear hb HOy110 HOy210 HOy310 HOx10 HOr10 HOg110 HOg210 HOg310 BXy10 BXg10
  go_wp2_with fail
  refine (eqTaskS_any w11 Ax Av _ cx cv ts HOx11.out.reads.2 HOv11.out.reads.2 (by omega)).mono ?_
  rintro e w12 ⟨rfl, hb⟩
  have hs12 : w11.heap.size ≤ w12.heap.size := hb.size
  have HB12 := Lib.hid (bl_trans HB11.out hb)
  have HOy112 := Lib.hid (HOy111.out.below hb)
  have HOy212 := Lib.hid (HOy211.out.below hb)
  have HOy312 := Lib.hid (HOy311.out.below hb)
  have HOx12 := Lib.hid (HOx11.out.below hb)
  have HOr12 := Lib.hid (HOr11.out.below hb)
  have HOg112 := Lib.hid (HOg111.out.below hb)
  have HOg212 := Lib.hid (HOg211.out.below hb)
  have HOg312 := Lib.hid (HOg311.out.below hb)
  have HOv12 := Lib.hid (HOv11.out.below hb)
  have BXy12 := Lib.hid (BXy11.out.below hb BXy11.out.lt)
  have BXg12 := Lib.hid (BXg11.out.below hb BXg11.out.lt)
  clear hb HOy111 HOy211 HOy311 HOx11 HOr11 HOg111 HOg211 HOg311 HOv11 BXy11 BXg11
  clear HOv12
  go_wp2_with fail
  refine (toJobS_any w12 Aj nj cj js ((HJ.out.below HB12.out).more HB12.out.size) (by omega)).mono ?_
  rintro e w13 ⟨As, rfl, ho, hb⟩
  have HOs13 := Lib.hid ho
  have HMs := Lib.hid (World.ownsRow.lt ho)
  clear ho
  have hs13 : w12.heap.size ≤ w13.heap.size := hb.size
  have HB13 := Lib.hid (bl_trans HB12.out hb)
  have HOy113 := Lib.hid (HOy112.out.below hb)
  have HOy213 := Lib.hid (HOy212.out.below hb)
  have HOy313 := Lib.hid (HOy312.out.below hb)
  have HOx13 := Lib.hid (HOx12.out.below hb)
  have HOr13 := Lib.hid (HOr12.out.below hb)
  have HOg113 := Lib.hid (HOg112.out.below hb)
  have HOg213 := Lib.hid (HOg212.out.below hb)
  have HOg313 := Lib.hid (HOg312.out.below hb)
  have BXy13 := Lib.hid (BXy12.out.below hb BXy12.out.lt)
  have BXg13 := Lib.hid (BXg12.out.below hb BXg12.out.lt)
  clear hb HOy112 HOy212 HOy312 HOx12 HOr12 HOg112 HOg212 HOg312 BXy12 BXg12
  go_wp2_with fail
  refine (eqJobS_any w13 (some ⟨Ar, 0, none⟩) (some ⟨As, 0, none⟩) js.length js.length js.length js HOr13.out.reads.2 HOs13.out.reads.2 (by omega)).mono ?_
  rintro e w14 ⟨rfl, hb⟩
  have hs14 : w13.heap.size ≤ w14.heap.size := hb.size
  have HB14 := Lib.hid (bl_trans HB13.out hb)
  have HOy114 := Lib.hid (HOy113.out.below hb)
  have HOy214 := Lib.hid (HOy213.out.below hb)
  have HOy314 := Lib.hid (HOy313.out.below hb)
  have HOx14 := Lib.hid (HOx13.out.below hb)
  have HOr14 := Lib.hid (HOr13.out.below hb)
  have HOg114 := Lib.hid (HOg113.out.below hb)
  have HOg214 := Lib.hid (HOg213.out.below hb)
  have HOg314 := Lib.hid (HOg313.out.below hb)
  have HOs14 := Lib.hid (HOs13.out.below hb)
  have BXy14 := Lib.hid (BXy13.out.below hb BXy13.out.lt)
  have BXg14 := Lib.hid (BXg13.out.below hb BXg13.out.lt)
  clear hb HOy113 HOy213 HOy313 HOx13 HOr13 HOg113 HOg213 HOg313 HOs13 BXy13 BXg13
  clear HOs14
  go_wp2_with fail
  refine (mark_own w14 _ Ax _ cx 1 ts HOx14.out (by omega) (by omega)).mono ?_
  rintro e w15 ⟨rfl, ho, hg⟩
  have HOx15 := Lib.hid ho
  have HB15 := Lib.hid (HB14.out.grown hg HB14.out.size (fun q e => by have := (World.ownsRow.lt HOx14.out q e).1; omega))
  have hs15 : w14.heap.size ≤ w15.heap.size := hg.size
  have HOy115 := Lib.hid (OwnZ.kept_dn HOy114.out hg (M := w5.heap.size) (fun q e => by have := (HMy1.out q e).2; omega) (fun q e => by have := (HMx.out q e).1; omega))
  have HOy215 := Lib.hid (OwnZ.kept_dn HOy214.out hg (M := w5.heap.size) (fun q e => by have := (HMy2.out q e).2; omega) (fun q e => by have := (HMx.out q e).1; omega))
  have HOy315 := Lib.hid (OwnZ.kept_dn HOy314.out hg (M := w5.heap.size) (fun q e => by have := (HMy3.out q e).2; omega) (fun q e => by have := (HMx.out q e).1; omega))
  have HOr15 := Lib.hid (HOr14.out.kept hg (fun q e => by have := (HMx.out q e).2; omega))
  have HOg115 := Lib.hid (HOg114.out.kept hg (fun q e => by have := (HMx.out q e).2; omega))
  have HOg215 := Lib.hid (HOg214.out.kept hg (fun q e => by have := (HMx.out q e).2; omega))
  have HOg315 := Lib.hid (HOg314.out.kept hg (fun q e => by have := (HMx.out q e).2; omega))
  have BXy15 := Lib.hid (BXy14.out.grown hg (fun e => by have := HMx.out _ e.symm; omega))
  have BXg15 := Lib.hid (BXg14.out.grown hg (fun e => by have := HMx.out _ e.symm; omega))
  clear ho hg HOy114 HOy214 HOy314 HOx14 HOr14 HOg114 HOg214 HOg314 BXy14 BXg14
  clear HOx15
  go_wp2_with fail
  refine (jmark_own w15 _ (some ⟨Ar, 0, none⟩) _ _ (1 + ts.length * 5) js HOr15.out (by omega) (by omega)).mono ?_
  rintro e w16 ⟨rfl, ho, hg⟩
  have HOr16 := Lib.hid ho
  have HB16 := Lib.hid (HB15.out.grown hg HB15.out.size (fun q e => by have := (World.ownsRow.lt HOr15.out q e).1; omega))
  have hs16 : w15.heap.size ≤ w16.heap.size := hg.size
  have HOy116 := Lib.hid (OwnZ.kept_dn HOy115.out hg (M := w6.heap.size) (fun q e => by have := (HMy1.out q e).2; omega) (fun q e => by have := (HMr.out q e).1; omega))
  have HOy216 := Lib.hid (OwnZ.kept_dn HOy215.out hg (M := w6.heap.size) (fun q e => by have := (HMy2.out q e).2; omega) (fun q e => by have := (HMr.out q e).1; omega))
  have HOy316 := Lib.hid (OwnZ.kept_dn HOy315.out hg (M := w6.heap.size) (fun q e => by have := (HMy3.out q e).2; omega) (fun q e => by have := (HMr.out q e).1; omega))
  have HOg116 := Lib.hid (HOg115.out.kept hg (fun q e => by have := (HMr.out q e).2; omega))
  have HOg216 := Lib.hid (HOg215.out.kept hg (fun q e => by have := (HMr.out q e).2; omega))
  have HOg316 := Lib.hid (HOg315.out.kept hg (fun q e => by have := (HMr.out q e).2; omega))
  have BXy16 := Lib.hid (BXy15.out.grown hg (fun e => by have := HMr.out _ e.symm; omega))
  have BXg16 := Lib.hid (BXg15.out.grown hg (fun e => by have := HMr.out _ e.symm; omega))
  clear ho hg HOy115 HOy215 HOy315 HOr15 HOg115 HOg215 HOg315 BXy15 BXg15
  clear HOr16
  have dm : decide (((1 + ts.length * 5 + js.length * 3 : Nat) : Int) < 0) = false := decide_eq_false (by omega)
  obtain ⟨qy0, qy1, qy2, qy3⟩ := Blk.quad BXy16.out
  obtain ⟨qg0, qg1, qg2, qg3⟩ := Blk.quad BXg16.out
  go_wp2_with fail
  refine (eqRun_any w16 Ag1 _ cg1 Ag2 _ cg2 Ag3 _ cg3 Ay1 cy1 Ay2 cy2 Ay3 cy3 hi en tr sw ⟨HOg116.out.reads, HOg216.out.reads, HOg316.out.reads⟩ ⟨HOy116.out.reads, HOy216.out.reads, HOy316.out.reads⟩ (by have := HLE.out; omega) (by have := HLE.out; omega) (by have := HLE.out; omega)).mono ?_
  rintro e w17 ⟨rfl, hb⟩
  clear qy0 qy1 qy2 qy3 qg0 qg1 qg2 qg3
  have hs17 : w16.heap.size ≤ w17.heap.size := hb.size
  have HB17 := Lib.hid (bl_trans HB16.out hb)
  have HOy117 := Lib.hid (HOy116.out.below hb)
  have HOy217 := Lib.hid (HOy216.out.below hb)
  have HOy317 := Lib.hid (HOy316.out.below hb)
  have HOg117 := Lib.hid (HOg116.out.below hb)
  have HOg217 := Lib.hid (HOg216.out.below hb)
  have HOg317 := Lib.hid (HOg316.out.below hb)
  have BXy17 := Lib.hid (BXy16.out.below hb BXy16.out.lt)
  have BXg17 := Lib.hid (BXg16.out.below hb BXg16.out.lt)
  clear hb HOy116 HOy216 HOy316 HOg116 HOg216 HOg316 BXy16 BXg16
  clear dm
  obtain ⟨qy0, qy1, qy2, qy3⟩ := Blk.quad BXy17.out
  obtain ⟨qg0, qg1, qg2, qg3⟩ := Blk.quad BXg17.out
  go_wp2_with fail
  refine (markRun_apart w17 w7.heap.size Ag1 cg1 Ag2 cg2 Ag3 cg3 hi en tr sw 1 HOg117.out HOg217.out HOg317.out HAPg.out.1 HAPg.out.2.1 HAPg.out.2.2 (by omega) (by have := HLE.out; omega) (by have := HLE.out; omega) (by have := HLE.out; omega) (by omega)).mono ?_
  rintro e w18 ⟨rfl, o1, o2, o3, hb, hsz, hk, hbx⟩
  have HB18 := Lib.hid (HB17.out.trans (bl_less hb HB7.out.size))
  have hs18 : w17.heap.size ≤ w18.heap.size := hsz
  clear qy0 qy1 qy2 qy3 qg0 qg1 qg2 qg3
  have HOg118 := Lib.hid o1
  have HOg218 := Lib.hid o2
  have HOg318 := Lib.hid o3
  have HOy118 := Lib.hid (hk _ _ _ (fun q e => by have := (HMy1.out q e).2; omega) HOy117.out)
  have HOy218 := Lib.hid (hk _ _ _ (fun q e => by have := (HMy2.out q e).2; omega) HOy217.out)
  have HOy318 := Lib.hid (hk _ _ _ (fun q e => by have := (HMy3.out q e).2; omega) HOy317.out)
  have BXy18 := Lib.hid (hbx _ _ _ BXy17.out (fun e => by have := HMg1.out _ e; omega) (fun e => by have := HMg2.out _ e; omega) (fun e => by have := HMg3.out _ e; omega))
  have BXg18 := Lib.hid (hbx _ _ _ BXg17.out (fun e => by have := HMg1.out _ e; omega) (fun e => by have := HMg2.out _ e; omega) (fun e => by have := HMg3.out _ e; omega))
  clear o1 o2 o3 hb hsz hk hbx HOy117 HOy217 HOy317 HOg117 HOg217 HOg317 BXy17 BXg17
  have dn : decide (((1 + en.length + tr.length + sw.length : Nat) : Int) < 0) = false := decide_eq_false (by omega)
  obtain ⟨qy0, qy1, qy2, qy3⟩ := Blk.quad BXy18.out
  obtain ⟨qg0, qg1, qg2, qg3⟩ := Blk.quad BXg18.out
  go_wp2_with fail
  refine (heldRun_any w18 Ag1 en.length cg1 Ag2 tr.length cg2 Ag3 sw.length cg3 hi 1 (OwnZ.readsE HOg118.out (marksZ_len _ _)) (OwnZ.readsE HOg218.out (marksZ_len _ _)) (OwnZ.readsE HOg318.out (marksZ_len _ _)) (by have := HLE.out; omega) (by have := HLE.out; omega) (by have := HLE.out; omega) (by omega)).mono ?_
  rintro e w19 ⟨rfl, hb⟩
  clear qy0 qy1 qy2 qy3 qg0 qg1 qg2 qg3
  have hs19 : w18.heap.size ≤ w19.heap.size := hb.size
  have HB19 := Lib.hid (bl_trans HB18.out hb)
  have HOy119 := Lib.hid (HOy118.out.below hb)
  have HOy219 := Lib.hid (HOy218.out.below hb)
  have HOy319 := Lib.hid (HOy318.out.below hb)
  have HOg119 := Lib.hid (HOg118.out.below hb)
  have HOg219 := Lib.hid (HOg218.out.below hb)
  have HOg319 := Lib.hid (HOg318.out.below hb)
  have BXy19 := Lib.hid (BXy18.out.below hb BXy18.out.lt)
  have BXg19 := Lib.hid (BXg18.out.below hb BXg18.out.lt)
  clear hb HOy118 HOy218 HOy318 HOg118 HOg218 HOg318 BXy18 BXg18
  go_wp2_with fail
  refine (toTaskS_any w19 A n c ts ((H.out.below HB19.out).more HB19.out.size) (by omega)).mono ?_
  rintro e w20 ⟨Az, cz, rfl, ho, hb⟩
  have HOz20 := Lib.hid ho
  have HMz := Lib.hid (World.ownsRow.lt ho)
  clear ho
  have hs20 : w19.heap.size ≤ w20.heap.size := hb.size
  have HB20 := Lib.hid (bl_trans HB19.out hb)
  have HOy120 := Lib.hid (HOy119.out.below hb)
  have HOy220 := Lib.hid (HOy219.out.below hb)
  have HOy320 := Lib.hid (HOy319.out.below hb)
  have HOg120 := Lib.hid (HOg119.out.below hb)
  have HOg220 := Lib.hid (HOg219.out.below hb)
  have HOg320 := Lib.hid (HOg319.out.below hb)
  have BXy20 := Lib.hid (BXy19.out.below hb BXy19.out.lt)
  have BXg20 := Lib.hid (BXg19.out.below hb BXg19.out.lt)
  clear hb HOy119 HOy219 HOy319 HOg119 HOg219 HOg319 BXy19 BXg19
  go_wp2_with fail
  refine (toJobS_any w20 Aj nj cj js ((HJ.out.below HB20.out).more HB20.out.size) (by omega)).mono ?_
  rintro e w21 ⟨At, rfl, ho, hb⟩
  have HOt21 := Lib.hid ho
  have HMt := Lib.hid (World.ownsRow.lt ho)
  clear ho
  have hs21 : w20.heap.size ≤ w21.heap.size := hb.size
  have HB21 := Lib.hid (bl_trans HB20.out hb)
  have HOy121 := Lib.hid (HOy120.out.below hb)
  have HOy221 := Lib.hid (HOy220.out.below hb)
  have HOy321 := Lib.hid (HOy320.out.below hb)
  have HOg121 := Lib.hid (HOg120.out.below hb)
  have HOg221 := Lib.hid (HOg220.out.below hb)
  have HOg321 := Lib.hid (HOg320.out.below hb)
  have HOz21 := Lib.hid (HOz20.out.below hb)
  have BXy21 := Lib.hid (BXy20.out.below hb BXy20.out.lt)
  have BXg21 := Lib.hid (BXg20.out.below hb BXg20.out.lt)
  clear hb HOy120 HOy220 HOy320 HOg120 HOg220 HOg320 HOz20 BXy20 BXg20
  go_wp2_with fail
  refine (iR_at w21 Az _ cz ts (some ⟨At, 0, none⟩) _ _ js pol tk en tr sw hi b HOz21.out.reads.2 (by omega) HOt21.out.reads.2 e0 (HE.out.below HB21.out) HU.out).mono ?_
  rintro e w22 ⟨Ah1, ch1, Ah2, ch2, Ah3, ch3, rfl, o1, o2, o3, a12, a13, a23, hb⟩
  have HOh122 := Lib.hid o1
  have HMh1 := Lib.hid (World.ownsRow.lt o1)
  have HOh222 := Lib.hid o2
  have HMh2 := Lib.hid (World.ownsRow.lt o2)
  have HOh322 := Lib.hid o3
  have HMh3 := Lib.hid (World.ownsRow.lt o3)
  have HAPh := Lib.hid (And.intro a12 (And.intro a13 a23))
  clear o1 o2 o3 a12 a13 a23
  have hs22 : w21.heap.size ≤ w22.heap.size := hb.size
  have HB22 := Lib.hid (bl_trans HB21.out hb)
  have HOy122 := Lib.hid (HOy121.out.below hb)
  have HOy222 := Lib.hid (HOy221.out.below hb)
  have HOy322 := Lib.hid (HOy321.out.below hb)
  have HOg122 := Lib.hid (HOg121.out.below hb)
  have HOg222 := Lib.hid (HOg221.out.below hb)
  have HOg322 := Lib.hid (HOg321.out.below hb)
  have HOz22 := Lib.hid (HOz21.out.below hb)
  have HOt22 := Lib.hid (HOt21.out.below hb)
  have BXy22 := Lib.hid (BXy21.out.below hb BXy21.out.lt)
  have BXg22 := Lib.hid (BXg21.out.below hb BXg21.out.lt)
  clear hb HOy121 HOy221 HOy321 HOg121 HOg221 HOg321 HOz21 HOt21 BXy21 BXg21
  obtain ⟨wzh, hwzh⟩ : ∃ wz, w22.alloc (.cells #[.slice none 0 0, .slice none 0 0, .slice none 0 0, .bool false] 29) = wz := ⟨_, rfl⟩
  have hzh : Blk wzh w22.heap.size 29 #[.slice none 0 0, .slice none 0 0, .slice none 0 0, .bool false] := by rw [← hwzh]; exact Blk.new w22 _ _
  have bzh : Below w22.heap.size w22 wzh := by rw [← hwzh]; exact bl_alloc (Below.refl _ _) _
  obtain ⟨zah, zbh, zch, zdh⟩ := Blk.quad hzh
  have zfh := hzh.frozen
  obtain ⟨w23, hwnh⟩ : ∃ wn, (((wzh.setCell ⟨w22.heap.size, 0, none⟩ (.slice Ah1 en.length ch1)).setCell ⟨w22.heap.size, 1, none⟩ (.slice Ah2 tr.length ch2)).setCell ⟨w22.heap.size, 2, none⟩ (.slice Ah3 sw.length ch3)).setCell ⟨w22.heap.size, 3, none⟩ (.bool hi) = wn := ⟨_, rfl⟩
  have hXh : Blk w23 w22.heap.size 29 #[(.slice Ah1 en.length ch1), (.slice Ah2 tr.length ch2), (.slice Ah3 sw.length ch3), .bool hi] := by
    rw [← hwnh]
    have h := (((hzh.set_ 0 ((.slice Ah1 en.length ch1))).set_ 1 ((.slice Ah2 tr.length ch2))).set_ 2 ((.slice Ah3 sw.length ch3))).set_ 3 (.bool hi)
    simpa using h
  have hYh : Below w22.heap.size w22 w23 := by
    rw [← hwnh]
    exact (((bl_set bzh (by dsimp only; omega) _).setCell (by dsimp only; omega) _).setCell (by dsimp only; omega) _).setCell (by dsimp only; omega) _
  have BXh23 := Lib.hid hXh
  have hgh : w22.heap.size < w23.heap.size := hXh.lt
  clear hXh hzh bzh
  have hs23 : w22.heap.size ≤ w23.heap.size := hYh.size
  have HB23 := Lib.hid (bl_trans HB22.out hYh)
  have HOy123 := Lib.hid (HOy122.out.below hYh)
  have HOy223 := Lib.hid (HOy222.out.below hYh)
  have HOy323 := Lib.hid (HOy322.out.below hYh)
  have HOg123 := Lib.hid (HOg122.out.below hYh)
  have HOg223 := Lib.hid (HOg222.out.below hYh)
  have HOg323 := Lib.hid (HOg322.out.below hYh)
  have HOz23 := Lib.hid (HOz22.out.below hYh)
  have HOt23 := Lib.hid (HOt22.out.below hYh)
  have HOh123 := Lib.hid (HOh122.out.below hYh)
  have HOh223 := Lib.hid (HOh222.out.below hYh)
  have HOh323 := Lib.hid (HOh322.out.below hYh)
  have BXy23 := Lib.hid (BXy22.out.below hYh BXy22.out.lt)
  have BXg23 := Lib.hid (BXg22.out.below hYh BXg22.out.lt)
  clear hYh HOy122 HOy222 HOy322 HOg122 HOg222 HOg322 HOz22 HOt22 HOh122 HOh222 HOh322 BXy22 BXg22
  clear HOz23
  clear HOt23
  obtain ⟨qy0, qy1, qy2, qy3⟩ := Blk.quad BXy23.out
  obtain ⟨qg0, qg1, qg2, qg3⟩ := Blk.quad BXg23.out
  obtain ⟨qh0, qh1, qh2, qh3⟩ := Blk.quad BXh23.out
  go_wp2_with fail
  refine (eqRun_any w23 Ah1 _ ch1 Ah2 _ ch2 Ah3 _ ch3 Ay1 cy1 Ay2 cy2 Ay3 cy3 hi en tr sw ⟨HOh123.out.reads, HOh223.out.reads, HOh323.out.reads⟩ ⟨HOy123.out.reads, HOy223.out.reads, HOy323.out.reads⟩ (by have := HLE.out; omega) (by have := HLE.out; omega) (by have := HLE.out; omega)).mono ?_
  rintro e w24 ⟨rfl, hb⟩
  clear qy0 qy1 qy2 qy3 qg0 qg1 qg2 qg3 qh0 qh1 qh2 qh3 hwzh hwnh zah zbh zch zdh zfh
  have hs24 : w23.heap.size ≤ w24.heap.size := hb.size
  have HB24 := Lib.hid (bl_trans HB23.out hb)
  have HOy124 := Lib.hid (HOy123.out.below hb)
  have HOy224 := Lib.hid (HOy223.out.below hb)
  have HOy324 := Lib.hid (HOy323.out.below hb)
  have HOg124 := Lib.hid (HOg123.out.below hb)
  have HOg224 := Lib.hid (HOg223.out.below hb)
  have HOg324 := Lib.hid (HOg323.out.below hb)
  have HOh124 := Lib.hid (HOh123.out.below hb)
  have HOh224 := Lib.hid (HOh223.out.below hb)
  have HOh324 := Lib.hid (HOh323.out.below hb)
  have BXy24 := Lib.hid (BXy23.out.below hb BXy23.out.lt)
  have BXg24 := Lib.hid (BXg23.out.below hb BXg23.out.lt)
  have BXh24 := Lib.hid (BXh23.out.below hb BXh23.out.lt)
  clear hb HOy123 HOy223 HOy323 HOg123 HOg223 HOg323 HOh123 HOh223 HOh323 BXy23 BXg23 BXh23
  obtain ⟨qy0, qy1, qy2, qy3⟩ := Blk.quad BXy24.out
  obtain ⟨qg0, qg1, qg2, qg3⟩ := Blk.quad BXg24.out
  obtain ⟨qh0, qh1, qh2, qh3⟩ := Blk.quad BXh24.out
  go_wp2_with fail
  refine (heldRun_any w24 Ag1 en.length cg1 Ag2 tr.length cg2 Ag3 sw.length cg3 hi 1 (OwnZ.readsE HOg124.out (marksZ_len _ _)) (OwnZ.readsE HOg224.out (marksZ_len _ _)) (OwnZ.readsE HOg324.out (marksZ_len _ _)) (by have := HLE.out; omega) (by have := HLE.out; omega) (by have := HLE.out; omega) (by omega)).mono ?_
  rintro e w25 ⟨rfl, hb⟩
  clear qy0 qy1 qy2 qy3 qg0 qg1 qg2 qg3 qh0 qh1 qh2 qh3
  have hs25 : w24.heap.size ≤ w25.heap.size := hb.size
  have HB25 := Lib.hid (bl_trans HB24.out hb)
  have HOy125 := Lib.hid (HOy124.out.below hb)
  have HOy225 := Lib.hid (HOy224.out.below hb)
  have HOy325 := Lib.hid (HOy324.out.below hb)
  have HOg125 := Lib.hid (HOg124.out.below hb)
  have HOg225 := Lib.hid (HOg224.out.below hb)
  have HOg325 := Lib.hid (HOg324.out.below hb)
  have HOh125 := Lib.hid (HOh124.out.below hb)
  have HOh225 := Lib.hid (HOh224.out.below hb)
  have HOh325 := Lib.hid (HOh324.out.below hb)
  have BXy25 := Lib.hid (BXy24.out.below hb BXy24.out.lt)
  have BXg25 := Lib.hid (BXg24.out.below hb BXg24.out.lt)
  have BXh25 := Lib.hid (BXh24.out.below hb BXh24.out.lt)
  clear hb HOy124 HOy224 HOy324 HOg124 HOg224 HOg324 HOh124 HOh224 HOh324 BXy24 BXg24 BXh24
  go_wp2
  go_ret
  exact ⟨rfl, HB25.out⟩
end Go.Proofs.YtgponahmkjohiabGreatDoor
