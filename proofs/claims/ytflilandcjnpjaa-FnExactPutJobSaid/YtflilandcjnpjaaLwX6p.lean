/- The walk of the exact law of PutJob. -/
import Derived.Test.YtflilandcjnpjaaMarkOwn
import Derived.Test.YtflilandcjnpjaaExJ
import Derived.Test.YtflilandcjnpjaaM4
import Derived.Test.YtflilandcjnpjaaM6
namespace Go.Proofs.Ytflilandcjnpjaa
open Go.RowKit
set_option linter.unusedVariables false

theorem OwnJ.readsN {w : World} {B : Nat} {A : Option Addr} {n c : Nat} {js : List Jb} (h : OwnJ w B (.slice A n c) js) (hn : js.length = n) : Jbs w w.heap.size A n js := by
  subst hn
  exact h.reads.2
theorem OwnJ.kept_down {w w' : World} {B M : Nat} {v : Value} {js : List Jb} {row : Option Nat} (h : OwnJ w B v js) (hg : w.grownBy w' row) (hv : ∀ k, v.ownBlock = some k → k < M) (hr : ∀ k, row = some k → M ≤ k) : OwnJ w' B v js := by
  refine World.ownsRow.kept h hg ?_
  rcases he : v.ownBlock with _ | k
  · exact .inl rfl
  · right
    intro e
    have := hv k he
    have := hr k e.symm
    omega
theorem putV_len (ts : List Tk) (js : List Jb) (j : Jb) : (putV ts js j).length ≤ 60 := by
  unfold putV
  split
  · rename_i h
    unfold putB at h
    simp only [Bool.and_eq_true] at h
    exact jobs_len h.2
  · exact Nat.zero_le _
theorem sP_at (w : World) (A : Option Addr) (n c : Nat) (ts : List Tk) (g : Nat) (js us : List Jb) (ta tm ne : Int) (b : Bool) (h : Tks w w.heap.size A n ts) (hn : n ≤ 1048576) (h2 : Jbs w w.heap.size (some ⟨g, 0, none⟩) js.length js) (hu : putV ts js ⟨ta, tm, ne⟩ = us ∧ putB ts js ⟨ta, tm, ne⟩ = b) :
    Calls Try.prog 23 #[.slice A n c, .slice (some ⟨g, 0, none⟩) js.length js.length, .agg #[.int .i64 ta, .int .i64 tm, .int .i64 ne]] w (JsRes2 us b w) := by
  have := sPut_is w A n c ts h hn g 0 js.length js.length js h2 (Nat.le_refl _) ⟨ta, tm, ne⟩ b hu.2
  rw [hu.1] at this
  exact this.mono fun e w' ⟨g, c, e1, o, bb⟩ => ⟨_, c, e1, o, bb⟩
theorem iP_at (w : World) (A : Option Addr) (n c : Nat) (ts : List Tk) (g : Nat) (js us : List Jb) (ta tm ne : Int) (b : Bool) (h : Tks w w.heap.size A n ts) (hn : n ≤ 1048576) (h2 : Jbs w w.heap.size (some ⟨g, 0, none⟩) js.length js) (hu : putV ts js ⟨ta, tm, ne⟩ = us ∧ putB ts js ⟨ta, tm, ne⟩ = b) :
    Calls Try.prog 22 #[.slice A n c, .slice (some ⟨g, 0, none⟩) js.length js.length, .agg #[.int .i64 ta, .int .i64 tm, .int .i64 ne]] w (JsRes2 us b w) := by
  have := iPut_is w A n c ts h hn (some ⟨g, 0, none⟩) js.length js.length js h2 ⟨ta, tm, ne⟩ b hu.2
  rw [hu.1] at this
  exact this.mono fun e w' ⟨g, c, e1, o, bb⟩ => ⟨_, c, e1, o, bb⟩

set_option maxRecDepth 100000 in
set_option maxHeartbeats 4000000 in
theorem fnExactPutJob_walk (w : World) (A : Option Addr) (n c : Nat) (ts : List Tk) (h : Tks w w.heap.size A n ts) (hmax : n ≤ 9223372036854775807) (Aj : Option Addr) (nj cj : Nat) (js : List Jb) (hj : Jbs w w.heap.size Aj nj js) (hjmax : nj ≤ 9223372036854775807) (ta tm ne : Int) :
    Calls Try.prog 13 #[.slice A n c, .slice Aj nj cj, .agg #[.int .i64 ta, .int .i64 tm, .int .i64 ne]] w fun e w' => e = .returned (.bool true) ∧ Below w.heap.size w w' := by
  have H := Lib.hid h
  have HL := Lib.hid h.len
  have HJ := Lib.hid hj
  have HJL := Lib.hid hj.len
  clear h hj
  by_cases hn : 1048576 < n
  · go_enter Try.func13, Try.ntmps13
    go_wp2_with fail
    refine (sz_any _ A n c hmax).mono ?_
    rintro e w1 ⟨rfl, rfl⟩
    rw [if_pos (by omega)]
    go_wp2
    go_ret
    exact ⟨rfl, by repeat (first | with_reducible exact Below.refl _ _ | refine bl_alloc ?_ _)⟩
  by_cases hnj : (1048576 - (n : Int)) < (nj : Int)
  · go_enter Try.func13, Try.ntmps13
    go_wp2_with fail
    refine (sz_any _ A n c hmax).mono ?_
    rintro e w1 ⟨rfl, rfl⟩
    rw [if_neg (by omega)]
    go_wp2_with fail
    refine (szJ_any _ Aj nj cj hjmax (1048576 - (n : Int)) (by omega) (by omega)).mono ?_
    rintro e w1 ⟨rfl, rfl⟩
    rw [if_pos (by omega)]
    go_wp2
    go_ret
    exact ⟨rfl, by repeat (first | with_reducible exact Below.refl _ _ | refine bl_alloc ?_ _)⟩
  have htl : ts.length ≤ 1048576 := by rw [HL.out]; omega
  have hjl : js.length ≤ 1048576 := by rw [HJL.out]; omega
  obtain ⟨us, b, hu⟩ : ∃ us b, putV ts js ⟨ta, tm, ne⟩ = us ∧ putB ts js ⟨ta, tm, ne⟩ = b := ⟨_, _, rfl, rfl⟩
  have hul : us.length ≤ 60 := by rw [← hu.1]; exact putV_len ts js _
  have HU := Lib.hid hu
  clear hu
  go_enter Try.func13, Try.ntmps13
  go_wp2_with fail
  refine (sz_any _ A n c hmax).mono ?_
  rintro e w1 ⟨rfl, rfl⟩
  rw [if_neg (by omega)]
  go_wp2_with fail
  refine (szJ_any _ Aj nj cj hjmax (1048576 - (n : Int)) (by omega) (by omega)).mono ?_
  rintro e w1 ⟨rfl, rfl⟩
  rw [if_neg (by omega)]
  have BJ1 := Lib.hid (Blk.new w 55 #[.int .i64 ta, .int .i64 tm, .int .i64 ne])
  have HB1 := Lib.hid (show Below w.heap.size w (w.alloc (.cells #[.int .i64 ta, .int .i64 tm, .int .i64 ne] 55)) from bl_alloc (Below.refl _ _) _)
  generalize (w.alloc (.cells #[.int .i64 ta, .int .i64 tm, .int .i64 ne] 55)) = w1 at *
  generalize hbJ : w.heap.size = bJ at BJ1 ⊢
  have hs1 := HB1.out.size
  have E1 : w1.cell? ⟨bJ, 0, none⟩ = some (.int .i64 ta) ∧ w1.cell? ⟨bJ, 1, none⟩ = some (.int .i64 tm) ∧ w1.cell? ⟨bJ, 2, none⟩ = some (.int .i64 ne) := ⟨BJ1.out.cell 0, BJ1.out.cell 1, BJ1.out.cell 2⟩
  go_wp2_with fail
  go_region_held3 (fun W => W.cell? ⟨bJ, 0, none⟩ = some (.int .i64 ta) ∧ W.cell? ⟨bJ, 1, none⟩ = some (.int .i64 tm) ∧ W.cell? ⟨bJ, 2, none⟩ = some (.int .i64 ne)) (first | exact E1 | exact E2 | exact E3 | exact E4 | exact E5 | assumption | (simp [go_sem, *]; done))
    ((first | (go_at_call 29; refine (toTaskS_any _ A n c ts (tks_to6 ((H.out.below HB1.out).more HB1.out.size) (by repeat (first | with_reducible exact Below.refl _ _ | with_reducible refine Below.drew ?_ | with_reducible refine bl_drewN ?_ _ | with_reducible refine bl_alloc ?_ _))) (by omega)).mono ?_; rintro e w2 ⟨Au, cu, rfl, ho, hb⟩; have HOu2 := Lib.hid ho; have HMu := Lib.hid (World.ownsRow.lt ho); clear ho; have hb := bl_trans (show Below w1.heap.size w1 _ from (by repeat (first | with_reducible exact Below.refl _ _ | with_reducible refine Below.drew ?_ | with_reducible refine bl_drewN ?_ _ | with_reducible refine bl_alloc ?_ _))) hb; have hs2 : w1.heap.size ≤ w2.heap.size := hb.size; have HB2 := Lib.hid (bl_trans HB1.out hb); have BJ2 := Lib.hid (Blk.below BJ1.out hb BJ1.out.lt); clear hb; have E2 : w2.cell? ⟨bJ, 0, none⟩ = some (.int .i64 ta) ∧ w2.cell? ⟨bJ, 1, none⟩ = some (.int .i64 tm) ∧ w2.cell? ⟨bJ, 2, none⟩ = some (.int .i64 ne) := ⟨BJ2.out.cell 0, BJ2.out.cell 1, BJ2.out.cell 2⟩) | (go_at_call 30; refine (toJobS_any _ Aj nj cj js (jbs_to ((HJ.out.below HB2.out).more HB2.out.size) (by repeat (first | with_reducible exact Below.refl _ _ | with_reducible refine Below.drew ?_ | with_reducible refine bl_drewN ?_ _ | with_reducible refine bl_alloc ?_ _))) (by omega)).mono ?_; rintro e w3 ⟨Ap, rfl, ho, hb⟩; have HOp3 := Lib.hid ho; have HMp := Lib.hid (World.ownsRow.lt ho); clear ho; have hb := bl_trans (show Below w2.heap.size w2 _ from (by repeat (first | with_reducible exact Below.refl _ _ | with_reducible refine Below.drew ?_ | with_reducible refine bl_drewN ?_ _ | with_reducible refine bl_alloc ?_ _))) hb; have hs3 : w2.heap.size ≤ w3.heap.size := hb.size; have HB3 := Lib.hid (bl_trans HB2.out hb); have BJ3 := Lib.hid (Blk.below BJ2.out hb BJ2.out.lt); have HOu3 := Lib.hid (HOu2.out.below hb); clear hb; clear HOu2; have E3 : w3.cell? ⟨bJ, 0, none⟩ = some (.int .i64 ta) ∧ w3.cell? ⟨bJ, 1, none⟩ = some (.int .i64 tm) ∧ w3.cell? ⟨bJ, 2, none⟩ = some (.int .i64 ne) := ⟨BJ3.out.cell 0, BJ3.out.cell 1, BJ3.out.cell 2⟩) | (go_at_call 36; refine (toJob_any ta tm ne _).mono ?_; rintro e w4 ⟨rfl, hb⟩; have hb := bl_trans (show Below w3.heap.size w3 _ from (by repeat (first | with_reducible exact Below.refl _ _ | with_reducible refine Below.drew ?_ | with_reducible refine bl_drewN ?_ _ | with_reducible refine bl_alloc ?_ _))) hb; have hs4 : w3.heap.size ≤ w4.heap.size := hb.size; have HB4 := Lib.hid (bl_trans HB3.out hb); have BJ4 := Lib.hid (Blk.below BJ3.out hb BJ3.out.lt); have HOu4 := Lib.hid (HOu3.out.below hb); have HOp4 := Lib.hid (HOp3.out.below hb); clear hb; clear HOu3 HOp3; have E4 : w4.cell? ⟨bJ, 0, none⟩ = some (.int .i64 ta) ∧ w4.cell? ⟨bJ, 1, none⟩ = some (.int .i64 tm) ∧ w4.cell? ⟨bJ, 2, none⟩ = some (.int .i64 ne) := ⟨BJ4.out.cell 0, BJ4.out.cell 1, BJ4.out.cell 2⟩) | (go_at_call 23; refine (sP_at _ Au _ cu ts Ap js us ta tm ne b HOu4.out.reads.2 (by omega) HOp4.out.reads.2 HU.out).mono ?_; rintro e w5 ⟨Ay, cy, rfl, ho, hb⟩; have HOy5 := Lib.hid ho; have HMy := Lib.hid (World.ownsRow.lt ho); clear ho; have hb := bl_trans (show Below w4.heap.size w4 _ from (by repeat (first | with_reducible exact Below.refl _ _ | with_reducible refine Below.drew ?_ | with_reducible refine bl_drewN ?_ _ | with_reducible refine bl_alloc ?_ _))) hb; have hs5 : w4.heap.size ≤ w5.heap.size := hb.size; have HB5 := Lib.hid (bl_trans HB4.out hb); have BJ5 := Lib.hid (Blk.below BJ4.out hb BJ4.out.lt); have HOu5 := Lib.hid (HOu4.out.below hb); have HOp5 := Lib.hid (HOp4.out.below hb); clear hb; clear HOu4 HOp4; have E5 : w5.cell? ⟨bJ, 0, none⟩ = some (.int .i64 ta) ∧ w5.cell? ⟨bJ, 1, none⟩ = some (.int .i64 tm) ∧ w5.cell? ⟨bJ, 2, none⟩ = some (.int .i64 ne) := ⟨BJ5.out.cell 0, BJ5.out.cell 1, BJ5.out.cell 2⟩)))
  clear HOu5
  clear HOp5
  go_wp2_with fail
  refine (toTaskS_any _ A n c ts (tks_to6 ((H.out.below HB5.out).more HB5.out.size) (by repeat (first | with_reducible exact Below.refl _ _ | with_reducible refine Below.drew ?_ | with_reducible refine bl_drewN ?_ _ | with_reducible refine bl_alloc ?_ _))) (by omega)).mono ?_
  rintro e w6 ⟨Ax, cx, rfl, ho, hb⟩
  have HOx6 := Lib.hid ho
  have HMx := Lib.hid (World.ownsRow.lt ho)
  clear ho
  have hb := bl_trans (show Below w5.heap.size w5 _ from (by repeat (first | with_reducible exact Below.refl _ _ | with_reducible refine Below.drew ?_ | with_reducible refine bl_drewN ?_ _ | with_reducible refine bl_alloc ?_ _))) hb
  have hs6 : w5.heap.size ≤ w6.heap.size := hb.size
  have HB6 := Lib.hid (bl_trans HB5.out hb)
  have BJ6 := Lib.hid (Blk.below BJ5.out hb BJ5.out.lt)
  have HOy6 := Lib.hid (HOy5.out.below hb)
  clear hb
  clear HOy5
  go_wp2_with fail
  refine (toJobS_any _ Aj nj cj js (jbs_to ((HJ.out.below HB6.out).more HB6.out.size) (by repeat (first | with_reducible exact Below.refl _ _ | with_reducible refine Below.drew ?_ | with_reducible refine bl_drewN ?_ _ | with_reducible refine bl_alloc ?_ _))) (by omega)).mono ?_
  rintro e w7 ⟨Ar, rfl, ho, hb⟩
  have HOr7 := Lib.hid ho
  have HMr := Lib.hid (World.ownsRow.lt ho)
  clear ho
  have hb := bl_trans (show Below w6.heap.size w6 _ from (by repeat (first | with_reducible exact Below.refl _ _ | with_reducible refine Below.drew ?_ | with_reducible refine bl_drewN ?_ _ | with_reducible refine bl_alloc ?_ _))) hb
  have hs7 : w6.heap.size ≤ w7.heap.size := hb.size
  have HB7 := Lib.hid (bl_trans HB6.out hb)
  have BJ7 := Lib.hid (Blk.below BJ6.out hb BJ6.out.lt)
  have HOy7 := Lib.hid (HOy6.out.below hb)
  have HOx7 := Lib.hid (HOx6.out.below hb)
  clear hb
  clear HOy6 HOx6
  have cJ := BJ7.out.cell
  go_wp2_with fail
  refine (toJob_any ta tm ne _).mono ?_
  rintro e w8 ⟨rfl, hb⟩
  have hb := bl_trans (show Below w7.heap.size w7 _ from (by repeat (first | with_reducible exact Below.refl _ _ | with_reducible refine Below.drew ?_ | with_reducible refine bl_drewN ?_ _ | with_reducible refine bl_alloc ?_ _))) hb
  have hs8 : w7.heap.size ≤ w8.heap.size := hb.size
  have HB8 := Lib.hid (bl_trans HB7.out hb)
  have BJ8 := Lib.hid (Blk.below BJ7.out hb BJ7.out.lt)
  have HOy8 := Lib.hid (HOy7.out.below hb)
  have HOx8 := Lib.hid (HOx7.out.below hb)
  have HOr8 := Lib.hid (HOr7.out.below hb)
  clear hb
  clear HOy7 HOx7 HOr7
  clear cJ
  go_wp2_with fail
  refine (iP_at _ Ax _ cx ts Ar js us ta tm ne b HOx8.out.reads.2 (by omega) HOr8.out.reads.2 HU.out).mono ?_
  rintro e w9 ⟨Ag, cg, rfl, ho, hb⟩
  have HOg9 := Lib.hid ho
  have HMg := Lib.hid (World.ownsRow.lt ho)
  clear ho
  have hb := bl_trans (show Below w8.heap.size w8 _ from (by repeat (first | with_reducible exact Below.refl _ _ | with_reducible refine Below.drew ?_ | with_reducible refine bl_drewN ?_ _ | with_reducible refine bl_alloc ?_ _))) hb
  have hs9 : w8.heap.size ≤ w9.heap.size := hb.size
  have HB9 := Lib.hid (bl_trans HB8.out hb)
  have BJ9 := Lib.hid (Blk.below BJ8.out hb BJ8.out.lt)
  have HOy9 := Lib.hid (HOy8.out.below hb)
  have HOx9 := Lib.hid (HOx8.out.below hb)
  have HOr9 := Lib.hid (HOr8.out.below hb)
  clear hb
  clear HOy8 HOx8 HOr8
  go_wp2_with fail
  refine (eqJobS_any _ Ag Ay _ cg cy us HOg9.out.reads.2 HOy9.out.reads.2 (by omega)).mono ?_
  rintro e w10 ⟨rfl, hb⟩
  have hb := bl_trans (show Below w9.heap.size w9 _ from (by repeat (first | with_reducible exact Below.refl _ _ | with_reducible refine Below.drew ?_ | with_reducible refine bl_drewN ?_ _ | with_reducible refine bl_alloc ?_ _))) hb
  have hs10 : w9.heap.size ≤ w10.heap.size := hb.size
  have HB10 := Lib.hid (bl_trans HB9.out hb)
  have BJ10 := Lib.hid (Blk.below BJ9.out hb BJ9.out.lt)
  have HOy10 := Lib.hid (HOy9.out.below hb)
  have HOx10 := Lib.hid (HOx9.out.below hb)
  have HOr10 := Lib.hid (HOr9.out.below hb)
  have HOg10 := Lib.hid (HOg9.out.below hb)
  clear hb
  clear HOy9 HOx9 HOr9 HOg9
  go_wp2_with fail
  refine (toTaskS_any _ A n c ts (tks_to6 ((H.out.below HB10.out).more HB10.out.size) (by repeat (first | with_reducible exact Below.refl _ _ | with_reducible refine Below.drew ?_ | with_reducible refine bl_drewN ?_ _ | with_reducible refine bl_alloc ?_ _))) (by omega)).mono ?_
  rintro e w11 ⟨Av, cv, rfl, ho, hb⟩
  have HOv11 := Lib.hid ho
  have HMv := Lib.hid (World.ownsRow.lt ho)
  clear ho
  have hb := bl_trans (show Below w10.heap.size w10 _ from (by repeat (first | with_reducible exact Below.refl _ _ | with_reducible refine Below.drew ?_ | with_reducible refine bl_drewN ?_ _ | with_reducible refine bl_alloc ?_ _))) hb
  have hs11 : w10.heap.size ≤ w11.heap.size := hb.size
  have HB11 := Lib.hid (bl_trans HB10.out hb)
  have BJ11 := Lib.hid (Blk.below BJ10.out hb BJ10.out.lt)
  have HOy11 := Lib.hid (HOy10.out.below hb)
  have HOx11 := Lib.hid (HOx10.out.below hb)
  have HOr11 := Lib.hid (HOr10.out.below hb)
  have HOg11 := Lib.hid (HOg10.out.below hb)
  clear hb
  clear HOy10 HOx10 HOr10 HOg10
  go_wp2_with fail
  refine (eqTaskS_any w11 Ax Av _ cx cv ts HOx11.out.reads.2 HOv11.out.reads.2 (by omega)).mono ?_
  rintro e w12 ⟨rfl, hb⟩
  have hb := bl_trans (show Below w11.heap.size w11 _ from (by repeat (first | with_reducible exact Below.refl _ _ | with_reducible refine Below.drew ?_ | with_reducible refine bl_drewN ?_ _ | with_reducible refine bl_alloc ?_ _))) hb
  have hs12 : w11.heap.size ≤ w12.heap.size := hb.size
  have HB12 := Lib.hid (bl_trans HB11.out hb)
  have BJ12 := Lib.hid (Blk.below BJ11.out hb BJ11.out.lt)
  have HOy12 := Lib.hid (HOy11.out.below hb)
  have HOx12 := Lib.hid (HOx11.out.below hb)
  have HOr12 := Lib.hid (HOr11.out.below hb)
  have HOg12 := Lib.hid (HOg11.out.below hb)
  have HOv12 := Lib.hid (HOv11.out.below hb)
  clear hb
  clear HOy11 HOx11 HOr11 HOg11 HOv11
  clear HOv12
  go_wp2_with fail
  refine (toJobS_any _ Aj nj cj js (jbs_to ((HJ.out.below HB12.out).more HB12.out.size) (by repeat (first | with_reducible exact Below.refl _ _ | with_reducible refine Below.drew ?_ | with_reducible refine bl_drewN ?_ _ | with_reducible refine bl_alloc ?_ _))) (by omega)).mono ?_
  rintro e w13 ⟨As, rfl, ho, hb⟩
  have HOs13 := Lib.hid ho
  have HMs := Lib.hid (World.ownsRow.lt ho)
  clear ho
  have hb := bl_trans (show Below w12.heap.size w12 _ from (by repeat (first | with_reducible exact Below.refl _ _ | with_reducible refine Below.drew ?_ | with_reducible refine bl_drewN ?_ _ | with_reducible refine bl_alloc ?_ _))) hb
  have hs13 : w12.heap.size ≤ w13.heap.size := hb.size
  have HB13 := Lib.hid (bl_trans HB12.out hb)
  have BJ13 := Lib.hid (Blk.below BJ12.out hb BJ12.out.lt)
  have HOy13 := Lib.hid (HOy12.out.below hb)
  have HOx13 := Lib.hid (HOx12.out.below hb)
  have HOr13 := Lib.hid (HOr12.out.below hb)
  have HOg13 := Lib.hid (HOg12.out.below hb)
  clear hb
  clear HOy12 HOx12 HOr12 HOg12
  go_wp2_with fail
  refine (eqJobS_any w13 (some ⟨Ar, 0, none⟩) (some ⟨As, 0, none⟩) js.length js.length js.length js HOr13.out.reads.2 HOs13.out.reads.2 (by omega)).mono ?_
  rintro e w14 ⟨rfl, hb⟩
  have hb := bl_trans (show Below w13.heap.size w13 _ from (by repeat (first | with_reducible exact Below.refl _ _ | with_reducible refine Below.drew ?_ | with_reducible refine bl_drewN ?_ _ | with_reducible refine bl_alloc ?_ _))) hb
  have hs14 : w13.heap.size ≤ w14.heap.size := hb.size
  have HB14 := Lib.hid (bl_trans HB13.out hb)
  have BJ14 := Lib.hid (Blk.below BJ13.out hb BJ13.out.lt)
  have HOy14 := Lib.hid (HOy13.out.below hb)
  have HOx14 := Lib.hid (HOx13.out.below hb)
  have HOr14 := Lib.hid (HOr13.out.below hb)
  have HOg14 := Lib.hid (HOg13.out.below hb)
  have HOs14 := Lib.hid (HOs13.out.below hb)
  clear hb
  clear HOy13 HOx13 HOr13 HOg13 HOs13
  clear HOs14
  go_wp2_with fail
  refine (mark_own w14 _ Ax _ cx 1 ts HOx14.out (by omega) (by omega)).mono ?_
  rintro e w15 ⟨rfl, ho, hg⟩
  have HOx15 := Lib.hid ho
  have HB15 := Lib.hid (HB14.out.grown hg HB14.out.size (fun q e => by have := (World.ownsRow.lt HOx14.out q e).1; omega))
  have hs15 : w14.heap.size ≤ w15.heap.size := hg.size
  have HOy15 := Lib.hid (HOy14.out.kept_down hg (M := w5.heap.size) (fun q e => by have := (HMy.out q e).2; omega) (fun q e => by have := (HMx.out q e).1; omega))
  have HOr15 := Lib.hid (HOr14.out.kept hg (fun q e => by have := (HMx.out q e).2; omega))
  have HOg15 := Lib.hid (HOg14.out.kept hg (fun q e => by have := (HMx.out q e).2; omega))
  have BJ15 := Lib.hid (Blk.grown BJ14.out hg (fun e => by have := (HMx.out _ e.symm).1; have := BJ1.out.lt; omega))
  clear ho hg HOy14 HOx14 HOr14 HOg14
  clear HOx15
  go_wp2_with fail
  refine (jmark_own w15 _ (some ⟨Ar, 0, none⟩) _ _ (1 + ts.length * 5) js HOr15.out (by omega) (by omega)).mono ?_
  rintro e w16 ⟨rfl, ho, hg⟩
  have HOr16 := Lib.hid ho
  have HB16 := Lib.hid (HB15.out.grown hg HB15.out.size (fun q e => by have := (World.ownsRow.lt HOr15.out q e).1; omega))
  have hs16 : w15.heap.size ≤ w16.heap.size := hg.size
  have HOy16 := Lib.hid (HOy15.out.kept_down hg (M := w6.heap.size) (fun q e => by have := (HMy.out q e).2; omega) (fun q e => by have := (HMr.out q e).1; omega))
  have HOg16 := Lib.hid (HOg15.out.kept hg (fun q e => by have := (HMr.out q e).2; omega))
  have BJ16 := Lib.hid (Blk.grown BJ15.out hg (fun e => by have := (HMr.out _ e.symm).1; have := BJ1.out.lt; omega))
  clear ho hg HOy15 HOr15 HOg15
  clear HOr16
  go_wp2_with fail
  refine (eqJobS_any _ Ag Ay _ cg cy us HOg16.out.reads.2 HOy16.out.reads.2 (by omega)).mono ?_
  rintro e w17 ⟨rfl, hb⟩
  have hb := bl_trans (show Below w16.heap.size w16 _ from (by repeat (first | with_reducible exact Below.refl _ _ | with_reducible refine Below.drew ?_ | with_reducible refine bl_drewN ?_ _ | with_reducible refine bl_alloc ?_ _))) hb
  have hs17 : w16.heap.size ≤ w17.heap.size := hb.size
  have HB17 := Lib.hid (bl_trans HB16.out hb)
  have BJ17 := Lib.hid (Blk.below BJ16.out hb BJ16.out.lt)
  have HOy17 := Lib.hid (HOy16.out.below hb)
  have HOg17 := Lib.hid (HOg16.out.below hb)
  clear hb
  clear HOy16 HOg16
  go_wp2_with fail
  refine (jmark_own w17 _ Ag _ cg 1 us HOg17.out (by omega) (by omega)).mono ?_
  rintro e w18 ⟨rfl, ho, hg⟩
  have HOg18 := Lib.hid ho
  have HB18 := Lib.hid (HB17.out.grown hg HB17.out.size (fun q e => by have := (World.ownsRow.lt HOg17.out q e).1; omega))
  have hs18 : w17.heap.size ≤ w18.heap.size := hg.size
  have HOy18 := Lib.hid (HOy17.out.kept_down hg (M := w8.heap.size) (fun q e => by have := (HMy.out q e).2; omega) (fun q e => by have := (HMg.out q e).1; omega))
  have BJ18 := Lib.hid (Blk.grown BJ17.out hg (fun e => by have := (HMg.out _ e.symm).1; have := BJ1.out.lt; omega))
  clear ho hg HOy17 HOg17
  go_wp2_with fail
  refine (jheld_any w18 Ag us.length cg 1 (OwnJ.readsN HOg18.out (jmarks_len _ _)) (by omega) (by omega)).mono ?_
  rintro e w0 ⟨rfl, rfl⟩
  have E18 : w18.cell? ⟨bJ, 0, none⟩ = some (.int .i64 ta) ∧ w18.cell? ⟨bJ, 1, none⟩ = some (.int .i64 tm) ∧ w18.cell? ⟨bJ, 2, none⟩ = some (.int .i64 ne) := ⟨BJ18.out.cell 0, BJ18.out.cell 1, BJ18.out.cell 2⟩
  go_wp2_with fail
  go_region_held3 (fun W => W.cell? ⟨bJ, 0, none⟩ = some (.int .i64 ta) ∧ W.cell? ⟨bJ, 1, none⟩ = some (.int .i64 tm) ∧ W.cell? ⟨bJ, 2, none⟩ = some (.int .i64 ne)) (first | exact E18 | exact E19 | exact E20 | exact E21 | exact E22 | assumption | (simp [go_sem, *]; done))
    ((first | (go_at_call 29; refine (toTaskS_any _ A n c ts (tks_to6 ((H.out.below HB18.out).more HB18.out.size) (by repeat (first | with_reducible exact Below.refl _ _ | with_reducible refine Below.drew ?_ | with_reducible refine bl_drewN ?_ _ | with_reducible refine bl_alloc ?_ _))) (by omega)).mono ?_; rintro e w19 ⟨Az, cz, rfl, ho, hb⟩; have HOz19 := Lib.hid ho; have HMz := Lib.hid (World.ownsRow.lt ho); clear ho; have hb := bl_trans (show Below w18.heap.size w18 _ from (by repeat (first | with_reducible exact Below.refl _ _ | with_reducible refine Below.drew ?_ | with_reducible refine bl_drewN ?_ _ | with_reducible refine bl_alloc ?_ _))) hb; have hs19 : w18.heap.size ≤ w19.heap.size := hb.size; have HB19 := Lib.hid (bl_trans HB18.out hb); have BJ19 := Lib.hid (Blk.below BJ18.out hb BJ18.out.lt); have HOy19 := Lib.hid (HOy18.out.below hb); have HOg19 := Lib.hid (HOg18.out.below hb); clear hb; clear HOy18 HOg18; have E19 : w19.cell? ⟨bJ, 0, none⟩ = some (.int .i64 ta) ∧ w19.cell? ⟨bJ, 1, none⟩ = some (.int .i64 tm) ∧ w19.cell? ⟨bJ, 2, none⟩ = some (.int .i64 ne) := ⟨BJ19.out.cell 0, BJ19.out.cell 1, BJ19.out.cell 2⟩) | (go_at_call 30; refine (toJobS_any _ Aj nj cj js (jbs_to ((HJ.out.below HB19.out).more HB19.out.size) (by repeat (first | with_reducible exact Below.refl _ _ | with_reducible refine Below.drew ?_ | with_reducible refine bl_drewN ?_ _ | with_reducible refine bl_alloc ?_ _))) (by omega)).mono ?_; rintro e w20 ⟨At, rfl, ho, hb⟩; have HOt20 := Lib.hid ho; have HMt := Lib.hid (World.ownsRow.lt ho); clear ho; have hb := bl_trans (show Below w19.heap.size w19 _ from (by repeat (first | with_reducible exact Below.refl _ _ | with_reducible refine Below.drew ?_ | with_reducible refine bl_drewN ?_ _ | with_reducible refine bl_alloc ?_ _))) hb; have hs20 : w19.heap.size ≤ w20.heap.size := hb.size; have HB20 := Lib.hid (bl_trans HB19.out hb); have BJ20 := Lib.hid (Blk.below BJ19.out hb BJ19.out.lt); have HOy20 := Lib.hid (HOy19.out.below hb); have HOg20 := Lib.hid (HOg19.out.below hb); have HOz20 := Lib.hid (HOz19.out.below hb); clear hb; clear HOy19 HOg19 HOz19; have E20 : w20.cell? ⟨bJ, 0, none⟩ = some (.int .i64 ta) ∧ w20.cell? ⟨bJ, 1, none⟩ = some (.int .i64 tm) ∧ w20.cell? ⟨bJ, 2, none⟩ = some (.int .i64 ne) := ⟨BJ20.out.cell 0, BJ20.out.cell 1, BJ20.out.cell 2⟩) | (go_at_call 36; refine (toJob_any ta tm ne _).mono ?_; rintro e w21 ⟨rfl, hb⟩; have hb := bl_trans (show Below w20.heap.size w20 _ from (by repeat (first | with_reducible exact Below.refl _ _ | with_reducible refine Below.drew ?_ | with_reducible refine bl_drewN ?_ _ | with_reducible refine bl_alloc ?_ _))) hb; have hs21 : w20.heap.size ≤ w21.heap.size := hb.size; have HB21 := Lib.hid (bl_trans HB20.out hb); have BJ21 := Lib.hid (Blk.below BJ20.out hb BJ20.out.lt); have HOy21 := Lib.hid (HOy20.out.below hb); have HOg21 := Lib.hid (HOg20.out.below hb); have HOz21 := Lib.hid (HOz20.out.below hb); have HOt21 := Lib.hid (HOt20.out.below hb); clear hb; clear HOy20 HOg20 HOz20 HOt20; have E21 : w21.cell? ⟨bJ, 0, none⟩ = some (.int .i64 ta) ∧ w21.cell? ⟨bJ, 1, none⟩ = some (.int .i64 tm) ∧ w21.cell? ⟨bJ, 2, none⟩ = some (.int .i64 ne) := ⟨BJ21.out.cell 0, BJ21.out.cell 1, BJ21.out.cell 2⟩) | (go_at_call 22; refine (iP_at _ Az _ cz ts At js us ta tm ne b HOz21.out.reads.2 (by omega) HOt21.out.reads.2 HU.out).mono ?_; rintro e w22 ⟨Ah, ch, rfl, ho, hb⟩; have HOh22 := Lib.hid ho; have HMh := Lib.hid (World.ownsRow.lt ho); clear ho; have hb := bl_trans (show Below w21.heap.size w21 _ from (by repeat (first | with_reducible exact Below.refl _ _ | with_reducible refine Below.drew ?_ | with_reducible refine bl_drewN ?_ _ | with_reducible refine bl_alloc ?_ _))) hb; have hs22 : w21.heap.size ≤ w22.heap.size := hb.size; have HB22 := Lib.hid (bl_trans HB21.out hb); have BJ22 := Lib.hid (Blk.below BJ21.out hb BJ21.out.lt); have HOy22 := Lib.hid (HOy21.out.below hb); have HOg22 := Lib.hid (HOg21.out.below hb); have HOz22 := Lib.hid (HOz21.out.below hb); have HOt22 := Lib.hid (HOt21.out.below hb); clear hb; clear HOy21 HOg21 HOz21 HOt21; have E22 : w22.cell? ⟨bJ, 0, none⟩ = some (.int .i64 ta) ∧ w22.cell? ⟨bJ, 1, none⟩ = some (.int .i64 tm) ∧ w22.cell? ⟨bJ, 2, none⟩ = some (.int .i64 ne) := ⟨BJ22.out.cell 0, BJ22.out.cell 1, BJ22.out.cell 2⟩)))
  clear HOz22
  clear HOt22
  go_wp2_with fail
  refine (eqJobS_any _ Ah Ay _ ch cy us HOh22.out.reads.2 HOy22.out.reads.2 (by omega)).mono ?_
  rintro e w23 ⟨rfl, hb⟩
  have hb := bl_trans (show Below w22.heap.size w22 _ from (by repeat (first | with_reducible exact Below.refl _ _ | with_reducible refine Below.drew ?_ | with_reducible refine bl_drewN ?_ _ | with_reducible refine bl_alloc ?_ _))) hb
  have hs23 : w22.heap.size ≤ w23.heap.size := hb.size
  have HB23 := Lib.hid (bl_trans HB22.out hb)
  have BJ23 := Lib.hid (Blk.below BJ22.out hb BJ22.out.lt)
  have HOy23 := Lib.hid (HOy22.out.below hb)
  have HOg23 := Lib.hid (HOg22.out.below hb)
  have HOh23 := Lib.hid (HOh22.out.below hb)
  clear hb
  clear HOy22 HOg22 HOh22
  go_wp2_with fail
  refine (jheld_any w23 Ag us.length cg 1 (OwnJ.readsN HOg23.out (jmarks_len _ _)) (by omega) (by omega)).mono ?_
  rintro e w0 ⟨rfl, rfl⟩
  go_wp2
  go_ret
  exact ⟨rfl, HB23.out⟩

end Go.Proofs.Ytflilandcjnpjaa
