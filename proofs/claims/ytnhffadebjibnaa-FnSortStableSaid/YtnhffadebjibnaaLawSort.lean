/- The walks of the laws on sorting. -/
import Derived.Test.YtnhffadebjibnaaSortM
import Derived.Test.YtnhffadebjibnaaLawEx
namespace Go.Proofs.Ytnhffadebjibnaa
open Go.RowKit

theorem srt_at {l : List Tk} {k : Nat} {a b : Tk} (h : Srt l) (ha : l[k]? = some a) (hb : l[k + 1]? = some b) : a.du < b.du ∨ a.du = b.du ∧ a.ev ≤ b.ev := by
  obtain ⟨h1, rfl⟩ := List.getElem?_eq_some_iff.1 ha
  obtain ⟨h2, rfl⟩ := List.getElem?_eq_some_iff.1 hb
  exact (bef_no _ _).1 (List.pairwise_iff_getElem.1 h k (k + 1) h1 h2 (Nat.lt_succ_self k))

set_option maxHeartbeats 2000000 in
theorem fnExactSortDue_walk (w : World) (A : Option Addr) (n c : Nat) (ts : List Tk) (h : Tks w w.heap.size A n ts) (hmax : n ≤ 9223372036854775807) :
    Calls Try.prog 16 #[.slice A n c] w fun e w' => e = .returned (.bool true) ∧ Below w.heap.size w w' := by
  have H := Lib.hid h
  have HL := Lib.hid h.len
  clear h
  by_cases hn : 1048576 < n
  · go_enter Try.func16, Try.ntmps16
    go_wp2_with fail
    refine (sz_any w A n c hmax).mono ?_
    rintro e w1 ⟨rfl, rfl⟩
    rw [if_pos (by omega)]
    go_wp2
    go_ret
    exact ⟨rfl, Below.refl _ _⟩
  go_enter Try.func16, Try.ntmps16
  go_wp2_with fail
  refine (sz_any w A n c hmax).mono ?_
  rintro e w1 ⟨rfl, rfl⟩
  rw [if_neg (by omega)]
  have HB1 : Hid (Below w.heap.size w w) := Below.refl _ _
  have htl : ts.length ≤ 1048576 := by rw [HL.out]; omega
  obtain ⟨us, hu⟩ : ∃ us, us = sortOf ts := ⟨_, rfl⟩
  have hul : us.length ≤ ts.length := by rw [hu]; exact sortOf_len ts
  have HU := Lib.hid hu
  clear hu
  go_wp2_with fail
  refine (toTaskS_any w A n c ts  ((H.out.below HB1.out).more HB1.out.size) (by omega)).mono ?_
  rintro e w2 ⟨Au, cu, rfl, ho, hb⟩
  have HOu2 := Lib.hid ho
  have HMu := Lib.hid (World.ownsRow.lt ho)
  have hs2 : w.heap.size ≤ w2.heap.size := hb.size
  clear ho
  have HB2 := Lib.hid (bl_trans HB1.out hb)
  clear hb 
  go_wp2_with fail
  refine (sSortDue_is w2 Au _ cu ts us HU.out HOu2.out.reads.2 (by omega)).mono ?_
  rintro e w3 ⟨Ay, cy, rfl, ho, hb⟩
  have HOy3 := Lib.hid ho
  have HMy := Lib.hid (World.ownsRow.lt ho)
  have hs3 : w2.heap.size ≤ w3.heap.size := hb.size
  clear ho
  have HB3 := Lib.hid (bl_trans HB2.out hb)
  have HOu3 := Lib.hid (HOu2.out.below hb)
  clear hb HOu2
  go_wp2_with fail
  refine (toTaskS_any w3 A n c ts  ((H.out.below HB3.out).more HB3.out.size) (by omega)).mono ?_
  rintro e w4 ⟨Ax, cx, rfl, ho, hb⟩
  have HOx4 := Lib.hid ho
  have HMx := Lib.hid (World.ownsRow.lt ho)
  have hs4 : w3.heap.size ≤ w4.heap.size := hb.size
  clear ho
  have HB4 := Lib.hid (bl_trans HB3.out hb)
  have HOu4 := Lib.hid (HOu3.out.below hb)
  have HOy4 := Lib.hid (HOy3.out.below hb)
  clear hb HOu3 HOy3
  go_wp2_with fail
  refine (iSortDue_is w4 Ax _ cx ts us HU.out HOx4.out.reads.2 (by omega)).mono ?_
  rintro e w5 ⟨Ag, cg, rfl, ho, hb⟩
  have HOg5 := Lib.hid ho
  have HMg := Lib.hid (World.ownsRow.lt ho)
  have hs5 : w4.heap.size ≤ w5.heap.size := hb.size
  clear ho
  have HB5 := Lib.hid (bl_trans HB4.out hb)
  have HOu5 := Lib.hid (HOu4.out.below hb)
  have HOy5 := Lib.hid (HOy4.out.below hb)
  have HOx5 := Lib.hid (HOx4.out.below hb)
  clear hb HOu4 HOy4 HOx4
  go_wp2_with fail
  refine (eqTaskS_any w5 Ag Ay _ cg cy us HOg5.out.reads.2 HOy5.out.reads.2 (by omega)).mono ?_
  rintro e w6 ⟨rfl, hb⟩
  have hs6 : w5.heap.size ≤ w6.heap.size := hb.size
  have HB6 := Lib.hid (bl_trans HB5.out hb)
  have HOu6 := Lib.hid (HOu5.out.below hb)
  have HOy6 := Lib.hid (HOy5.out.below hb)
  have HOx6 := Lib.hid (HOx5.out.below hb)
  have HOg6 := Lib.hid (HOg5.out.below hb)
  clear hb HOu5 HOy5 HOx5 HOg5
  go_wp2_with fail
  refine (toTaskS_any w6 A n c ts  ((H.out.below HB6.out).more HB6.out.size) (by omega)).mono ?_
  rintro e w7 ⟨Av, cv, rfl, ho, hb⟩
  have HOv7 := Lib.hid ho
  have HMv := Lib.hid (World.ownsRow.lt ho)
  have hs7 : w6.heap.size ≤ w7.heap.size := hb.size
  clear ho
  have HB7 := Lib.hid (bl_trans HB6.out hb)
  have HOu7 := Lib.hid (HOu6.out.below hb)
  have HOy7 := Lib.hid (HOy6.out.below hb)
  have HOx7 := Lib.hid (HOx6.out.below hb)
  have HOg7 := Lib.hid (HOg6.out.below hb)
  clear hb HOu6 HOy6 HOx6 HOg6
  go_wp2_with fail
  refine (eqTaskS_any w7 Ax Av _ cx cv ts HOx7.out.reads.2 HOv7.out.reads.2 (by omega)).mono ?_
  rintro e w8 ⟨rfl, hb⟩
  have hs8 : w7.heap.size ≤ w8.heap.size := hb.size
  have HB8 := Lib.hid (bl_trans HB7.out hb)
  have HOu8 := Lib.hid (HOu7.out.below hb)
  have HOy8 := Lib.hid (HOy7.out.below hb)
  have HOx8 := Lib.hid (HOx7.out.below hb)
  have HOg8 := Lib.hid (HOg7.out.below hb)
  have HOv8 := Lib.hid (HOv7.out.below hb)
  clear hb HOu7 HOy7 HOx7 HOg7 HOv7
  go_wp2_with fail
  refine (mark_own w8 _ Ax _ cx 1 ts HOx8.out (by omega) (by omega)).mono ?_
  rintro e w9 ⟨rfl, ho, hg⟩
  have HOx9 := Lib.hid ho
  have HB9 := Lib.hid (HB8.out.grown hg HB8.out.size (fun q e => by have := (World.ownsRow.lt HOx8.out q e).1; omega))
  have hs9 : w8.heap.size ≤ w9.heap.size := hg.size
  have HOy9 := Lib.hid (HOy8.out.kept_down hg (M := w3.heap.size) (fun q e => by have := (HMy.out q e).2; omega) (fun q e => by have := (HMx.out q e).1; omega))
  have HOg9 := Lib.hid (HOg8.out.kept hg (fun q e => by have := (HMx.out q e).2; omega))
  clear ho hg HOx8 HOy8 HOg8
  go_wp2_with fail
  refine (eqTaskS_any w9 Ag Ay _ cg cy us HOg9.out.reads.2 HOy9.out.reads.2 (by omega)).mono ?_
  rintro e w10 ⟨rfl, hb⟩
  have hs10 : w9.heap.size ≤ w10.heap.size := hb.size
  have HB10 := Lib.hid (bl_trans HB9.out hb)
  have HOy10 := Lib.hid (HOy9.out.below hb)
  have HOg10 := Lib.hid (HOg9.out.below hb)
  have HOx10 := Lib.hid (HOx9.out.below hb)
  clear hb HOy9 HOg9 HOx9
  go_wp2_with fail
  refine (mark_own w10 _ Ag _ cg 1 us HOg10.out (by omega) (by omega)).mono ?_
  rintro e w11 ⟨rfl, ho, hg⟩
  have HOg11 := Lib.hid ho
  have HB11 := Lib.hid (HB10.out.grown hg HB10.out.size (fun q e => by have := (World.ownsRow.lt HOg10.out q e).1; omega))
  have hs11 : w10.heap.size ≤ w11.heap.size := hg.size
  have HOy11 := Lib.hid (HOy10.out.kept_down hg (M := w4.heap.size) (fun q e => by have := (HMy.out q e).2; omega) (fun q e => by have := (HMg.out q e).1; omega))
  clear ho hg HOy10 HOg10
  go_wp2_with fail
  refine (held_any w11 Ag _ cg 1 HOg11.out.reads.2 (by omega) (by omega)).mono ?_
  rintro e w0 ⟨rfl, rfl⟩
  go_wp2_with fail
  refine (toTaskS_any w11 A n c ts  ((H.out.below HB11.out).more HB11.out.size) (by omega)).mono ?_
  rintro e w12 ⟨Az, cz, rfl, ho, hb⟩
  have HOz12 := Lib.hid ho
  have HMz := Lib.hid (World.ownsRow.lt ho)
  have hs12 : w11.heap.size ≤ w12.heap.size := hb.size
  clear ho
  have HB12 := Lib.hid (bl_trans HB11.out hb)
  have HOy12 := Lib.hid (HOy11.out.below hb)
  have HOg12 := Lib.hid (HOg11.out.below hb)
  clear hb HOy11 HOg11
  go_wp2_with fail
  refine (iSortDue_is w12 Az _ cz ts us HU.out HOz12.out.reads.2 (by omega)).mono ?_
  rintro e w13 ⟨Ah, ch, rfl, ho, hb⟩
  have HOh13 := Lib.hid ho
  have HMh := Lib.hid (World.ownsRow.lt ho)
  have hs13 : w12.heap.size ≤ w13.heap.size := hb.size
  clear ho
  have HB13 := Lib.hid (bl_trans HB12.out hb)
  have HOy13 := Lib.hid (HOy12.out.below hb)
  have HOg13 := Lib.hid (HOg12.out.below hb)
  have HOz13 := Lib.hid (HOz12.out.below hb)
  clear hb HOy12 HOg12 HOz12
  go_wp2_with fail
  refine (eqTaskS_any w13 Ah Ay _ ch cy us HOh13.out.reads.2 HOy13.out.reads.2 (by omega)).mono ?_
  rintro e w14 ⟨rfl, hb⟩
  have hs14 : w13.heap.size ≤ w14.heap.size := hb.size
  have HB14 := Lib.hid (bl_trans HB13.out hb)
  have HOy14 := Lib.hid (HOy13.out.below hb)
  have HOg14 := Lib.hid (HOg13.out.below hb)
  have HOz14 := Lib.hid (HOz13.out.below hb)
  have HOh14 := Lib.hid (HOh13.out.below hb)
  clear hb HOy13 HOg13 HOz13 HOh13
  go_wp2_with fail
  refine (held_any w14 Ag _ cg 1 HOg14.out.reads.2 (by omega) (by omega)).mono ?_
  rintro e w0 ⟨rfl, rfl⟩
  go_wp2
  go_ret
  exact ⟨rfl, HB14.out⟩

set_option maxHeartbeats 2000000 in
theorem fnSortDue_walk (w : World) (A : Option Addr) (n c : Nat) (f : Nat → Int) (h : Code w w.heap.size A n c f) :
    Calls Try.prog 3 #[.slice A n c] w fun e w' => e = .returned (.bool true) ∧ Below w.heap.size w w' := by
  have H := Lib.hid h
  have hle := h.le
  have hmax := h.max
  unfold maxLen at hmax
  clear h
  by_cases hn : 1048576 < n
  · go_enter Try.func3, Try.ntmps3
    go_wp2
    go_ret
    exact ⟨rfl, Below.refl _ _⟩
  go_enter Try.func3, Try.ntmps3
  go_wp2_with fail
  refine (dDrawSortDue_any _ A n c f H.out).mono ?_
  rintro e w1 ⟨Ats, cts, ts, rfl, hlts, hgts, ho, hb⟩
  have HGts := Lib.hid hgts
  have HOts1 := Lib.hid ho
  have HB1 := Lib.hid hb
  clear ho hb hgts H
  obtain ⟨us, hus⟩ : ∃ us, us = sortOf ts := ⟨_, rfl⟩
  have hlu : us.length ≤ 6 := by have := sortOf_len ts; rw [hus]; omega
  have HUS := Lib.hid hus
  clear hus
  go_wp2_with fail
  refine (iSortDue_is w1 Ats _ cts ts us HUS.out HOts1.out.reads.2 (by omega)).mono ?_
  rintro e w2 ⟨Ax, cx, rfl, ho, hb⟩
  have HOx2 := Lib.hid (show Own w2 w.heap.size _ _ from own_more ho HB1.out.size)
  clear ho
  have HOts2 := Lib.hid (HOts1.out.below hb)
  have HB2 := Lib.hid (bl_trans HB1.out hb)
  clear hb HOts1 HB1
  go_wp2_with fail
  refine (sSortDue_is w2 Ats _ cts ts us HUS.out HOts2.out.reads.2 (by omega)).mono ?_
  rintro e w3 ⟨Ay, cy, rfl, ho, hb⟩
  have HOy3 := Lib.hid (show Own w3 w.heap.size _ _ from own_more ho HB2.out.size)
  clear ho
  have HOts3 := Lib.hid (HOts2.out.below hb)
  have HOx3 := Lib.hid (HOx2.out.below hb)
  have HB3 := Lib.hid (bl_trans HB2.out hb)
  clear hb HOts2 HOx2 HB2
  go_wp2_with fail
  refine (dmTasks_any w3 Ax Ay _ cx cy us HOx3.out.reads.2 HOy3.out.reads.2 (by omega)).mono ?_
  rintro e w4 ⟨rfl, hb⟩
  have HOts4 := Lib.hid (HOts3.out.below hb)
  have HOx4 := Lib.hid (HOx3.out.below hb)
  have HOy4 := Lib.hid (HOy3.out.below hb)
  have HB4 := Lib.hid (bl_trans HB3.out hb)
  clear hb HOts3 HOx3 HOy3 HB3
  cases hs : setB ts
  · obtain rfl : us = [] := by rw [HUS.out]; simp [sortOf, hs]
    go_wp2_with fail
    refine (iSetValid_any w4 Ats _ cts ts HOts4.out.reads.2 (by omega)).mono ?_
    rintro e w5 ⟨rfl, hb⟩
    have HOts5 := Lib.hid (HOts4.out.below hb)
    have HOx5 := Lib.hid (HOx4.out.below hb)
    have HOy5 := Lib.hid (HOy4.out.below hb)
    have HB5 := Lib.hid (bl_trans HB4.out hb)
    clear hb HOts4 HOx4 HOy4 HB4
    go_wp2_with fail
    refine (sSortDue_is w5 Ats _ cts ts [] HUS.out HOts5.out.reads.2 (by omega)).mono ?_
    rintro e w6 ⟨Az, cz, rfl, ho, hb⟩
    have HOz6 := Lib.hid (show Own w6 w.heap.size _ _ from own_more ho HB5.out.size)
    clear ho
    have HOts6 := Lib.hid (HOts5.out.below hb)
    have HOx6 := Lib.hid (HOx5.out.below hb)
    have HOy6 := Lib.hid (HOy5.out.below hb)
    have HB6 := Lib.hid (bl_trans HB5.out hb)
    clear hb HOts5 HOx5 HOy5 HB5
    go_wp2_with fail
    refine (dmTasks_any w6 Ax Az _ cx cz [] HOx6.out.reads.2 HOz6.out.reads.2 (by omega)).mono ?_
    rintro e w7 ⟨rfl, hb⟩
    have HOts7 := Lib.hid (HOts6.out.below hb)
    have HOx7 := Lib.hid (HOx6.out.below hb)
    have HOy7 := Lib.hid (HOy6.out.below hb)
    have HOz7 := Lib.hid (HOz6.out.below hb)
    have HB7 := Lib.hid (bl_trans HB6.out hb)
    clear hb HOts6 HOx6 HOy6 HOz6 HB6
    go_wp2
    go_ret
    exact ⟨rfl, HB7.out⟩
  · obtain ⟨p1, p2, p3, p4, p5, p6⟩ := sort_facts hs HUS.out
    obtain ⟨m, hm⟩ : ∃ m, m = hyperOf ts := ⟨_, rfl⟩
    have HM := Lib.hid hm
    have HM2 : Hid (m = hyperOf us) := hm.trans p3.symm
    have hmb : m ≤ 3200000 := by rw [hm]; exact hyper_le ts
    have P1 := Lib.hid p1
    have P2 := Lib.hid p2
    have P4 := Lib.hid p4
    clear p1 p2 p3 p4 p5 p6 hm
    go_wp2_with fail
    refine (iSetValid_any w4 Ats _ cts ts HOts4.out.reads.2 (by omega)).mono ?_
    rintro e w5 ⟨rfl, hb⟩
    have HOts5 := Lib.hid (HOts4.out.below hb)
    have HOx5 := Lib.hid (HOx4.out.below hb)
    have HOy5 := Lib.hid (HOy4.out.below hb)
    have HB5 := Lib.hid (bl_trans HB4.out hb)
    clear hb HOts4 HOx4 HOy4 HB4
    go_wp2
    have HS := Lib.hid hs
    clear hs
    go_loopw [5] (fun i wr => ∃ k : Nat, k ≤ us.length ∧ i = .int .i64 ((k : Int) + 1) ∧ Own wr w.heap.size (.slice Ats ts.length cts) ts ∧ Own wr w.heap.size (.slice Ax us.length cx) us ∧ Below w.heap.size w wr) (fun i _ => us.length + 1 - (intOf i).toNat)
    case atStart => exact ⟨0, Nat.zero_le _, rfl, HOts5.out, HOx5.out, HB5.out⟩
    case round =>
      obtain ⟨k, hk, rfl, ho1, ho2, hb⟩ := hrel
      clear HOts5 HOx5 HOy5 HB5
      obtain ⟨w6, rfl⟩ : ∃ w6 : World, w6 = wr := ⟨_, rfl⟩
      have HOts6 := Lib.hid ho1
      have HOx6 := Lib.hid ho2
      have HB6 := Lib.hid hb
      clear ho1 ho2 hb
      by_cases hlt : k + 1 < us.length
      · obtain ⟨t, ht⟩ : ∃ t, us[k]? = some t := ⟨us[k], List.getElem?_eq_getElem (by omega)⟩
        obtain ⟨u, hu⟩ : ∃ u, us[k + 1]? = some u := ⟨us[k + 1], List.getElem?_eq_getElem hlt⟩
        have hle := srt_at P4.out ht hu
        obtain ⟨b, o, rfl, hbl, c0, c1, c2, c3, c4⟩ := HOx6.out.reads.2.at_ k t ht
        obtain ⟨b', o', e', hbl', d0, d1, d2, d3, d4⟩ := HOx6.out.reads.2.at_ (k + 1) u hu
        injection e' with e'
        injection e' with e1 e2
        subst e1 e2
        obtain ⟨lo, hi, du, ev, cr⟩ := t
        obtain ⟨lo2, hi2, du2, ev2, cr2⟩ := u
        dsimp only at c0 c1 c2 c3 c4 d0 d1 d2 d3 d4 hle
        clear ht hu c0 c1 c4 d0 d1 d4
        have i1 : (0 : Int) ≤ (k : Int) := by omega
        have i2 : (k : Int) < (us.length : Int) := by omega
        have i3 : (k : Int) + 1 < (us.length : Int) := by omega
        have i4 : (0 : Int) ≤ (k : Int) + 1 := by omega
        have k1 : IntKind.i64.wrap ((k : Int) + 1 - 1) = (k : Int) := by rw [show (k : Int) + 1 - 1 = k by omega]; exact IntWalk.i64_in _ (by omega)
        have k2 : IntKind.i64.wrap (k : Int) = (k : Int) := IntWalk.i64_in _ (by clear k1; omega)
        have g1 : decide (du2 < du) = false := by simp; omega
        by_cases h : du < du2
        · have g2 : (du == du2) = false := by simp; omega
          clear hle h
          go_wp2
          go_quiet (fail)
          clear k1 k2 g1 g2
          go_wp2
          go_roundw
          case rel => exact ⟨k + 1, by omega, by go_num, HOts6.out, HOx6.out, bl_drewN HB6.out _⟩
          case measure => simp [intOf]; omega
        · obtain rfl : du = du2 := by omega
          have g3 : decide (ev2 < ev) = false := by simp; omega
          clear hle h
          go_wp2
          go_quiet (fail)
          clear k1 k2 g1 g3
          go_wp2
          go_roundw
          case rel => exact ⟨k + 1, by omega, by go_num, HOts6.out, HOx6.out, bl_drewN HB6.out _⟩
          case measure => simp [intOf]; omega
      · have hz1 : ((us.length : Int) == (ts.length : Int)) = true := by rw [P1.out]; simp
        have hnl : ¬ ((k : Int) + 1 < (us.length : Int)) := by omega
        go_wp2_with fail
        refine (iSortDue_is w6 Ax _ cx us us P2.out HOx6.out.reads.2 (by omega)).mono ?_
        rintro e w7 ⟨Av, cv, rfl, ho, hb⟩
        have HOv7 := Lib.hid (show Own w7 w.heap.size _ _ from own_more ho HB6.out.size)
        clear ho
        have HOts7 := Lib.hid (HOts6.out.below hb)
        have HOx7 := Lib.hid (HOx6.out.below hb)
        have HB7 := Lib.hid (bl_trans HB6.out hb)
        clear hb HOts6 HOx6 HB6
        go_wp2_with fail
        refine (dmTasks_any w7 Av Ax _ cv cx us HOv7.out.reads.2 HOx7.out.reads.2 (by omega)).mono ?_
        rintro e w8 ⟨rfl, hb⟩
        have HOts8 := Lib.hid (HOts7.out.below hb)
        have HOx8 := Lib.hid (HOx7.out.below hb)
        have HOv8 := Lib.hid (HOv7.out.below hb)
        have HB8 := Lib.hid (bl_trans HB7.out hb)
        clear hb HOts7 HOx7 HOv7 HB7
        go_wp2_with fail
        refine (iHyperOf_is w8 Ax _ cx us m HM2.out HOx8.out.reads.2 (by omega)).mono ?_
        rintro e w9 ⟨rfl, hb⟩
        have HOts9 := Lib.hid (HOts8.out.below hb)
        have HOx9 := Lib.hid (HOx8.out.below hb)
        have HOv9 := Lib.hid (HOv8.out.below hb)
        have HB9 := Lib.hid (bl_trans HB8.out hb)
        clear hb HOts8 HOx8 HOv8 HB8
        go_wp2_with fail
        refine (iHyperOf_is w9 Ats _ cts ts m HM.out HOts9.out.reads.2 (by omega)).mono ?_
        rintro e w10 ⟨rfl, hb⟩
        have HOts10 := Lib.hid (HOts9.out.below hb)
        have HOx10 := Lib.hid (HOx9.out.below hb)
        have HOv10 := Lib.hid (HOv9.out.below hb)
        have HB10 := Lib.hid (bl_trans HB9.out hb)
        clear hb HOts9 HOx9 HOv9 HB9
        go_wp2
        go_ret
        exact ⟨rfl, HB10.out⟩

set_option maxHeartbeats 2000000 in
theorem fnCriticalSort_walk (w : World) (A : Option Addr) (n c : Nat) (f : Nat → Int) (h : Code w w.heap.size A n c f) :
    Calls Try.prog 10 #[.slice A n c] w fun e w' => e = .returned (.bool true) ∧ Below w.heap.size w w' := by
  have H := Lib.hid h
  have hle := h.le
  have hmax := h.max
  unfold maxLen at hmax
  clear h
  by_cases hn : 1048576 < n
  · go_enter Try.func10, Try.ntmps10
    go_wp2
    go_ret
    exact ⟨rfl, Below.refl _ _⟩
  go_enter Try.func10, Try.ntmps10
  go_wp2_with fail
  refine (dDrawCriticalOf_any _ A n c f H.out).mono ?_
  rintro e w1 ⟨Ats, cts, ts, rfl, hlts, hgts, ho, hb⟩
  have HGts := Lib.hid hgts
  have HOts1 := Lib.hid ho
  have HB1 := Lib.hid hb
  clear ho hb hgts H
  have hlc := critOf_len ts
  obtain ⟨us, hus⟩ : ∃ us, us = critOf ts := ⟨_, rfl⟩
  have hlu : us.length ≤ 6 := by rw [hus]; omega
  have HUS := Lib.hid hus
  clear hus hlc
  go_wp2_with fail
  refine (iCriticalOf_is w1 Ats _ cts ts us HUS.out HOts1.out.reads.2 (by omega)).mono ?_
  rintro e w2 ⟨Ax, cx, rfl, ho, hb⟩
  have HOx2 := Lib.hid (show Own w2 w.heap.size _ _ from own_more ho HB1.out.size)
  clear ho
  have HOts2 := Lib.hid (HOts1.out.below hb)
  have HB2 := Lib.hid (bl_trans HB1.out hb)
  clear hb HOts1 HB1
  go_wp2_with fail
  refine (sCriticalOf_is w2 Ats _ cts ts us HUS.out HOts2.out.reads.2 (by omega)).mono ?_
  rintro e w3 ⟨Ay, cy, rfl, ho, hb⟩
  have HOy3 := Lib.hid (show Own w3 w.heap.size _ _ from own_more ho HB2.out.size)
  clear ho
  have HOts3 := Lib.hid (HOts2.out.below hb)
  have HOx3 := Lib.hid (HOx2.out.below hb)
  have HB3 := Lib.hid (bl_trans HB2.out hb)
  clear hb HOts2 HOx2 HB2
  go_wp2_with fail
  refine (dmTasks_any w3 Ax Ay _ cx cy us HOx3.out.reads.2 HOy3.out.reads.2 (by omega)).mono ?_
  rintro e w4 ⟨rfl, hb⟩
  have HOts4 := Lib.hid (HOts3.out.below hb)
  have HOx4 := Lib.hid (HOx3.out.below hb)
  have HOy4 := Lib.hid (HOy3.out.below hb)
  have HB4 := Lib.hid (bl_trans HB3.out hb)
  clear hb HOts3 HOx3 HOy3 HB3
  cases hs : setB ts
  ·
    go_wp2_with fail
    refine (iSetValid_any w4 Ats _ cts ts HOts4.out.reads.2 (by omega)).mono ?_
    rintro e w5 ⟨rfl, hb⟩
    have HOts5 := Lib.hid (HOts4.out.below hb)
    have HOx5 := Lib.hid (HOx4.out.below hb)
    have HOy5 := Lib.hid (HOy4.out.below hb)
    have HB5 := Lib.hid (bl_trans HB4.out hb)
    clear hb HOts4 HOx4 HOy4 HB4
    go_wp2_with fail
    refine (sCriticalOf_is w5 Ats _ cts ts us HUS.out HOts5.out.reads.2 (by omega)).mono ?_
    rintro e w6 ⟨Az, cz, rfl, ho, hb⟩
    have HOz6 := Lib.hid (show Own w6 w.heap.size _ _ from own_more ho HB5.out.size)
    clear ho
    have HOts6 := Lib.hid (HOts5.out.below hb)
    have HOx6 := Lib.hid (HOx5.out.below hb)
    have HOy6 := Lib.hid (HOy5.out.below hb)
    have HB6 := Lib.hid (bl_trans HB5.out hb)
    clear hb HOts5 HOx5 HOy5 HB5
    go_wp2_with fail
    refine (dmTasks_any w6 Ax Az _ cx cz us HOx6.out.reads.2 HOz6.out.reads.2 (by omega)).mono ?_
    rintro e w7 ⟨rfl, hb⟩
    have HOts7 := Lib.hid (HOts6.out.below hb)
    have HOx7 := Lib.hid (HOx6.out.below hb)
    have HOy7 := Lib.hid (HOy6.out.below hb)
    have HOz7 := Lib.hid (HOz6.out.below hb)
    have HB7 := Lib.hid (bl_trans HB6.out hb)
    clear hb HOts6 HOx6 HOy6 HOz6 HB6
    go_wp2
    go_ret
    exact ⟨rfl, HB7.out⟩
  · have HC : Hid ((critL ts).length = us.length) := by show _ = _; rw [HUS.out]; simp [critOf, hs]
    obtain ⟨vs, hvs⟩ : ∃ vs, vs = sortOf ts := ⟨_, rfl⟩
    obtain ⟨ws, hws⟩ : ∃ ws, ws = critOf vs := ⟨_, rfl⟩
    have hlv : vs.length ≤ 6 := by have := sortOf_len ts; rw [hvs]; omega
    have hwu : ws.length = us.length := by rw [hws, hvs, HUS.out]; exact crit_sort
    have HVS := Lib.hid hvs
    have HWS := Lib.hid hws
    have HWU := Lib.hid hwu
    clear hvs hws hwu
    go_wp2_with fail
    refine (iSetValid_any w4 Ats _ cts ts HOts4.out.reads.2 (by omega)).mono ?_
    rintro e w5 ⟨rfl, hb⟩
    have HOts5 := Lib.hid (HOts4.out.below hb)
    have HOx5 := Lib.hid (HOx4.out.below hb)
    have HOy5 := Lib.hid (HOy4.out.below hb)
    have HB5 := Lib.hid (bl_trans HB4.out hb)
    clear hb HOts4 HOx4 HOy4 HB4
    go_wp2
    have HS := Lib.hid hs
    clear hs
    go_loop [5, 6] (fun m i => ∃ k : Nat, k ≤ ts.length ∧ i = .int .i64 k ∧ m = .int .i64 ((critL (ts.take k)).length : Int)) (fun _ i => ts.length - (intOf i).toNat)
    case atStart => exact ⟨0, Nat.zero_le _, rfl, rfl⟩
    case round =>
      obtain ⟨k, hk, rfl, rfl⟩ := hrel
      by_cases hlt : k < ts.length
      · obtain ⟨t, ht⟩ : ∃ t, ts[k]? = some t := ⟨ts[k], List.getElem?_eq_getElem hlt⟩
        obtain ⟨b, o, rfl, hbl, c0, c1, c2, c3, c4⟩ := HOts5.out.reads.2.at_ k t ht
        have HT := Lib.hid ht
        have hcl : (critL (ts.take k)).length ≤ 6 := by have := critL_len (ts.take k); rw [List.length_take] at this; omega
        obtain ⟨lo, hi, du, ev, cr⟩ := t
        dsimp only at c0 c1 c2 c3 c4
        clear ht
        cases cr
        · go_wp2
          go_round
          case rel => exact ⟨k + 1, by omega, by go_num, by rw [critL_no HT.out rfl]⟩
          case measure => simp [intOf]; omega
        · go_wp2
          go_round
          case rel => exact ⟨k + 1, by omega, by go_num, by rw [critL_yes HT.out rfl]; simp⟩
          case measure => simp [intOf]; omega
      · obtain rfl : k = ts.length := by omega
        rw [List.take_length, HC.out]
        clear hlt hk
        go_wp2_with fail
        refine (iSortDue_is w5 Ats _ cts ts vs HVS.out HOts5.out.reads.2 (by omega)).mono ?_
        rintro e w6 ⟨Az, cz, rfl, ho, hb⟩
        have HOz6 := Lib.hid (show Own w6 w.heap.size _ _ from own_more ho HB5.out.size)
        clear ho
        have HOts6 := Lib.hid (HOts5.out.below hb)
        have HOx6 := Lib.hid (HOx5.out.below hb)
        have HOy6 := Lib.hid (HOy5.out.below hb)
        have HB6 := Lib.hid (bl_trans HB5.out hb)
        clear hb HOts5 HOx5 HOy5 HB5
        go_wp2_with fail
        refine (iCriticalOf_is w6 Az _ cz vs ws HWS.out HOz6.out.reads.2 (by omega)).mono ?_
        rintro e w7 ⟨Aq, cq, rfl, ho, hb⟩
        have HOq7 := Lib.hid (show Own w7 w.heap.size _ _ from own_more ho HB6.out.size)
        clear ho
        have HOts7 := Lib.hid (HOts6.out.below hb)
        have HOx7 := Lib.hid (HOx6.out.below hb)
        have HOy7 := Lib.hid (HOy6.out.below hb)
        have HOz7 := Lib.hid (HOz6.out.below hb)
        have HB7 := Lib.hid (bl_trans HB6.out hb)
        clear hb HOts6 HOx6 HOy6 HOz6 HB6
        have hz : ((ws.length : Int) == (us.length : Int)) = true := by rw [HWU.out]; simp
        go_wp2
        go_ret
        exact ⟨rfl, HB7.out⟩

end Go.Proofs.Ytnhffadebjibnaa
