/- The walk of the law that sorting is stable. -/
import Derived.Test.YtnhffadebjibnaaLawSort
import Derived.Maps.AppendAt
namespace Go.Proofs.Ytnhffadebjibnaa
open Go.RowKit

theorem Own.kept_ne {w w' : World} {B : Nat} {v : Value} {ts : List Tk} {row : Option Nat} (h : Own w B v ts) (hg : w.grownBy w' row) (hd : ∀ q, v.ownBlock = some q → row ≠ some q) : Own w' B v ts := by
  refine World.ownsRow.kept h hg ?_
  rcases he : v.ownBlock with _ | k
  · exact .inl rfl
  · right
    intro e
    exact hd k he e.symm
theorem apart_new {W : World} {B : Nat} {va vb v' : Value} {bs : List Tk} (ho : Own W B vb bs) (hd : ∀ q, va.ownBlock = some q → vb.ownBlock ≠ some q) (hat : v'.ownBlock = va.ownBlock ∨ v'.ownBlock = some (W.heap.size + 1)) :
    ∀ q, v'.ownBlock = some q → vb.ownBlock ≠ some q := fun q e h => by
  rcases hat with ha | ha
  · exact hd q (ha.symm.trans e) h
  · have h1 := ha.symm.trans e
    injection h1 with h1
    have := (World.ownsRow.lt ho q h).2
    omega
theorem apart_new' {W : World} {B : Nat} {va vb v' : Value} {as1 : List Tk} (ho : Own W B va as1) (hd : ∀ q, va.ownBlock = some q → vb.ownBlock ≠ some q) (hat : v'.ownBlock = vb.ownBlock ∨ v'.ownBlock = some (W.heap.size + 1)) :
    ∀ q, va.ownBlock = some q → v'.ownBlock ≠ some q := fun q e h => by
  rcases hat with ha | ha
  · exact hd q e (ha.symm.trans h)
  · have h1 := ha.symm.trans h
    injection h1 with h1
    have := (World.ownsRow.lt ho q e).2
    omega

set_option maxRecDepth 4000 in
set_option maxHeartbeats 2000000 in
theorem fnSortStable_walk (w : World) (A : Option Addr) (n c : Nat) (f : Nat → Int) (h : Code w w.heap.size A n c f) :
    Calls Try.prog 9 #[.slice A n c] w fun e w' => e = .returned (.bool true) ∧ Below w.heap.size w w' := by
  have H := Lib.hid h
  have hle := h.le
  have hmax := h.max
  unfold maxLen at hmax
  clear h
  by_cases hn : 1048576 < n
  · go_enter Try.func9, Try.ntmps9
    go_wp2
    go_ret
    exact ⟨rfl, Below.refl _ _⟩
  go_enter Try.func9, Try.ntmps9
  go_wp2_with fail
  refine (dDrawSortDue_any _ A n c f H.out).mono ?_
  rintro e w1 ⟨Ats, cts, ts, rfl, hlts, hgts, ho, hb⟩
  have HGts := Lib.hid hgts
  have HOts1 := Lib.hid ho
  have HB1 := Lib.hid hb
  clear ho hb hgts H
  obtain ⟨us, hus⟩ : ∃ us, us = sortOf ts := ⟨_, rfl⟩
  have hlu : us.length ≤ 6 := by have := sortOf_len ts; rw [hus]; omega
  have HUS := Lib.hid hus
  clear hus
  go_wp2_with fail
  refine (iSortDue_is w1 Ats _ cts ts us HUS.out HOts1.out.reads.2 (by omega)).mono ?_
  rintro e w2 ⟨Ax, cx, rfl, ho, hb⟩
  have HOx2 := Lib.hid (show Own w2 w.heap.size _ _ from own_more ho HB1.out.size)
  clear ho
  have HOts2 := Lib.hid (HOts1.out.below hb)
  have HB2 := Lib.hid (bl_trans HB1.out hb)
  clear hb HOts1 HB1
  go_wp2_with fail
  refine (sSortDue_is w2 Ats _ cts ts us HUS.out HOts2.out.reads.2 (by omega)).mono ?_
  rintro e w3 ⟨Ay, cy, rfl, ho, hb⟩
  have HOy3 := Lib.hid (show Own w3 w.heap.size _ _ from own_more ho HB2.out.size)
  clear ho
  have HOts3 := Lib.hid (HOts2.out.below hb)
  have HOx3 := Lib.hid (HOx2.out.below hb)
  have HB3 := Lib.hid (bl_trans HB2.out hb)
  clear hb HOts2 HOx2 HB2
  go_wp2_with fail
  refine (dmTasks_any w3 Ax Ay _ cx cy us HOx3.out.reads.2 HOy3.out.reads.2 (by omega)).mono ?_
  rintro e w4 ⟨rfl, hb⟩
  have HOts4 := Lib.hid (HOts3.out.below hb)
  have HOx4 := Lib.hid (HOx3.out.below hb)
  have HOy4 := Lib.hid (HOy3.out.below hb)
  have HB4 := Lib.hid (bl_trans HB3.out hb)
  clear hb HOts3 HOx3 HOy3 HB3
  by_cases h0 : us.length = 0
  · have h0' : ((us.length : Int) == 0) = true := by simp [h0]
    clear h0
    go_wp2_with fail
    refine (sSortDue_is w4 Ats _ cts ts us HUS.out HOts4.out.reads.2 (by omega)).mono ?_
    rintro e w5 ⟨Az, cz, rfl, ho, hb⟩
    have HOz5 := Lib.hid (show Own w5 w.heap.size _ _ from own_more ho HB4.out.size)
    clear ho
    have HOts5 := Lib.hid (HOts4.out.below hb)
    have HOx5 := Lib.hid (HOx4.out.below hb)
    have HOy5 := Lib.hid (HOy4.out.below hb)
    have HB5 := Lib.hid (bl_trans HB4.out hb)
    clear hb HOts4 HOx4 HOy4 HB4
    go_wp2_with fail
    refine (dmTasks_any w5 Ax Az _ cx cz us HOx5.out.reads.2 HOz5.out.reads.2 (by omega)).mono ?_
    rintro e w6 ⟨rfl, hb⟩
    have HOts6 := Lib.hid (HOts5.out.below hb)
    have HOx6 := Lib.hid (HOx5.out.below hb)
    have HOy6 := Lib.hid (HOy5.out.below hb)
    have HOz6 := Lib.hid (HOz5.out.below hb)
    have HB6 := Lib.hid (bl_trans HB5.out hb)
    clear hb HOts5 HOx5 HOy5 HOz5 HB5
    go_wp2
    go_ret
    exact ⟨rfl, HB6.out⟩
  have hs : setB ts = true := by
    cases h : setB ts
    · exact absurd (by rw [HUS.out]; simp [sortOf, h]) h0
    · rfl
  obtain ⟨p1, p2, p3, p4, p5, p6⟩ := sort_facts hs HUS.out
  have P6 := Lib.hid p6
  have P1 := Lib.hid p1
  have h0' : ((us.length : Int) == 0) = false := beq_eq_false_iff_ne.2 (by omega)
  clear p2 p3 p4 p5 p6 h0 hs
  obtain ⟨i0, hi, hz0, hz1, hz2⟩ := info_parts info_task
  go_wp2
  clear h0'
  go_loopw [5] (fun i wr => ∃ k : Nat, k ≤ us.length ∧ i = .int .i64 k ∧ Own wr w.heap.size (.slice Ats ts.length cts) ts ∧ Own wr w.heap.size (.slice Ax us.length cx) us ∧ Below w.heap.size w wr) (fun i _ => us.length - (intOf i).toNat)
  case atStart => exact ⟨0, Nat.zero_le _, rfl, HOts4.out, HOx4.out, HB4.out⟩
  case round =>
    obtain ⟨k, hk, rfl, ho1, ho2, hb⟩ := hrel
    clear HOts4 HOx4 HOy4 HB4
    obtain ⟨wo, rfl⟩ : ∃ wo : World, wo = wr := ⟨_, rfl⟩
    have HOts := Lib.hid ho1
    have HOx := Lib.hid ho2
    have HB := Lib.hid hb
    have hszo : w.heap.size ≤ wo.heap.size := hb.size
    clear ho1 ho2 hb
    by_cases hlt : k < us.length
    · obtain ⟨t, ht⟩ : ∃ t, us[k]? = some t := ⟨us[k], List.getElem?_eq_getElem hlt⟩
      obtain ⟨lo, hi', du, ev, cr⟩ := t
      have HT := Lib.hid ht
      have HAx : Hid (∃ gx, Ax = some ⟨gx, 0, none⟩ ∧ gx < wo.heap.size) := by
        obtain ⟨gx, e, _, _⟩ := own_cap HOx.out (by omega)
        exact ⟨gx, e, (World.ownsRow.lt HOx.out gx (by rw [e]; rfl)).2⟩
      have HAt : Hid (∃ gt, Ats = some ⟨gt, 0, none⟩ ∧ gt < wo.heap.size) := by
        obtain ⟨gx, e, _, _⟩ := own_cap HOts.out (by omega)
        exact ⟨gx, e, (World.ownsRow.lt HOts.out gx (by rw [e]; rfl)).2⟩
      obtain ⟨gx, rfl, hgx⟩ := HAx.out
      obtain ⟨gt, rfl, hgt⟩ := HAt.out
      clear ht HAx HAt
      have i4 : (0 : Int) ≤ (k : Int) := by omega
      have i5 : (k : Int) < (us.length : Int) := by omega
      go_wp2
      go_loopw [6, 7, 8] (fun va vb i wr => ∃ j : Nat, j ≤ ts.length ∧ i = .int .i64 j ∧ Own wr wo.heap.size va ((ts.take j).filter (keyB du ev)) ∧ Own wr wo.heap.size vb ((us.take j).filter (keyB du ev)) ∧ (∀ q, va.ownBlock = some q → vb.ownBlock ≠ some q) ∧ Own wr w.heap.size (.slice (some ⟨gt, 0, none⟩) ts.length cts) ts ∧ Own wr w.heap.size (.slice (some ⟨gx, 0, none⟩) us.length cx) us ∧ Below w.heap.size w wr ∧ wo.heap.size ≤ wr.heap.size) (fun _ _ i _ => ts.length - (intOf i).toNat)
      case atStart =>
        refine ⟨0, Nat.zero_le _, rfl, Own.alloc (Own.empty wo) _, by have h := own_more (Own.empty (wo.alloc (.cells #[] 29))) (show wo.heap.size ≤ (wo.alloc (.cells #[] 29)).heap.size by simp); rw [World.size_alloc] at h; exact h, fun q e => ?_, Own.alloc (Own.alloc HOts.out _) _, Own.alloc (Own.alloc HOx.out _) _, bl_alloc (bl_alloc HB.out _) _, by simp; omega⟩
        have e' : some wo.heap.size = some q := e
        injection e' with e'
        subst e'
        show some (wo.heap.size + 1) ≠ some wo.heap.size
        intro h
        injection h with h
        simp at h
      case round =>
        obtain ⟨j, hj, rfl, hoa, hob, hd, ho1, ho2, hb, hszr⟩ := hrel
        clear HOts HOx HB
        have HA0 := Lib.hid hoa
        have HV0 := Lib.hid hob
        have HD := Lib.hid hd
        have HTS0 := Lib.hid ho1
        have HX0 := Lib.hid ho2
        have HB0 := Lib.hid hb
        clear hoa hob hd ho1 ho2 hb
        by_cases hlt2 : j < ts.length
        · obtain ⟨t1, ht1⟩ : ∃ t1, ts[j]? = some t1 := ⟨ts[j], List.getElem?_eq_getElem hlt2⟩
          obtain ⟨t2, ht2⟩ : ∃ t2, us[j]? = some t2 := ⟨us[j]'(by rw [P1.out]; exact hlt2), List.getElem?_eq_getElem _⟩
          have KA := Lib.hid (key_take (du := du) (ev := ev) ht1)
          have KB := Lib.hid (key_take (du := du) (ev := ev) ht2)
          have H1 := Lib.hid ht1
          have H2 := Lib.hid ht2
          have la : ((ts.take j).filter (keyB du ev)).length ≤ 6 := Nat.le_trans (List.length_filter_le _ _) (by rw [List.length_take]; omega)
          have lb : ((us.take j).filter (keyB du ev)).length ≤ 6 := Nat.le_trans (List.length_filter_le _ _) (by rw [List.length_take]; omega)
          obtain ⟨as1, has⟩ : ∃ as1, as1 = (ts.take j).filter (keyB du ev) := ⟨_, rfl⟩
          obtain ⟨bs, hbs⟩ : ∃ bs, bs = (us.take j).filter (keyB du ev) := ⟨_, rfl⟩
          rw [← has] at KA HA0 la
          rw [← hbs] at KB HV0 lb
          have hul : (us.length : Int) = (ts.length : Int) := by rw [P1.out]
          clear has hbs ht1 ht2
          obtain ⟨lo1, hi1, du1, ev1, cr1⟩ := t1
          obtain ⟨lo2, hi2, du2, ev2, cr2⟩ := t2
          have i1 : (0 : Int) ≤ (j : Int) := by omega
          have i2 : (j : Int) < (ts.length : Int) := by omega
          have i3 : (j : Int) < (us.length : Int) := by omega
          have d1 : as1.length + 1 ≤ maxLen := by unfold maxLen; omega
          have d2 : (as1.length + 1) * 40 ≤ 140737488355328 := by omega
          have d3 : bs.length + 1 ≤ maxLen := by unfold maxLen; omega
          have d4 : (bs.length + 1) * 40 ≤ 140737488355328 := by omega
          obtain ⟨c0, c1, c2, c3, c4⟩ := tk_at HTS0.out.reads.2 H1.out
          obtain ⟨_, _, k2, k3, _⟩ := tk_at HX0.out.reads.2 HT.out
          simp only [Nat.zero_add] at c0 c1 c2 c3 c4 k2 k3
          try dsimp only at c0 c1 c2 c3 c4 k2 k3
          by_cases q1 : du1 = du
          · by_cases r1 : ev1 = ev
            ·
              have g1 : (du1 == du) = true := by simpa using q1
              have f1 : (ev1 == ev) = true := by simpa using r1
              have KA' : Hid ((ts.take (j + 1)).filter (keyB du ev) = as1 ++ [⟨lo1, hi1, du1, ev1, cr1⟩]) := by show _ = _; rw [KA.out, show keyB du ev ⟨lo1, hi1, du1, ev1, cr1⟩ = true by simp [keyB, q1, r1]]; rfl
              clear q1 r1
              go_wp2
              go_quiet (fail)
              clear c0 c1 c2 c3 c4 k2 k3
              have HAq : Hid (Own (wr.drewN nq) wo.heap.size u6 (as1)) := HA0.out
              have HVq : Hid (Own (wr.drewN nq) wo.heap.size u7 (bs)) := HV0.out
              have HTSq : Hid (Own (wr.drewN nq) w.heap.size (.slice (some ⟨gt, 0, none⟩) ts.length cts) ts) := HTS0.out
              have HXq : Hid (Own (wr.drewN nq) w.heap.size (.slice (some ⟨gx, 0, none⟩) us.length cx) us) := HX0.out
              have HBq : Hid (Below w.heap.size w (wr.drewN nq)) := bl_drewN HB0.out _
              have hszrq : wo.heap.size ≤ (wr.drewN nq).heap.size := hszr
              clear HA0 HV0 HTS0 HX0 HB0 hszr
              generalize wr.drewN nq = wa at HAq HVq HTSq HXq HBq hszrq ⊢
              have HA1 := HAq
              have HV1 := HVq
              have HTS1 := HTSq
              have HX1 := HXq
              have HB1 := HBq
              have hszr1 := hszrq
              clear HAq HVq HTSq HXq HBq hszrq
              clear g1 f1
              obtain ⟨c0, c1, c2, c3, c4⟩ := tk_at HTS1.out.reads.2 H1.out
              obtain ⟨_, _, k2, k3, _⟩ := tk_at HX1.out.reads.2 HT.out
              simp only [Nat.zero_add] at c0 c1 c2 c3 c4 k2 k3
              try dsimp only at c0 c1 c2 c3 c4 k2 k3
              go_wp2_with (
                 at_builtin
                 refine wpList_append_own_at _ rfl (.tmp 68) (.tmp 73) 23 rfl wo.heap.size 29 i0 _ 5 40 Try.underlying23 hi hz0 hz1 hz2 rfl (by decide) u6 (as1).length ((as1).flatMap Tk.cells) rfl (HA1.out.alloc _) ⟨wa.heap.size, 0, none⟩ 1 1 (Tk.cells ⟨lo1, hi1, du1, ev1, cr1⟩) rfl rfl (cell_new5 _ ⟨lo1, hi1, du1, ev1, cr1⟩ _) (by intro u hu; exact cells_one [⟨lo1, hi1, du1, ev1, cr1⟩] u (by simpa using hu)) d1 d2 (by simp; omega) ?_
                 intro v2 wc hown hgrow _ hat
                 have hsz_ : wa.heap.size ≤ wc.heap.size := by have h := hgrow.size; rw [World.size_alloc] at h; omega
                 have HA2 := Lib.hid (Own.snoc hown)
                 have HV2 := Lib.hid (Own.kept_ne (Own.alloc HV1.out _) hgrow (fun q e h => HD.out q h e))
                 have HTS2 := Lib.hid (Own.kept_dn (Own.alloc HTS1.out _) hgrow (M := wo.heap.size) (fun q e => by have e' : some gt = some q := e; injection e' with e'; omega) (fun q e => (World.ownsRow.lt HA1.out q e).1))
                 have HX2 := Lib.hid (Own.kept_dn (Own.alloc HX1.out _) hgrow (M := wo.heap.size) (fun q e => by have e' : some gx = some q := e; injection e' with e'; omega) (fun q e => (World.ownsRow.lt HA1.out q e).1))
                 have HB2 := Lib.hid ((bl_alloc HB1.out _).grown hgrow (by rw [World.size_alloc]; omega) (fun q e => by have := (World.ownsRow.lt HA1.out q e).1; omega))
                 have hszr2 : wo.heap.size ≤ wc.heap.size := by omega
                 have HDn := Lib.hid (apart_new (W := wa) HV1.out HD.out (by simpa using hat))
                 clear hown hgrow hat HD HA1 HV1 HTS1 HX1 HB1 hsz_ hszr1
                 have HD := HDn
                 clear HDn
                 clear c0 c1 c2 c3 c4 k2 k3
                 obtain ⟨c0, c1, c2, c3, c4⟩ := tk_at HX2.out.reads.2 H2.out
                 obtain ⟨_, _, k2, k3, _⟩ := tk_at HX2.out.reads.2 HT.out
                 simp only [Nat.zero_add] at c0 c1 c2 c3 c4 k2 k3
                 try dsimp only at c0 c1 c2 c3 c4 k2 k3)
              by_cases q2 : du2 = du
              · by_cases r2 : ev2 = ev
                ·
                  have g2 : (du2 == du) = true := by simpa using q2
                  have f2 : (ev2 == ev) = true := by simpa using r2
                  have KB' : Hid ((us.take (j + 1)).filter (keyB du ev) = bs ++ [⟨lo2, hi2, du2, ev2, cr2⟩]) := by show _ = _; rw [KB.out, show keyB du ev ⟨lo2, hi2, du2, ev2, cr2⟩ = true by simp [keyB, q2, r2]]; rfl
                  clear q2 r2
                  try go_wp2
                  go_quiet (fail)
                  clear c0 c1 c2 c3 c4 k2 k3
                  have HAq : Hid (Own (wc.drewN nq) wo.heap.size v2 (as1 ++ [⟨lo1, hi1, du1, ev1, cr1⟩])) := HA2.out
                  have HVq : Hid (Own (wc.drewN nq) wo.heap.size u7 (bs)) := HV2.out
                  have HTSq : Hid (Own (wc.drewN nq) w.heap.size (.slice (some ⟨gt, 0, none⟩) ts.length cts) ts) := HTS2.out
                  have HXq : Hid (Own (wc.drewN nq) w.heap.size (.slice (some ⟨gx, 0, none⟩) us.length cx) us) := HX2.out
                  have HBq : Hid (Below w.heap.size w (wc.drewN nq)) := bl_drewN HB2.out _
                  have hszrq : wo.heap.size ≤ (wc.drewN nq).heap.size := hszr2
                  clear HA2 HV2 HTS2 HX2 HB2 hszr2
                  generalize wc.drewN nq = wb at HAq HVq HTSq HXq HBq hszrq ⊢
                  have HA3 := HAq
                  have HV3 := HVq
                  have HTS3 := HTSq
                  have HX3 := HXq
                  have HB3 := HBq
                  have hszr3 := hszrq
                  clear HAq HVq HTSq HXq HBq hszrq
                  clear g2 f2
                  obtain ⟨c0, c1, c2, c3, c4⟩ := tk_at HX3.out.reads.2 H2.out
                  obtain ⟨_, _, k2, k3, _⟩ := tk_at HX3.out.reads.2 HT.out
                  simp only [Nat.zero_add] at c0 c1 c2 c3 c4 k2 k3
                  try dsimp only at c0 c1 c2 c3 c4 k2 k3
                  go_wp2_with (
                     at_builtin
                     refine wpList_append_own_at _ rfl (.tmp 99) (.tmp 104) 23 rfl wo.heap.size 29 i0 _ 5 40 Try.underlying23 hi hz0 hz1 hz2 rfl (by decide) u7 (bs).length ((bs).flatMap Tk.cells) rfl (HV3.out.alloc _) ⟨wb.heap.size, 0, none⟩ 1 1 (Tk.cells ⟨lo2, hi2, du2, ev2, cr2⟩) rfl rfl (cell_new5 _ ⟨lo2, hi2, du2, ev2, cr2⟩ _) (by intro u hu; exact cells_one [⟨lo2, hi2, du2, ev2, cr2⟩] u (by simpa using hu)) d3 d4 (by simp; omega) ?_
                     intro v4 wd hown hgrow _ hat
                     have hsz_ : wb.heap.size ≤ wd.heap.size := by have h := hgrow.size; rw [World.size_alloc] at h; omega
                     have HV4 := Lib.hid (Own.snoc hown)
                     have HA4 := Lib.hid (Own.kept_ne (Own.alloc HA3.out _) hgrow (fun q e h => HD.out q e h))
                     have HTS4 := Lib.hid (Own.kept_dn (Own.alloc HTS3.out _) hgrow (M := wo.heap.size) (fun q e => by have e' : some gt = some q := e; injection e' with e'; omega) (fun q e => (World.ownsRow.lt HV3.out q e).1))
                     have HX4 := Lib.hid (Own.kept_dn (Own.alloc HX3.out _) hgrow (M := wo.heap.size) (fun q e => by have e' : some gx = some q := e; injection e' with e'; omega) (fun q e => (World.ownsRow.lt HV3.out q e).1))
                     have HB4 := Lib.hid ((bl_alloc HB3.out _).grown hgrow (by rw [World.size_alloc]; omega) (fun q e => by have := (World.ownsRow.lt HV3.out q e).1; omega))
                     have hszr4 : wo.heap.size ≤ wd.heap.size := by omega
                     have HDn := Lib.hid (apart_new' (W := wb) HA3.out HD.out (by simpa using hat))
                     clear hown hgrow hat HD HA3 HV3 HTS3 HX3 HB3 hsz_ hszr3
                     have HD := HDn
                     clear HDn
                     clear c0 c1 c2 c3 c4 k2 k3)
                  go_roundw
                  case rel => first | exact ⟨_, _, _, ⟨j + 1, by omega, by go_num, by rw [KA'.out]; exact HA4.out, by rw [KB'.out]; exact HV4.out, HD.out, HTS4.out, by first | exact HX4.out | (rw [← P1.out]; exact HX4.out), HB4.out⟩, rfl, rfl, rfl⟩ | ((repeat apply Exists.intro); (try simp only [show ((ts.length : Int) == 0) = false by assumption, show decide (k < ts.length) = true from decide_eq_true (by omega)]); refine And.intro ?_ rfl; first | exact ⟨j + 1, by omega, by go_num, by rw [KA'.out]; exact HA4.out, by rw [KB'.out]; exact HV4.out, HD.out, HTS4.out, by first | exact HX4.out | (rw [← P1.out]; exact HX4.out), HB4.out⟩ | exact ⟨j + 1, by omega, by go_num, by rw [KA'.out]; exact HA4.out, by rw [KB'.out]; exact HV4.out, HD.out, HTS4.out, by first | exact HX4.out | (rw [← P1.out]; exact HX4.out), HB4.out, hszr4⟩)
                  case measure => simp [intOf]; omega
                ·
                  have g2 : (du2 == du) = true := by simpa using q2
                  have f2 : (ev2 == ev) = false := by simpa using r2
                  have KB' : Hid ((us.take (j + 1)).filter (keyB du ev) = bs) := by show _ = _; rw [KB.out, show keyB du ev ⟨lo2, hi2, du2, ev2, cr2⟩ = false by simp [keyB, r2]]; simp
                  clear q2 r2
                  try go_wp2
                  go_quiet (fail)
                  clear c0 c1 c2 c3 c4 k2 k3
                  have HAq : Hid (Own (wc.drewN nq) wo.heap.size v2 (as1 ++ [⟨lo1, hi1, du1, ev1, cr1⟩])) := HA2.out
                  have HVq : Hid (Own (wc.drewN nq) wo.heap.size u7 (bs)) := HV2.out
                  have HTSq : Hid (Own (wc.drewN nq) w.heap.size (.slice (some ⟨gt, 0, none⟩) ts.length cts) ts) := HTS2.out
                  have HXq : Hid (Own (wc.drewN nq) w.heap.size (.slice (some ⟨gx, 0, none⟩) us.length cx) us) := HX2.out
                  have HBq : Hid (Below w.heap.size w (wc.drewN nq)) := bl_drewN HB2.out _
                  have hszrq : wo.heap.size ≤ (wc.drewN nq).heap.size := hszr2
                  clear HA2 HV2 HTS2 HX2 HB2 hszr2
                  generalize wc.drewN nq = wb at HAq HVq HTSq HXq HBq hszrq ⊢
                  have HA3 := HAq
                  have HV3 := HVq
                  have HTS3 := HTSq
                  have HX3 := HXq
                  have HB3 := HBq
                  have hszr3 := hszrq
                  clear HAq HVq HTSq HXq HBq hszrq
                  clear g2 f2
                  go_wp2
                  go_roundw
                  case rel => first | exact ⟨_, _, _, ⟨j + 1, by omega, by go_num, by rw [KA'.out]; exact HA3.out, by rw [KB'.out]; exact HV3.out, HD.out, HTS3.out, by first | exact HX3.out | (rw [← P1.out]; exact HX3.out), HB3.out⟩, rfl, rfl, rfl⟩ | ((repeat apply Exists.intro); (try simp only [show ((ts.length : Int) == 0) = false by assumption, show decide (k < ts.length) = true from decide_eq_true (by omega)]); refine And.intro ?_ rfl; first | exact ⟨j + 1, by omega, by go_num, by rw [KA'.out]; exact HA3.out, by rw [KB'.out]; exact HV3.out, HD.out, HTS3.out, by first | exact HX3.out | (rw [← P1.out]; exact HX3.out), HB3.out⟩ | exact ⟨j + 1, by omega, by go_num, by rw [KA'.out]; exact HA3.out, by rw [KB'.out]; exact HV3.out, HD.out, HTS3.out, by first | exact HX3.out | (rw [← P1.out]; exact HX3.out), HB3.out, hszr3⟩)
                  case measure => simp [intOf]; omega
              ·
                have g2 : (du2 == du) = false := by simpa using q2
                have KB' : Hid ((us.take (j + 1)).filter (keyB du ev) = bs) := by show _ = _; rw [KB.out, show keyB du ev ⟨lo2, hi2, du2, ev2, cr2⟩ = false by simp [keyB, q2]]; simp
                clear q2
                try go_wp2
                go_quiet (fail)
                clear c0 c1 c2 c3 c4 k2 k3
                have HAq : Hid (Own (wc.drewN nq) wo.heap.size v2 (as1 ++ [⟨lo1, hi1, du1, ev1, cr1⟩])) := HA2.out
                have HVq : Hid (Own (wc.drewN nq) wo.heap.size u7 (bs)) := HV2.out
                have HTSq : Hid (Own (wc.drewN nq) w.heap.size (.slice (some ⟨gt, 0, none⟩) ts.length cts) ts) := HTS2.out
                have HXq : Hid (Own (wc.drewN nq) w.heap.size (.slice (some ⟨gx, 0, none⟩) us.length cx) us) := HX2.out
                have HBq : Hid (Below w.heap.size w (wc.drewN nq)) := bl_drewN HB2.out _
                have hszrq : wo.heap.size ≤ (wc.drewN nq).heap.size := hszr2
                clear HA2 HV2 HTS2 HX2 HB2 hszr2
                generalize wc.drewN nq = wb at HAq HVq HTSq HXq HBq hszrq ⊢
                have HA3 := HAq
                have HV3 := HVq
                have HTS3 := HTSq
                have HX3 := HXq
                have HB3 := HBq
                have hszr3 := hszrq
                clear HAq HVq HTSq HXq HBq hszrq
                clear g2
                go_wp2
                go_roundw
                case rel => first | exact ⟨_, _, _, ⟨j + 1, by omega, by go_num, by rw [KA'.out]; exact HA3.out, by rw [KB'.out]; exact HV3.out, HD.out, HTS3.out, by first | exact HX3.out | (rw [← P1.out]; exact HX3.out), HB3.out⟩, rfl, rfl, rfl⟩ | ((repeat apply Exists.intro); (try simp only [show ((ts.length : Int) == 0) = false by assumption, show decide (k < ts.length) = true from decide_eq_true (by omega)]); refine And.intro ?_ rfl; first | exact ⟨j + 1, by omega, by go_num, by rw [KA'.out]; exact HA3.out, by rw [KB'.out]; exact HV3.out, HD.out, HTS3.out, by first | exact HX3.out | (rw [← P1.out]; exact HX3.out), HB3.out⟩ | exact ⟨j + 1, by omega, by go_num, by rw [KA'.out]; exact HA3.out, by rw [KB'.out]; exact HV3.out, HD.out, HTS3.out, by first | exact HX3.out | (rw [← P1.out]; exact HX3.out), HB3.out, hszr3⟩)
                case measure => simp [intOf]; omega
            ·
              have g1 : (du1 == du) = true := by simpa using q1
              have f1 : (ev1 == ev) = false := by simpa using r1
              have KA' : Hid ((ts.take (j + 1)).filter (keyB du ev) = as1) := by show _ = _; rw [KA.out, show keyB du ev ⟨lo1, hi1, du1, ev1, cr1⟩ = false by simp [keyB, r1]]; simp
              clear q1 r1
              go_wp2
              go_quiet (fail)
              clear c0 c1 c2 c3 c4 k2 k3
              have HAq : Hid (Own (wr.drewN nq) wo.heap.size u6 (as1)) := HA0.out
              have HVq : Hid (Own (wr.drewN nq) wo.heap.size u7 (bs)) := HV0.out
              have HTSq : Hid (Own (wr.drewN nq) w.heap.size (.slice (some ⟨gt, 0, none⟩) ts.length cts) ts) := HTS0.out
              have HXq : Hid (Own (wr.drewN nq) w.heap.size (.slice (some ⟨gx, 0, none⟩) us.length cx) us) := HX0.out
              have HBq : Hid (Below w.heap.size w (wr.drewN nq)) := bl_drewN HB0.out _
              have hszrq : wo.heap.size ≤ (wr.drewN nq).heap.size := hszr
              clear HA0 HV0 HTS0 HX0 HB0 hszr
              generalize wr.drewN nq = wa at HAq HVq HTSq HXq HBq hszrq ⊢
              have HA1 := HAq
              have HV1 := HVq
              have HTS1 := HTSq
              have HX1 := HXq
              have HB1 := HBq
              have hszr1 := hszrq
              clear HAq HVq HTSq HXq HBq hszrq
              clear g1 f1
              obtain ⟨c0, c1, c2, c3, c4⟩ := tk_at HX1.out.reads.2 H2.out
              obtain ⟨_, _, k2, k3, _⟩ := tk_at HX1.out.reads.2 HT.out
              simp only [Nat.zero_add] at c0 c1 c2 c3 c4 k2 k3
              try dsimp only at c0 c1 c2 c3 c4 k2 k3
              by_cases q2 : du2 = du
              · by_cases r2 : ev2 = ev
                ·
                  have g2 : (du2 == du) = true := by simpa using q2
                  have f2 : (ev2 == ev) = true := by simpa using r2
                  have KB' : Hid ((us.take (j + 1)).filter (keyB du ev) = bs ++ [⟨lo2, hi2, du2, ev2, cr2⟩]) := by show _ = _; rw [KB.out, show keyB du ev ⟨lo2, hi2, du2, ev2, cr2⟩ = true by simp [keyB, q2, r2]]; rfl
                  clear q2 r2
                  go_wp2
                  go_quiet (fail)
                  clear c0 c1 c2 c3 c4 k2 k3
                  have HAq : Hid (Own (wa.drewN nq) wo.heap.size u6 (as1)) := HA1.out
                  have HVq : Hid (Own (wa.drewN nq) wo.heap.size u7 (bs)) := HV1.out
                  have HTSq : Hid (Own (wa.drewN nq) w.heap.size (.slice (some ⟨gt, 0, none⟩) ts.length cts) ts) := HTS1.out
                  have HXq : Hid (Own (wa.drewN nq) w.heap.size (.slice (some ⟨gx, 0, none⟩) us.length cx) us) := HX1.out
                  have HBq : Hid (Below w.heap.size w (wa.drewN nq)) := bl_drewN HB1.out _
                  have hszrq : wo.heap.size ≤ (wa.drewN nq).heap.size := hszr1
                  clear HA1 HV1 HTS1 HX1 HB1 hszr1
                  generalize wa.drewN nq = wb at HAq HVq HTSq HXq HBq hszrq ⊢
                  have HA2 := HAq
                  have HV2 := HVq
                  have HTS2 := HTSq
                  have HX2 := HXq
                  have HB2 := HBq
                  have hszr2 := hszrq
                  clear HAq HVq HTSq HXq HBq hszrq
                  clear g2 f2
                  obtain ⟨c0, c1, c2, c3, c4⟩ := tk_at HX2.out.reads.2 H2.out
                  obtain ⟨_, _, k2, k3, _⟩ := tk_at HX2.out.reads.2 HT.out
                  simp only [Nat.zero_add] at c0 c1 c2 c3 c4 k2 k3
                  try dsimp only at c0 c1 c2 c3 c4 k2 k3
                  go_wp2_with (
                     at_builtin
                     refine wpList_append_own_at _ rfl (.tmp 99) (.tmp 104) 23 rfl wo.heap.size 29 i0 _ 5 40 Try.underlying23 hi hz0 hz1 hz2 rfl (by decide) u7 (bs).length ((bs).flatMap Tk.cells) rfl (HV2.out.alloc _) ⟨wb.heap.size, 0, none⟩ 1 1 (Tk.cells ⟨lo2, hi2, du2, ev2, cr2⟩) rfl rfl (cell_new5 _ ⟨lo2, hi2, du2, ev2, cr2⟩ _) (by intro u hu; exact cells_one [⟨lo2, hi2, du2, ev2, cr2⟩] u (by simpa using hu)) d3 d4 (by simp; omega) ?_
                     intro v3 wd hown hgrow _ hat
                     have hsz_ : wb.heap.size ≤ wd.heap.size := by have h := hgrow.size; rw [World.size_alloc] at h; omega
                     have HV3 := Lib.hid (Own.snoc hown)
                     have HA3 := Lib.hid (Own.kept_ne (Own.alloc HA2.out _) hgrow (fun q e h => HD.out q e h))
                     have HTS3 := Lib.hid (Own.kept_dn (Own.alloc HTS2.out _) hgrow (M := wo.heap.size) (fun q e => by have e' : some gt = some q := e; injection e' with e'; omega) (fun q e => (World.ownsRow.lt HV2.out q e).1))
                     have HX3 := Lib.hid (Own.kept_dn (Own.alloc HX2.out _) hgrow (M := wo.heap.size) (fun q e => by have e' : some gx = some q := e; injection e' with e'; omega) (fun q e => (World.ownsRow.lt HV2.out q e).1))
                     have HB3 := Lib.hid ((bl_alloc HB2.out _).grown hgrow (by rw [World.size_alloc]; omega) (fun q e => by have := (World.ownsRow.lt HV2.out q e).1; omega))
                     have hszr3 : wo.heap.size ≤ wd.heap.size := by omega
                     have HDn := Lib.hid (apart_new' (W := wb) HA2.out HD.out (by simpa using hat))
                     clear hown hgrow hat HD HA2 HV2 HTS2 HX2 HB2 hsz_ hszr2
                     have HD := HDn
                     clear HDn
                     clear c0 c1 c2 c3 c4 k2 k3)
                  go_roundw
                  case rel => first | exact ⟨_, _, _, ⟨j + 1, by omega, by go_num, by rw [KA'.out]; exact HA3.out, by rw [KB'.out]; exact HV3.out, HD.out, HTS3.out, by first | exact HX3.out | (rw [← P1.out]; exact HX3.out), HB3.out⟩, rfl, rfl, rfl⟩ | ((repeat apply Exists.intro); (try simp only [show ((ts.length : Int) == 0) = false by assumption, show decide (k < ts.length) = true from decide_eq_true (by omega)]); refine And.intro ?_ rfl; first | exact ⟨j + 1, by omega, by go_num, by rw [KA'.out]; exact HA3.out, by rw [KB'.out]; exact HV3.out, HD.out, HTS3.out, by first | exact HX3.out | (rw [← P1.out]; exact HX3.out), HB3.out⟩ | exact ⟨j + 1, by omega, by go_num, by rw [KA'.out]; exact HA3.out, by rw [KB'.out]; exact HV3.out, HD.out, HTS3.out, by first | exact HX3.out | (rw [← P1.out]; exact HX3.out), HB3.out, hszr3⟩)
                  case measure => simp [intOf]; omega
                ·
                  have g2 : (du2 == du) = true := by simpa using q2
                  have f2 : (ev2 == ev) = false := by simpa using r2
                  have KB' : Hid ((us.take (j + 1)).filter (keyB du ev) = bs) := by show _ = _; rw [KB.out, show keyB du ev ⟨lo2, hi2, du2, ev2, cr2⟩ = false by simp [keyB, r2]]; simp
                  clear q2 r2
                  go_wp2
                  go_quiet (fail)
                  clear c0 c1 c2 c3 c4 k2 k3
                  have HAq : Hid (Own (wa.drewN nq) wo.heap.size u6 (as1)) := HA1.out
                  have HVq : Hid (Own (wa.drewN nq) wo.heap.size u7 (bs)) := HV1.out
                  have HTSq : Hid (Own (wa.drewN nq) w.heap.size (.slice (some ⟨gt, 0, none⟩) ts.length cts) ts) := HTS1.out
                  have HXq : Hid (Own (wa.drewN nq) w.heap.size (.slice (some ⟨gx, 0, none⟩) us.length cx) us) := HX1.out
                  have HBq : Hid (Below w.heap.size w (wa.drewN nq)) := bl_drewN HB1.out _
                  have hszrq : wo.heap.size ≤ (wa.drewN nq).heap.size := hszr1
                  clear HA1 HV1 HTS1 HX1 HB1 hszr1
                  generalize wa.drewN nq = wb at HAq HVq HTSq HXq HBq hszrq ⊢
                  have HA2 := HAq
                  have HV2 := HVq
                  have HTS2 := HTSq
                  have HX2 := HXq
                  have HB2 := HBq
                  have hszr2 := hszrq
                  clear HAq HVq HTSq HXq HBq hszrq
                  clear g2 f2
                  go_wp2
                  go_roundw
                  case rel => first | exact ⟨_, _, _, ⟨j + 1, by omega, by go_num, by rw [KA'.out]; exact HA2.out, by rw [KB'.out]; exact HV2.out, HD.out, HTS2.out, by first | exact HX2.out | (rw [← P1.out]; exact HX2.out), HB2.out⟩, rfl, rfl, rfl⟩ | ((repeat apply Exists.intro); (try simp only [show ((ts.length : Int) == 0) = false by assumption, show decide (k < ts.length) = true from decide_eq_true (by omega)]); refine And.intro ?_ rfl; first | exact ⟨j + 1, by omega, by go_num, by rw [KA'.out]; exact HA2.out, by rw [KB'.out]; exact HV2.out, HD.out, HTS2.out, by first | exact HX2.out | (rw [← P1.out]; exact HX2.out), HB2.out⟩ | exact ⟨j + 1, by omega, by go_num, by rw [KA'.out]; exact HA2.out, by rw [KB'.out]; exact HV2.out, HD.out, HTS2.out, by first | exact HX2.out | (rw [← P1.out]; exact HX2.out), HB2.out, hszr2⟩)
                  case measure => simp [intOf]; omega
              ·
                have g2 : (du2 == du) = false := by simpa using q2
                have KB' : Hid ((us.take (j + 1)).filter (keyB du ev) = bs) := by show _ = _; rw [KB.out, show keyB du ev ⟨lo2, hi2, du2, ev2, cr2⟩ = false by simp [keyB, q2]]; simp
                clear q2
                go_wp2
                go_quiet (fail)
                clear c0 c1 c2 c3 c4 k2 k3
                have HAq : Hid (Own (wa.drewN nq) wo.heap.size u6 (as1)) := HA1.out
                have HVq : Hid (Own (wa.drewN nq) wo.heap.size u7 (bs)) := HV1.out
                have HTSq : Hid (Own (wa.drewN nq) w.heap.size (.slice (some ⟨gt, 0, none⟩) ts.length cts) ts) := HTS1.out
                have HXq : Hid (Own (wa.drewN nq) w.heap.size (.slice (some ⟨gx, 0, none⟩) us.length cx) us) := HX1.out
                have HBq : Hid (Below w.heap.size w (wa.drewN nq)) := bl_drewN HB1.out _
                have hszrq : wo.heap.size ≤ (wa.drewN nq).heap.size := hszr1
                clear HA1 HV1 HTS1 HX1 HB1 hszr1
                generalize wa.drewN nq = wb at HAq HVq HTSq HXq HBq hszrq ⊢
                have HA2 := HAq
                have HV2 := HVq
                have HTS2 := HTSq
                have HX2 := HXq
                have HB2 := HBq
                have hszr2 := hszrq
                clear HAq HVq HTSq HXq HBq hszrq
                clear g2
                go_wp2
                go_roundw
                case rel => first | exact ⟨_, _, _, ⟨j + 1, by omega, by go_num, by rw [KA'.out]; exact HA2.out, by rw [KB'.out]; exact HV2.out, HD.out, HTS2.out, by first | exact HX2.out | (rw [← P1.out]; exact HX2.out), HB2.out⟩, rfl, rfl, rfl⟩ | ((repeat apply Exists.intro); (try simp only [show ((ts.length : Int) == 0) = false by assumption, show decide (k < ts.length) = true from decide_eq_true (by omega)]); refine And.intro ?_ rfl; first | exact ⟨j + 1, by omega, by go_num, by rw [KA'.out]; exact HA2.out, by rw [KB'.out]; exact HV2.out, HD.out, HTS2.out, by first | exact HX2.out | (rw [← P1.out]; exact HX2.out), HB2.out⟩ | exact ⟨j + 1, by omega, by go_num, by rw [KA'.out]; exact HA2.out, by rw [KB'.out]; exact HV2.out, HD.out, HTS2.out, by first | exact HX2.out | (rw [← P1.out]; exact HX2.out), HB2.out, hszr2⟩)
                case measure => simp [intOf]; omega
          ·
            have g1 : (du1 == du) = false := by simpa using q1
            have KA' : Hid ((ts.take (j + 1)).filter (keyB du ev) = as1) := by show _ = _; rw [KA.out, show keyB du ev ⟨lo1, hi1, du1, ev1, cr1⟩ = false by simp [keyB, q1]]; simp
            clear q1
            go_wp2
            go_quiet (fail)
            clear c0 c1 c2 c3 c4 k2 k3
            have HAq : Hid (Own (wr.drewN nq) wo.heap.size u6 (as1)) := HA0.out
            have HVq : Hid (Own (wr.drewN nq) wo.heap.size u7 (bs)) := HV0.out
            have HTSq : Hid (Own (wr.drewN nq) w.heap.size (.slice (some ⟨gt, 0, none⟩) ts.length cts) ts) := HTS0.out
            have HXq : Hid (Own (wr.drewN nq) w.heap.size (.slice (some ⟨gx, 0, none⟩) us.length cx) us) := HX0.out
            have HBq : Hid (Below w.heap.size w (wr.drewN nq)) := bl_drewN HB0.out _
            have hszrq : wo.heap.size ≤ (wr.drewN nq).heap.size := hszr
            clear HA0 HV0 HTS0 HX0 HB0 hszr
            generalize wr.drewN nq = wa at HAq HVq HTSq HXq HBq hszrq ⊢
            have HA1 := HAq
            have HV1 := HVq
            have HTS1 := HTSq
            have HX1 := HXq
            have HB1 := HBq
            have hszr1 := hszrq
            clear HAq HVq HTSq HXq HBq hszrq
            clear g1
            obtain ⟨c0, c1, c2, c3, c4⟩ := tk_at HX1.out.reads.2 H2.out
            obtain ⟨_, _, k2, k3, _⟩ := tk_at HX1.out.reads.2 HT.out
            simp only [Nat.zero_add] at c0 c1 c2 c3 c4 k2 k3
            try dsimp only at c0 c1 c2 c3 c4 k2 k3
            by_cases q2 : du2 = du
            · by_cases r2 : ev2 = ev
              ·
                have g2 : (du2 == du) = true := by simpa using q2
                have f2 : (ev2 == ev) = true := by simpa using r2
                have KB' : Hid ((us.take (j + 1)).filter (keyB du ev) = bs ++ [⟨lo2, hi2, du2, ev2, cr2⟩]) := by show _ = _; rw [KB.out, show keyB du ev ⟨lo2, hi2, du2, ev2, cr2⟩ = true by simp [keyB, q2, r2]]; rfl
                clear q2 r2
                go_wp2
                go_quiet (fail)
                clear c0 c1 c2 c3 c4 k2 k3
                have HAq : Hid (Own (wa.drewN nq) wo.heap.size u6 (as1)) := HA1.out
                have HVq : Hid (Own (wa.drewN nq) wo.heap.size u7 (bs)) := HV1.out
                have HTSq : Hid (Own (wa.drewN nq) w.heap.size (.slice (some ⟨gt, 0, none⟩) ts.length cts) ts) := HTS1.out
                have HXq : Hid (Own (wa.drewN nq) w.heap.size (.slice (some ⟨gx, 0, none⟩) us.length cx) us) := HX1.out
                have HBq : Hid (Below w.heap.size w (wa.drewN nq)) := bl_drewN HB1.out _
                have hszrq : wo.heap.size ≤ (wa.drewN nq).heap.size := hszr1
                clear HA1 HV1 HTS1 HX1 HB1 hszr1
                generalize wa.drewN nq = wb at HAq HVq HTSq HXq HBq hszrq ⊢
                have HA2 := HAq
                have HV2 := HVq
                have HTS2 := HTSq
                have HX2 := HXq
                have HB2 := HBq
                have hszr2 := hszrq
                clear HAq HVq HTSq HXq HBq hszrq
                clear g2 f2
                obtain ⟨c0, c1, c2, c3, c4⟩ := tk_at HX2.out.reads.2 H2.out
                obtain ⟨_, _, k2, k3, _⟩ := tk_at HX2.out.reads.2 HT.out
                simp only [Nat.zero_add] at c0 c1 c2 c3 c4 k2 k3
                try dsimp only at c0 c1 c2 c3 c4 k2 k3
                go_wp2_with (
                   at_builtin
                   refine wpList_append_own_at _ rfl (.tmp 99) (.tmp 104) 23 rfl wo.heap.size 29 i0 _ 5 40 Try.underlying23 hi hz0 hz1 hz2 rfl (by decide) u7 (bs).length ((bs).flatMap Tk.cells) rfl (HV2.out.alloc _) ⟨wb.heap.size, 0, none⟩ 1 1 (Tk.cells ⟨lo2, hi2, du2, ev2, cr2⟩) rfl rfl (cell_new5 _ ⟨lo2, hi2, du2, ev2, cr2⟩ _) (by intro u hu; exact cells_one [⟨lo2, hi2, du2, ev2, cr2⟩] u (by simpa using hu)) d3 d4 (by simp; omega) ?_
                   intro v3 wd hown hgrow _ hat
                   have hsz_ : wb.heap.size ≤ wd.heap.size := by have h := hgrow.size; rw [World.size_alloc] at h; omega
                   have HV3 := Lib.hid (Own.snoc hown)
                   have HA3 := Lib.hid (Own.kept_ne (Own.alloc HA2.out _) hgrow (fun q e h => HD.out q e h))
                   have HTS3 := Lib.hid (Own.kept_dn (Own.alloc HTS2.out _) hgrow (M := wo.heap.size) (fun q e => by have e' : some gt = some q := e; injection e' with e'; omega) (fun q e => (World.ownsRow.lt HV2.out q e).1))
                   have HX3 := Lib.hid (Own.kept_dn (Own.alloc HX2.out _) hgrow (M := wo.heap.size) (fun q e => by have e' : some gx = some q := e; injection e' with e'; omega) (fun q e => (World.ownsRow.lt HV2.out q e).1))
                   have HB3 := Lib.hid ((bl_alloc HB2.out _).grown hgrow (by rw [World.size_alloc]; omega) (fun q e => by have := (World.ownsRow.lt HV2.out q e).1; omega))
                   have hszr3 : wo.heap.size ≤ wd.heap.size := by omega
                   have HDn := Lib.hid (apart_new' (W := wb) HA2.out HD.out (by simpa using hat))
                   clear hown hgrow hat HD HA2 HV2 HTS2 HX2 HB2 hsz_ hszr2
                   have HD := HDn
                   clear HDn
                   clear c0 c1 c2 c3 c4 k2 k3)
                go_roundw
                case rel => first | exact ⟨_, _, _, ⟨j + 1, by omega, by go_num, by rw [KA'.out]; exact HA3.out, by rw [KB'.out]; exact HV3.out, HD.out, HTS3.out, by first | exact HX3.out | (rw [← P1.out]; exact HX3.out), HB3.out⟩, rfl, rfl, rfl⟩ | ((repeat apply Exists.intro); (try simp only [show ((ts.length : Int) == 0) = false by assumption, show decide (k < ts.length) = true from decide_eq_true (by omega)]); refine And.intro ?_ rfl; first | exact ⟨j + 1, by omega, by go_num, by rw [KA'.out]; exact HA3.out, by rw [KB'.out]; exact HV3.out, HD.out, HTS3.out, by first | exact HX3.out | (rw [← P1.out]; exact HX3.out), HB3.out⟩ | exact ⟨j + 1, by omega, by go_num, by rw [KA'.out]; exact HA3.out, by rw [KB'.out]; exact HV3.out, HD.out, HTS3.out, by first | exact HX3.out | (rw [← P1.out]; exact HX3.out), HB3.out, hszr3⟩)
                case measure => simp [intOf]; omega
              ·
                have g2 : (du2 == du) = true := by simpa using q2
                have f2 : (ev2 == ev) = false := by simpa using r2
                have KB' : Hid ((us.take (j + 1)).filter (keyB du ev) = bs) := by show _ = _; rw [KB.out, show keyB du ev ⟨lo2, hi2, du2, ev2, cr2⟩ = false by simp [keyB, r2]]; simp
                clear q2 r2
                go_wp2
                go_quiet (fail)
                clear c0 c1 c2 c3 c4 k2 k3
                have HAq : Hid (Own (wa.drewN nq) wo.heap.size u6 (as1)) := HA1.out
                have HVq : Hid (Own (wa.drewN nq) wo.heap.size u7 (bs)) := HV1.out
                have HTSq : Hid (Own (wa.drewN nq) w.heap.size (.slice (some ⟨gt, 0, none⟩) ts.length cts) ts) := HTS1.out
                have HXq : Hid (Own (wa.drewN nq) w.heap.size (.slice (some ⟨gx, 0, none⟩) us.length cx) us) := HX1.out
                have HBq : Hid (Below w.heap.size w (wa.drewN nq)) := bl_drewN HB1.out _
                have hszrq : wo.heap.size ≤ (wa.drewN nq).heap.size := hszr1
                clear HA1 HV1 HTS1 HX1 HB1 hszr1
                generalize wa.drewN nq = wb at HAq HVq HTSq HXq HBq hszrq ⊢
                have HA2 := HAq
                have HV2 := HVq
                have HTS2 := HTSq
                have HX2 := HXq
                have HB2 := HBq
                have hszr2 := hszrq
                clear HAq HVq HTSq HXq HBq hszrq
                clear g2 f2
                go_wp2
                go_roundw
                case rel => first | exact ⟨_, _, _, ⟨j + 1, by omega, by go_num, by rw [KA'.out]; exact HA2.out, by rw [KB'.out]; exact HV2.out, HD.out, HTS2.out, by first | exact HX2.out | (rw [← P1.out]; exact HX2.out), HB2.out⟩, rfl, rfl, rfl⟩ | ((repeat apply Exists.intro); (try simp only [show ((ts.length : Int) == 0) = false by assumption, show decide (k < ts.length) = true from decide_eq_true (by omega)]); refine And.intro ?_ rfl; first | exact ⟨j + 1, by omega, by go_num, by rw [KA'.out]; exact HA2.out, by rw [KB'.out]; exact HV2.out, HD.out, HTS2.out, by first | exact HX2.out | (rw [← P1.out]; exact HX2.out), HB2.out⟩ | exact ⟨j + 1, by omega, by go_num, by rw [KA'.out]; exact HA2.out, by rw [KB'.out]; exact HV2.out, HD.out, HTS2.out, by first | exact HX2.out | (rw [← P1.out]; exact HX2.out), HB2.out, hszr2⟩)
                case measure => simp [intOf]; omega
            ·
              have g2 : (du2 == du) = false := by simpa using q2
              have KB' : Hid ((us.take (j + 1)).filter (keyB du ev) = bs) := by show _ = _; rw [KB.out, show keyB du ev ⟨lo2, hi2, du2, ev2, cr2⟩ = false by simp [keyB, q2]]; simp
              clear q2
              go_wp2
              go_quiet (fail)
              clear c0 c1 c2 c3 c4 k2 k3
              have HAq : Hid (Own (wa.drewN nq) wo.heap.size u6 (as1)) := HA1.out
              have HVq : Hid (Own (wa.drewN nq) wo.heap.size u7 (bs)) := HV1.out
              have HTSq : Hid (Own (wa.drewN nq) w.heap.size (.slice (some ⟨gt, 0, none⟩) ts.length cts) ts) := HTS1.out
              have HXq : Hid (Own (wa.drewN nq) w.heap.size (.slice (some ⟨gx, 0, none⟩) us.length cx) us) := HX1.out
              have HBq : Hid (Below w.heap.size w (wa.drewN nq)) := bl_drewN HB1.out _
              have hszrq : wo.heap.size ≤ (wa.drewN nq).heap.size := hszr1
              clear HA1 HV1 HTS1 HX1 HB1 hszr1
              generalize wa.drewN nq = wb at HAq HVq HTSq HXq HBq hszrq ⊢
              have HA2 := HAq
              have HV2 := HVq
              have HTS2 := HTSq
              have HX2 := HXq
              have HB2 := HBq
              have hszr2 := hszrq
              clear HAq HVq HTSq HXq HBq hszrq
              clear g2
              go_wp2
              go_roundw
              case rel => first | exact ⟨_, _, _, ⟨j + 1, by omega, by go_num, by rw [KA'.out]; exact HA2.out, by rw [KB'.out]; exact HV2.out, HD.out, HTS2.out, by first | exact HX2.out | (rw [← P1.out]; exact HX2.out), HB2.out⟩, rfl, rfl, rfl⟩ | ((repeat apply Exists.intro); (try simp only [show ((ts.length : Int) == 0) = false by assumption, show decide (k < ts.length) = true from decide_eq_true (by omega)]); refine And.intro ?_ rfl; first | exact ⟨j + 1, by omega, by go_num, by rw [KA'.out]; exact HA2.out, by rw [KB'.out]; exact HV2.out, HD.out, HTS2.out, by first | exact HX2.out | (rw [← P1.out]; exact HX2.out), HB2.out⟩ | exact ⟨j + 1, by omega, by go_num, by rw [KA'.out]; exact HA2.out, by rw [KB'.out]; exact HV2.out, HD.out, HTS2.out, by first | exact HX2.out | (rw [← P1.out]; exact HX2.out), HB2.out, hszr2⟩)
              case measure => simp [intOf]; omega
        · obtain rfl : j = ts.length := by omega
          have hE : (ts.take ts.length).filter (keyB du ev) = (us.take ts.length).filter (keyB du ev) := by
            rw [List.take_length, ← P1.out, List.take_length, P6.out, sortL_key]
          obtain ⟨as1, has⟩ : ∃ as1, as1 = (us.take ts.length).filter (keyB du ev) := ⟨_, rfl⟩
          have la : as1.length ≤ 6 := by rw [has]; exact Nat.le_trans (List.length_filter_le _ _) (by rw [List.length_take]; omega)
          rw [hE, ← has] at HA0
          rw [← has] at HV0
          clear hE has
          obtain ⟨Aa, ca, rfl⟩ := HA0.out.form
          obtain ⟨Ab, cb, rfl⟩ := HV0.out.form
          go_wp2_with fail
          refine (dmTasks_any wr _ _ _ _ _ as1 HA0.out.reads.2 HV0.out.reads.2 (by omega)).mono ?_
          rintro e w9 ⟨rfl, hb⟩
          have HTS9 := Lib.hid (HTS0.out.below hb)
          have HX9 := Lib.hid (HX0.out.below hb)
          have HB9 := Lib.hid (bl_trans HB0.out hb)
          clear hb
          go_wp2
          go_roundw
          case rel => first | exact ⟨_, ⟨k + 1, by omega, by go_num, HTS9.out, by first | exact HX9.out | (rw [← P1.out]; exact HX9.out), HB9.out⟩, rfl⟩ | exact ⟨k + 1, by omega, by go_num, HTS9.out, by first | exact HX9.out | (rw [← P1.out]; exact HX9.out), HB9.out⟩ | ((repeat apply Exists.intro); (try simp only [show ((ts.length : Int) == 0) = false by assumption]); refine And.intro ?_ rfl; exact ⟨k + 1, by omega, by go_num, HTS9.out, by first | exact HX9.out | (rw [← P1.out]; exact HX9.out), HB9.out⟩)
          case measure => simp [intOf]; omega
    · go_wp2
      go_ret
      exact ⟨rfl, HB.out⟩

end Go.Proofs.Ytnhffadebjibnaa
