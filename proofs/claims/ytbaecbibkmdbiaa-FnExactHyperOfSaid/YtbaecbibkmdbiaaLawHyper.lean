/- The walks of the laws on periods. -/
import Derived.Test.YtbaecbibkmdbiaaLawCrit
import Derived.Test.YtbaecbibkmdbiaaHyper
namespace Go.Proofs.Ytbaecbibkmdbiaa
open Go.RowKit

theorem iHyperOf_is (w : World) (A : Option Addr) (n c : Nat) (ts : List Tk) (m : Nat) (hm : m = hyperOf ts) (h : Tks w w.heap.size A n ts) (hn : n ≤ 1048576) :
    Calls Try.prog 9 #[.slice A n c] w (NumRes m w) := by subst hm; exact iHyperOf_any w A n c ts h hn
theorem sHyperOf_is (w : World) (A : Option Addr) (n c : Nat) (ts : List Tk) (m : Nat) (hm : m = hyperOf ts) (h : Tks w w.heap.size A n ts) (hn : n ≤ 1048576) :
    Calls Try.prog 10 #[.slice A n c] w (NumRes m w) := by subst hm; exact sHyperOf_any w A n c ts h hn

theorem lcmL_all (ts : List Tk) : lcmL (ts.take ts.length) = lcmL ts := by rw [List.take_of_length_le (Nat.le_refl _)]
theorem hyper_le (ts : List Tk) : hyperOf ts ≤ 3200000 := by
  unfold hyperOf
  cases h : setB ts
  · simp
  · have := (lcmL_bound h ts.length).2
    rw [lcmL_all] at this
    simpa using this
theorem hyper_pos {ts : List Tk} (h : setB ts = true) : 1 ≤ hyperOf ts := by
  have := (lcmL_bound h ts.length).1
  rw [lcmL_all] at this
  simpa [hyperOf, h] using this

theorem foldl_dvd (zs : List Nat) : ∀ m : Nat, m ∣ zs.foldl Nat.lcm m ∧ ∀ z ∈ zs, z ∣ zs.foldl Nat.lcm m := by
  induction zs with
  | nil => intro m; exact ⟨Nat.dvd_refl _, fun z hz => by simp at hz⟩
  | cons y zs ih =>
    intro m
    obtain ⟨h1, h2⟩ := ih (Nat.lcm m y)
    refine ⟨Nat.dvd_trans (Nat.dvd_lcm_left m y) h1, fun z hz => ?_⟩
    rcases List.mem_cons.1 hz with rfl | hz
    · exact Nat.dvd_trans (Nat.dvd_lcm_right m z) h1
    · exact h2 z hz
theorem foldl_least (zs : List Nat) : ∀ m k : Nat, m ∣ k → (∀ z ∈ zs, z ∣ k) → zs.foldl Nat.lcm m ∣ k := by
  induction zs with
  | nil => intro m k h _; exact h
  | cons y zs ih =>
    intro m k h hz
    exact ih _ _ (Nat.lcm_dvd h (hz y (by simp))) (fun z h' => hz z (by simp [h']))
theorem lcmL_dvd {ts : List Tk} {t : Tk} (h : t ∈ ts) : t.ev.toNat ∣ lcmL ts := by
  rw [← hyper_evs]
  exact (foldl_dvd (evs ts) 1).2 _ (List.mem_map.2 ⟨t, h, rfl⟩)
theorem lcmL_least {ts : List Tk} {k : Nat} (h : ∀ t ∈ ts, t.ev.toNat ∣ k) : lcmL ts ∣ k := by
  rw [← hyper_evs]
  refine foldl_least (evs ts) 1 k (Nat.one_dvd _) (fun z hz => ?_)
  obtain ⟨t, ht, rfl⟩ := List.mem_map.1 hz
  exact h t ht

theorem hyper_dvd {ts : List Tk} {m k : Nat} {t : Tk} (hs : setB ts = true) (hm : m = hyperOf ts) (ht : ts[k]? = some t) : (((m : Int) % t.ev) != 0) = false ∧ ¬ (m : Int) < t.ev := by
  have hmem := List.mem_of_getElem? ht
  obtain ⟨e1, e2⟩ := ev_bound hs ht
  have hd : t.ev.toNat ∣ m := by rw [hm]; simp only [hyperOf, hs, if_true]; exact lcmL_dvd hmem
  have hp : 1 ≤ m := by rw [hm]; exact hyper_pos hs
  obtain ⟨z, hz⟩ := Int.eq_ofNat_of_zero_le (show 0 ≤ t.ev by omega)
  rw [hz] at hd ⊢
  rw [Int.toNat_natCast] at hd
  refine ⟨?_, ?_⟩
  · have : (m : Int) % (z : Int) = 0 := by exact_mod_cast Nat.mod_eq_zero_of_dvd hd
    simp [this]
  · have := Nat.le_of_dvd (by omega) hd
    omega

theorem sub_hyper {ts us : List Tk} {m q : Nat} (hs : setB ts = true) (hu : setB us = true) (hm : m = hyperOf ts) (hq : q = hyperOf us) (h : ∀ u ∈ us, ∃ t ∈ ts, u.ev = t.ev) : 1 ≤ q ∧ q ≤ m ∧ q ∣ m := by
  have q1 : 1 ≤ q := by rw [hq]; exact hyper_pos hu
  have m1 : 1 ≤ m := by rw [hm]; exact hyper_pos hs
  have hd : q ∣ m := by
    rw [hq, hm]
    simp only [hyperOf, hs, hu, if_true]
    refine lcmL_least fun u hu' => ?_
    obtain ⟨t, ht, e⟩ := h u hu'
    rw [e]
    exact lcmL_dvd ht
  exact ⟨q1, Nat.le_of_dvd (by omega) hd, hd⟩

theorem crit_hyper {ts us : List Tk} {m q : Nat} (hs : setB ts = true) (hus : us = critOf ts) (hm : m = hyperOf ts) (hq : q = hyperOf us) : 1 ≤ q ∧ q ≤ m ∧ q ∣ m := by
  refine sub_hyper hs (crit_facts hs hus).1 hm hq fun u hu => ?_
  rw [hus] at hu
  simp only [critOf, hs, if_true] at hu
  obtain ⟨t, ht, _, rfl⟩ := critL_mem hu
  exact ⟨t, ht, rfl⟩

theorem setB_tail {ts : List Tk} (h : setB ts = true) : setB ts.tail = true := by
  unfold setB at h ⊢
  simp at h ⊢
  exact ⟨by omega, fun t ht => h.2 t (List.mem_of_mem_tail ht)⟩
theorem tail_hyper {ts : List Tk} {m q : Nat} (hs : setB ts = true) (hm : m = hyperOf ts) (hq : q = hyperOf ts.tail) : 1 ≤ q ∧ q ≤ m ∧ q ∣ m :=
  sub_hyper hs (setB_tail hs) hm hq fun u hu => ⟨u, List.mem_of_mem_tail hu, rfl⟩

theorem own_cap {w : World} {B c : Nat} {A : Option Addr} {ts : List Tk} (h : Own w B (.slice A ts.length c) ts) (hl : 1 ≤ ts.length) : ∃ g, A = some ⟨g, 0, none⟩ ∧ ts.length ≤ c ∧ c ≤ maxLen := by
  rcases h.2 with ⟨e, h0⟩ | ⟨g, cap, cur, e, _, _, h1, h2, _⟩
  · omega
  · injection e with e1 e2 e3
    subst e3
    exact ⟨g, e1, h1, h2⟩
theorem tail_one {w : World} {B n : Nat} {A A' : Option Addr} {ts : List Tk} (h : Own w B (.slice A ts.length 1) ts) (hn : n = ts.length - 1 := by first | rfl | omega) : Tks w w.heap.size A' n ts.tail := by
  have hl : ts.length ≤ 1 := by
    rcases h.2 with ⟨e, h0⟩ | ⟨g, cap, cur, e, _, _, h1, h2, _⟩
    · omega
    · injection e with e1 e2 e3
      omega
  refine ⟨by simp [hn], fun i t ht => ?_⟩
  have := (List.getElem?_eq_some_iff.1 ht).1
  simp at this
  omega
theorem tail_more {w : World} {B c g n : Nat} {ts : List Tk} (h : Own w B (.slice (some ⟨g, 0, none⟩) ts.length c) ts) (hn : n = ts.length - 1 := by first | rfl | omega) : Tks w w.heap.size (some ⟨g, 5, none⟩) n ts.tail := by
  refine ⟨by simp [hn], fun i t ht => ?_⟩
  have ht' : ts[i + 1]? = some t := by rw [← List.getElem?_tail]; exact ht
  obtain ⟨b, o, e, hb, hc⟩ := h.reads.2.at_ (i + 1) t ht'
  injection e with e
  injection e with e1 e2
  subst e1 e2
  refine ⟨g, 5, rfl, hb, ?_⟩
  have e : 5 + i * 5 = 0 + (i + 1) * 5 := by omega
  rw [e]
  exact hc

def allD (k : Nat) (ts : List Tk) : Bool := ts.all fun t => (k : Int) % t.ev == 0
theorem allD_take {ts : List Tk} {k j : Nat} {t : Tk} (h : ts[j]? = some t) (_he : 1 ≤ t.ev) : allD k (ts.take (j + 1)) = (allD k (ts.take j) && ((k : Int) % t.ev == 0)) := by
  obtain ⟨hk, rfl⟩ := List.getElem?_eq_some_iff.1 h
  rw [List.take_succ_eq_append_getElem hk]
  simp only [allD, List.all_append, List.all_cons, List.all_nil, Bool.and_true]
theorem hyper_least {ts : List Tk} {m k : Nat} (hs : setB ts = true) (hm : m = hyperOf ts) (h1 : 1 ≤ k) (h2 : k < m) : allD k ts = false := by
  cases h : allD k ts
  · rfl
  · exfalso
    have hd : m ∣ k := by
      rw [hm]
      simp only [hyperOf, hs, if_true]
      refine lcmL_least fun t ht => ?_
      unfold allD at h
      rw [List.all_eq_true] at h
      have := h t ht
      rw [beq_iff_eq] at this
      obtain ⟨j, hj⟩ := List.getElem?_of_mem ht
      obtain ⟨e1, _⟩ := ev_bound hs hj
      obtain ⟨z, hz⟩ := Int.eq_ofNat_of_zero_le (show 0 ≤ t.ev by omega)
      rw [hz] at this ⊢
      rw [Int.toNat_natCast]
      exact Nat.dvd_of_mod_eq_zero (by exact_mod_cast this)
    have := Nat.le_of_dvd (by omega) hd
    omega

set_option maxHeartbeats 2000000 in
theorem fnHyperOf_walk (w : World) (A : Option Addr) (n c : Nat) (f : Nat → Int) (h : Code w w.heap.size A n c f) :
    Calls Try.prog 3 #[.slice A n c] w fun e w' => e = .returned (.bool true) ∧ Below w.heap.size w w' := by
  have H := Lib.hid h
  have hle := h.le
  have hmax := h.max
  unfold maxLen at hmax
  clear h
  by_cases hn : 1048576 < n
  · go_enter Try.func3, Try.ntmps3
    go_wp2
    go_ret
    exact ⟨rfl, Below.refl _ _⟩
  go_enter Try.func3, Try.ntmps3
  go_wp2_with fail
  refine (dDrawHyperOf_any _ A n c f H.out).mono ?_
  rintro e w1 ⟨Ats, cts, ts, rfl, hlts, hgts, ho, hb⟩
  have HGts := Lib.hid hgts
  have HOts1 := Lib.hid ho
  have HB1 := Lib.hid hb
  clear ho hb hgts H
  obtain ⟨m, hm⟩ : ∃ m, m = hyperOf ts := ⟨_, rfl⟩
  have hmb : m ≤ 3200000 := by rw [hm]; exact hyper_le ts
  have HM := Lib.hid hm
  clear hm
  go_wp2_with fail
  refine (iHyperOf_is w1 Ats _ cts ts m HM.out HOts1.out.reads.2 (by omega)).mono ?_
  rintro e w2 ⟨rfl, hb⟩
  have HOts2 := Lib.hid (HOts1.out.below hb)
  have HB2 := Lib.hid (bl_trans HB1.out hb)
  clear hb HOts1 HB1
  go_wp2_with fail
  refine (sHyperOf_is w2 Ats _ cts ts m HM.out HOts2.out.reads.2 (by omega)).mono ?_
  rintro e w3 ⟨rfl, hb⟩
  have HOts3 := Lib.hid (HOts2.out.below hb)
  have HB3 := Lib.hid (bl_trans HB2.out hb)
  clear hb HOts2 HB2
  cases hs : setB ts
  · obtain rfl : m = 0 := by rw [HM.out]; simp [hyperOf, hs]
    go_wp2_with fail
    refine (iSetValid_any w3 Ats _ cts ts HOts3.out.reads.2 (by omega)).mono ?_
    rintro e w4 ⟨rfl, hb⟩
    have HOts4 := Lib.hid (HOts3.out.below hb)
    have HB4 := Lib.hid (bl_trans HB3.out hb)
    clear hb HOts3 HB3
    go_wp2_with fail
    refine (sHyperOf_is w4 Ats _ cts ts 0 HM.out HOts4.out.reads.2 (by omega)).mono ?_
    rintro e w5 ⟨rfl, hb⟩
    have HOts5 := Lib.hid (HOts4.out.below hb)
    have HB5 := Lib.hid (bl_trans HB4.out hb)
    clear hb HOts4 HB4
    go_wp2
    go_ret
    exact ⟨rfl, HB5.out⟩
  · have hlt5 := setB_len hs
    go_wp2_with fail
    refine (iSetValid_any w3 Ats _ cts ts HOts3.out.reads.2 (by omega)).mono ?_
    rintro e w4 ⟨rfl, hb⟩
    have HOts4 := Lib.hid (HOts3.out.below hb)
    have HB4 := Lib.hid (bl_trans HB3.out hb)
    clear hb HOts3 HB3
    go_wp2
    have HS := Lib.hid hs
    clear hs
    have hm1 : 1 ≤ m := by rw [HM.out]; exact hyper_pos HS.out
    go_loop [5] (fun i => ∃ k : Nat, k ≤ ts.length ∧ i = .int .i64 k) (fun i => ts.length - (intOf i).toNat)
    case atStart => exact ⟨0, Nat.zero_le _, rfl⟩
    case round =>
      obtain ⟨k, hk, rfl⟩ := hrel
      by_cases hlt : k < ts.length
      · obtain ⟨t, ht⟩ : ∃ t, ts[k]? = some t := ⟨ts[k], List.getElem?_eq_getElem hlt⟩
        obtain ⟨b, o, rfl, hbl, c0, c1, c2, c3, c4⟩ := HOts4.out.reads.2.at_ k t ht
        obtain ⟨e1, e2⟩ := ev_bound HS.out ht
        obtain ⟨d1, d2⟩ := hyper_dvd HS.out HM.out ht
        obtain ⟨lo, hi, du, ev, cr⟩ := t
        dsimp only at c0 c1 c2 c3 c4 e1 e2 d1 d2
        clear ht
        go_wp2
        go_round
        case rel => exact ⟨k + 1, by omega, by go_num⟩
        case measure => simp [intOf]; omega
      · obtain rfl : k = ts.length := by omega
        go_wp2
        go_ret
        exact ⟨ret_bool (a := decide ((1 : Int) ≤ (m : Int))) (decide_eq_true (by omega)), HB4.out⟩

set_option maxHeartbeats 2000000 in
theorem fnCriticalHyper_walk (w : World) (A : Option Addr) (n c : Nat) (f : Nat → Int) (h : Code w w.heap.size A n c f) :
    Calls Try.prog 6 #[.slice A n c] w fun e w' => e = .returned (.bool true) ∧ Below w.heap.size w w' := by
  have H := Lib.hid h
  have hle := h.le
  have hmax := h.max
  unfold maxLen at hmax
  clear h
  by_cases hn : 1048576 < n
  · go_enter Try.func6, Try.ntmps6
    go_wp2
    go_ret
    exact ⟨rfl, Below.refl _ _⟩
  go_enter Try.func6, Try.ntmps6
  go_wp2_with fail
  refine (dDrawCriticalOf_any _ A n c f H.out).mono ?_
  rintro e w1 ⟨Ats, cts, ts, rfl, hlts, hgts, ho, hb⟩
  have HGts := Lib.hid hgts
  have HOts1 := Lib.hid ho
  have HB1 := Lib.hid hb
  clear ho hb hgts H
  have hlc := critOf_len ts
  obtain ⟨us, hus⟩ : ∃ us, us = critOf ts := ⟨_, rfl⟩
  have hlu : us.length ≤ 6 := by rw [hus]; omega
  have HUS := Lib.hid hus
  clear hus hlc
  go_wp2_with fail
  refine (iCriticalOf_is w1 Ats _ cts ts us HUS.out HOts1.out.reads.2 (by omega)).mono ?_
  rintro e w2 ⟨Ax, cx, rfl, ho, hb⟩
  have HOx2 := Lib.hid (show Own w2 w.heap.size _ _ from own_more ho HB1.out.size)
  clear ho
  have HOts2 := Lib.hid (HOts1.out.below hb)
  have HB2 := Lib.hid (bl_trans HB1.out hb)
  clear hb HOts1 HB1
  go_wp2_with fail
  refine (sCriticalOf_is w2 Ats _ cts ts us HUS.out HOts2.out.reads.2 (by omega)).mono ?_
  rintro e w3 ⟨Ay, cy, rfl, ho, hb⟩
  have HOy3 := Lib.hid (show Own w3 w.heap.size _ _ from own_more ho HB2.out.size)
  clear ho
  have HOts3 := Lib.hid (HOts2.out.below hb)
  have HOx3 := Lib.hid (HOx2.out.below hb)
  have HB3 := Lib.hid (bl_trans HB2.out hb)
  clear hb HOts2 HOx2 HB2
  go_wp2_with fail
  refine (dmTasks_any w3 Ax Ay _ cx cy us HOx3.out.reads.2 HOy3.out.reads.2 (by omega)).mono ?_
  rintro e w4 ⟨rfl, hb⟩
  have HOts4 := Lib.hid (HOts3.out.below hb)
  have HOx4 := Lib.hid (HOx3.out.below hb)
  have HOy4 := Lib.hid (HOy3.out.below hb)
  have HB4 := Lib.hid (bl_trans HB3.out hb)
  clear hb HOts3 HOx3 HOy3 HB3
  cases hs : setB ts
  ·
    go_wp2_with fail
    refine (iSetValid_any w4 Ats _ cts ts HOts4.out.reads.2 (by omega)).mono ?_
    rintro e w5 ⟨rfl, hb⟩
    have HOts5 := Lib.hid (HOts4.out.below hb)
    have HOx5 := Lib.hid (HOx4.out.below hb)
    have HOy5 := Lib.hid (HOy4.out.below hb)
    have HB5 := Lib.hid (bl_trans HB4.out hb)
    clear hb HOts4 HOx4 HOy4 HB4
    go_wp2_with fail
    refine (sCriticalOf_is w5 Ats _ cts ts us HUS.out HOts5.out.reads.2 (by omega)).mono ?_
    rintro e w6 ⟨Az, cz, rfl, ho, hb⟩
    have HOz6 := Lib.hid (show Own w6 w.heap.size _ _ from own_more ho HB5.out.size)
    clear ho
    have HOts6 := Lib.hid (HOts5.out.below hb)
    have HOx6 := Lib.hid (HOx5.out.below hb)
    have HOy6 := Lib.hid (HOy5.out.below hb)
    have HB6 := Lib.hid (bl_trans HB5.out hb)
    clear hb HOts5 HOx5 HOy5 HB5
    go_wp2_with fail
    refine (dmTasks_any w6 Ax Az _ cx cz us HOx6.out.reads.2 HOz6.out.reads.2 (by omega)).mono ?_
    rintro e w7 ⟨rfl, hb⟩
    have HOts7 := Lib.hid (HOts6.out.below hb)
    have HOx7 := Lib.hid (HOx6.out.below hb)
    have HOy7 := Lib.hid (HOy6.out.below hb)
    have HOz7 := Lib.hid (HOz6.out.below hb)
    have HB7 := Lib.hid (bl_trans HB6.out hb)
    clear hb HOts6 HOx6 HOy6 HOz6 HB6
    go_wp2
    go_ret
    exact ⟨rfl, HB7.out⟩
  · have hlt5 := setB_len hs
    go_wp2_with fail
    refine (iSetValid_any w4 Ats _ cts ts HOts4.out.reads.2 (by omega)).mono ?_
    rintro e w5 ⟨rfl, hb⟩
    have HOts5 := Lib.hid (HOts4.out.below hb)
    have HOx5 := Lib.hid (HOx4.out.below hb)
    have HOy5 := Lib.hid (HOy4.out.below hb)
    have HB5 := Lib.hid (bl_trans HB4.out hb)
    clear hb HOts4 HOx4 HOy4 HB4
    obtain ⟨m, hm⟩ : ∃ m, m = hyperOf ts := ⟨_, rfl⟩
    obtain ⟨q, hq⟩ : ∃ q, q = hyperOf us := ⟨_, rfl⟩
    obtain ⟨q1, q2, q3⟩ := crit_hyper hs HUS.out hm hq
    have HM := Lib.hid hm
    have HQ := Lib.hid hq
    clear hm hq
    go_wp2_with fail
    refine (iHyperOf_is w5 Ats _ cts ts m HM.out HOts5.out.reads.2 (by omega)).mono ?_
    rintro e w6 ⟨rfl, hb⟩
    have HOts6 := Lib.hid (HOts5.out.below hb)
    have HOx6 := Lib.hid (HOx5.out.below hb)
    have HOy6 := Lib.hid (HOy5.out.below hb)
    have HB6 := Lib.hid (bl_trans HB5.out hb)
    clear hb HOts5 HOx5 HOy5 HB5
    go_wp2_with fail
    refine (iHyperOf_is w6 Ax _ cx us q HQ.out HOx6.out.reads.2 (by omega)).mono ?_
    rintro e w7 ⟨rfl, hb⟩
    have HOts7 := Lib.hid (HOts6.out.below hb)
    have HOx7 := Lib.hid (HOx6.out.below hb)
    have HOy7 := Lib.hid (HOy6.out.below hb)
    have HB7 := Lib.hid (bl_trans HB6.out hb)
    clear hb HOts6 HOx6 HOy6 HB6
    have hz : ((m : Int) % (q : Int) == 0) = true := by rw [beq_iff_eq]; exact_mod_cast Nat.mod_eq_zero_of_dvd q3
    go_wp2
    go_ret
    exact ⟨rfl, HB7.out⟩

set_option maxHeartbeats 2000000 in
theorem fnHyperMore_walk (w : World) (A : Option Addr) (n c : Nat) (f : Nat → Int) (h : Code w w.heap.size A n c f) :
    Calls Try.prog 5 #[.slice A n c] w fun e w' => e = .returned (.bool true) ∧ Below w.heap.size w w' := by
  have H := Lib.hid h
  have hle := h.le
  have hmax := h.max
  unfold maxLen at hmax
  clear h
  by_cases hn : 1048576 < n
  · go_enter Try.func5, Try.ntmps5
    go_wp2
    go_ret
    exact ⟨rfl, Below.refl _ _⟩
  go_enter Try.func5, Try.ntmps5
  go_wp2_with fail
  refine (dDrawHyperOf_any _ A n c f H.out).mono ?_
  rintro e w1 ⟨Ats, cts, ts, rfl, hlts, hgts, ho, hb⟩
  have HGts := Lib.hid hgts
  have HOts1 := Lib.hid ho
  have HB1 := Lib.hid hb
  clear ho hb hgts H
  obtain ⟨m, hm⟩ : ∃ m, m = hyperOf ts := ⟨_, rfl⟩
  have hmb : m ≤ 3200000 := by rw [hm]; exact hyper_le ts
  have HM := Lib.hid hm
  clear hm
  go_wp2_with fail
  refine (iHyperOf_is w1 Ats _ cts ts m HM.out HOts1.out.reads.2 (by omega)).mono ?_
  rintro e w2 ⟨rfl, hb⟩
  have HOts2 := Lib.hid (HOts1.out.below hb)
  have HB2 := Lib.hid (bl_trans HB1.out hb)
  clear hb HOts1 HB1
  go_wp2_with fail
  refine (sHyperOf_is w2 Ats _ cts ts m HM.out HOts2.out.reads.2 (by omega)).mono ?_
  rintro e w3 ⟨rfl, hb⟩
  have HOts3 := Lib.hid (HOts2.out.below hb)
  have HB3 := Lib.hid (bl_trans HB2.out hb)
  clear hb HOts2 HB2
  by_cases h0 : m = 0
  · have h0' : ((m : Int) == 0) = true := by simp [h0]
    clear h0
    go_wp2_with fail
    refine (sHyperOf_is w3 Ats _ cts ts m HM.out HOts3.out.reads.2 (by omega)).mono ?_
    rintro e w4 ⟨rfl, hb⟩
    have HOts4 := Lib.hid (HOts3.out.below hb)
    have HB4 := Lib.hid (bl_trans HB3.out hb)
    clear hb HOts3 HB3
    go_wp2
    go_ret
    exact ⟨rfl, HB4.out⟩
  have h0' : ((m : Int) == 0) = false := by simp [h0]
  by_cases hl0 : ts.length = 0
  · have hl0' : ((ts.length : Int) == 0) = true := by simp [hl0]
    clear hl0
    go_wp2_with fail
    refine (sHyperOf_is w3 Ats _ cts ts m HM.out HOts3.out.reads.2 (by omega)).mono ?_
    rintro e w4 ⟨rfl, hb⟩
    have HOts4 := Lib.hid (HOts3.out.below hb)
    have HB4 := Lib.hid (bl_trans HB3.out hb)
    clear hb HOts3 HB3
    go_wp2
    go_ret
    exact ⟨rfl, HB4.out⟩
  have hl0' : ((ts.length : Int) == 0) = false := by simp [hl0]
  have hl1 : 1 ≤ ts.length := by omega
  have hs : setB ts = true := by
    cases h : setB ts
    · exact absurd (by rw [HM.out]; simp [hyperOf, h]) h0
    · rfl
  obtain ⟨hh, rfl, hcap1, hcap2⟩ := own_cap HOts3.out hl1
  unfold maxLen at hcap2
  obtain ⟨q, hq⟩ : ∃ q, q = hyperOf ts.tail := ⟨_, rfl⟩
  obtain ⟨q1, q2, q3⟩ := tail_hyper hs HM.out hq
  have HQ := Lib.hid hq
  clear hq hl0 h0
  have HS := Lib.hid hs
  clear hs
  have hz : ((m : Int) % (q : Int) == 0) = true := by rw [beq_iff_eq]; exact_mod_cast Nat.mod_eq_zero_of_dvd q3
  have htl : ts.tail.length = ts.length - 1 := by simp
  have HT := Lib.hid htl
  clear htl
  by_cases hc1 : cts = 1
  · subst hc1
    go_wp2_with fail
    refine (iHyperOf_is w3 _ _ _ ts.tail q HQ.out (tail_one HOts3.out) (by omega)).mono ?_
    rintro e w9 ⟨rfl, hb⟩
    have HB9 := Lib.hid (bl_trans HB3.out hb)
    clear hb
    go_wp2
    go_ret
    exact ⟨rfl, HB9.out⟩
  · go_wp2_with fail
    refine (iHyperOf_is w3 _ _ _ ts.tail q HQ.out (tail_more HOts3.out) (by omega)).mono ?_
    rintro e w9 ⟨rfl, hb⟩
    have HB9 := Lib.hid (bl_trans HB3.out hb)
    clear hb
    go_wp2
    go_ret
    exact ⟨rfl, HB9.out⟩

set_option maxHeartbeats 2000000 in
theorem fnHyperLeast_walk (w : World) (A : Option Addr) (n c : Nat) (f : Nat → Int) (h : Code w w.heap.size A n c f) :
    Calls Try.prog 4 #[.slice A n c] w fun e w' => e = .returned (.bool true) ∧ Below w.heap.size w w' := by
  have H := Lib.hid h
  have hle := h.le
  have hmax := h.max
  unfold maxLen at hmax
  clear h
  by_cases hn : 1048576 < n
  · go_enter Try.func4, Try.ntmps4
    go_wp2
    go_ret
    exact ⟨rfl, Below.refl _ _⟩
  go_enter Try.func4, Try.ntmps4
  go_wp2_with fail
  refine (dDrawHyperOf_any _ A n c f H.out).mono ?_
  rintro e w1 ⟨Ats, cts, ts, rfl, hlts, hgts, ho, hb⟩
  have HGts := Lib.hid hgts
  have HOts1 := Lib.hid ho
  have HB1 := Lib.hid hb
  clear ho hb hgts H
  obtain ⟨m, hm⟩ : ∃ m, m = hyperOf ts := ⟨_, rfl⟩
  have hmb : m ≤ 3200000 := by rw [hm]; exact hyper_le ts
  have HM := Lib.hid hm
  clear hm
  go_wp2_with fail
  refine (iHyperOf_is w1 Ats _ cts ts m HM.out HOts1.out.reads.2 (by omega)).mono ?_
  rintro e w2 ⟨rfl, hb⟩
  have HOts2 := Lib.hid (HOts1.out.below hb)
  have HB2 := Lib.hid (bl_trans HB1.out hb)
  clear hb HOts1 HB1
  go_wp2_with fail
  refine (sHyperOf_is w2 Ats _ cts ts m HM.out HOts2.out.reads.2 (by omega)).mono ?_
  rintro e w3 ⟨rfl, hb⟩
  have HOts3 := Lib.hid (HOts2.out.below hb)
  have HB3 := Lib.hid (bl_trans HB2.out hb)
  clear hb HOts2 HB2
  by_cases h2 : m < 2
  ·
    go_wp2_with fail
    refine (sHyperOf_is w3 Ats _ cts ts m HM.out HOts3.out.reads.2 (by omega)).mono ?_
    rintro e w4 ⟨rfl, hb⟩
    have HOts4 := Lib.hid (HOts3.out.below hb)
    have HB4 := Lib.hid (bl_trans HB3.out hb)
    clear hb HOts3 HB3
    go_wp2
    go_ret
    exact ⟨rfl, HB4.out⟩
  by_cases h4 : 400 < m
  ·
    go_wp2_with fail
    refine (sHyperOf_is w3 Ats _ cts ts m HM.out HOts3.out.reads.2 (by omega)).mono ?_
    rintro e w4 ⟨rfl, hb⟩
    have HOts4 := Lib.hid (HOts3.out.below hb)
    have HB4 := Lib.hid (bl_trans HB3.out hb)
    clear hb HOts3 HB3
    go_wp2
    go_ret
    exact ⟨rfl, HB4.out⟩
  have hs : setB ts = true := by
    cases h : setB ts
    · exact absurd (by rw [HM.out]; simp [hyperOf, h]) (show ¬ m = 0 by omega)
    · rfl
  have HS := Lib.hid hs
  clear hs
  go_wp2
  go_loop [5] (fun i => ∃ k : Nat, 1 ≤ k ∧ k ≤ m ∧ i = .int .i64 k) (fun i => m - (intOf i).toNat)
  case atStart => exact ⟨1, Nat.le_refl _, by omega, rfl⟩
  case round =>
    obtain ⟨k, hk1, hk, rfl⟩ := hrel
    by_cases hlt : k < m
    · have HF : Hid (allD k ts = false) := hyper_least HS.out HM.out hk1 hlt
      go_wp2
      go_loop [6, 7] (fun a i => ∃ j : Nat, j ≤ ts.length ∧ i = .int .i64 j ∧ a = .bool (allD k (ts.take j))) (fun _ i => ts.length - (intOf i).toNat)
      case atStart => exact ⟨0, Nat.zero_le _, rfl, rfl⟩
      case round =>
        obtain ⟨j, hj, rfl, rfl⟩ := hrel
        by_cases hlt' : j < ts.length
        · obtain ⟨t, ht⟩ : ∃ t, ts[j]? = some t := ⟨ts[j], List.getElem?_eq_getElem hlt'⟩
          obtain ⟨b, o, rfl, hbl, c0, c1, c2, c3, c4⟩ := HOts3.out.reads.2.at_ j t ht
          obtain ⟨e1, e2⟩ := ev_bound HS.out ht
          have hA := allD_take (k := k) ht e1
          obtain ⟨lo, hi, du, ev, cr⟩ := t
          dsimp only at c0 c1 c2 c3 c4 e1 e2 hA
          have HA := Lib.hid hA
          clear ht hA
          cases hv : allD k (ts.take j)
          · go_wp2
            go_round
            case rel => exact ⟨j + 1, by omega, by go_num, by rw [HA.out, hv]; rfl⟩
            case measure => simp [intOf]; omega
          · go_wp2
            go_round
            case rel => exact ⟨j + 1, by omega, by go_num, by rw [HA.out, hv]; simp⟩
            case measure => simp [intOf]; omega
        · obtain rfl : j = ts.length := by omega
          have hv : allD k ts = false := HF.out
          rw [List.take_length, hv]
          clear hv
          go_wp2
          go_round
          case rel => exact ⟨k + 1, by omega, by omega, by go_num⟩
          case measure => simp [intOf]; omega
    · obtain rfl : k = m := by omega
      go_wp2
      go_ret
      exact ⟨rfl, HB3.out⟩

end Go.Proofs.Ytbaecbibkmdbiaa
