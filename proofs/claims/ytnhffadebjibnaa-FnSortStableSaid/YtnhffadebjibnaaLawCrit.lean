/- The walks of the laws on critical tasks. -/
import Derived.Test.YtnhffadebjibnaaDraws
import Derived.Test.YtnhffadebjibnaaCrit
import Derived.Test.YtnhffadebjibnaaSame
namespace Go.Proofs.Ytnhffadebjibnaa
open Go.RowKit

theorem own_more {w : World} {B B' : Nat} {v : Value} {ts : List Tk} (h : Own w B v ts) (hB : B' ≤ B) : Own w B' v ts := by
  refine ⟨h.1, ?_⟩
  rcases h.2 with h | ⟨g, cap, cur, e, hb, rest⟩
  · exact .inl h
  · exact .inr ⟨g, cap, cur, e, Nat.le_trans hB hb, rest⟩

theorem iCriticalOf_is (w : World) (A : Option Addr) (n c : Nat) (ts us : List Tk) (hu : us = critOf ts) (h : Tks w w.heap.size A n ts) (hn : n ≤ 1048576) :
    Calls Try.prog 26 #[.slice A n c] w (LsRes us w) := by subst hu; exact iCriticalOf_any w A n c ts h hn
theorem sCriticalOf_is (w : World) (A : Option Addr) (n c : Nat) (ts us : List Tk) (hu : us = critOf ts) (h : Tks w w.heap.size A n ts) (hn : n ≤ 1048576) :
    Calls Try.prog 27 #[.slice A n c] w (LsRes us w) := by subst hu; exact sCriticalOf_any w A n c ts h hn

theorem critOf_len (ts : List Tk) : (critOf ts).length ≤ ts.length := by
  unfold critOf; split
  · exact critL_len ts
  · simp

theorem ok_crit {t : Tk} (h : t.ok = true) : Tk.ok ⟨t.hi, t.hi, t.du, t.ev, t.cr⟩ = true := by
  unfold Tk.ok validB at *
  simp at h ⊢
  omega

theorem critL_mem {ts : List Tk} {t : Tk} (h : t ∈ critL ts) : ∃ u ∈ ts, u.cr = true ∧ t = ⟨u.hi, u.hi, u.du, u.ev, u.cr⟩ := by
  unfold critL at h
  rw [List.mem_map] at h
  obtain ⟨u, hu, rfl⟩ := h
  rw [List.mem_filter] at hu
  exact ⟨u, hu.1, hu.2, rfl⟩

theorem crit_facts {ts us : List Tk} (hs : setB ts = true) (hu : us = critOf ts) : setB us = true ∧ critOf us = us ∧ us.length ≤ ts.length ∧ ∀ t ∈ us, t.cr = true ∧ t.lo = t.hi := by
  have e : us = critL ts := by rw [hu]; simp [critOf, hs]
  have hall : ∀ t ∈ us, t.cr = true ∧ t.lo = t.hi := fun t ht => by
    rw [e] at ht
    obtain ⟨u, _, h2, rfl⟩ := critL_mem ht
    exact ⟨h2, rfl⟩
  have hsu : setB us = true := by
    unfold setB at hs ⊢
    simp at hs ⊢
    refine ⟨by rw [e]; exact Nat.le_trans (critL_len ts) hs.1, fun t ht => ?_⟩
    rw [e] at ht
    obtain ⟨u, hu, _, rfl⟩ := critL_mem ht
    exact ok_crit (hs.2 u hu)
  refine ⟨hsu, ?_, by rw [e]; exact critL_len ts, hall⟩
  have e1 : critOf us = critL us := by simp [critOf, hsu]
  rw [e1]
  clear e e1 hsu hu hs
  induction us with
  | nil => rfl
  | cons t us ih =>
    obtain ⟨a, b⟩ := hall t (by simp)
    have := ih (fun t ht => hall t (by simp [ht]))
    unfold critL at this ⊢
    rw [List.filter_cons, a]
    simp only [if_true, List.map_cons, this]
    obtain ⟨lo, hi, du, ev, cr⟩ := t
    simp at a b
    subst b
    rfl

set_option maxHeartbeats 2000000 in
theorem fnCriticalOf_walk (w : World) (A : Option Addr) (n c : Nat) (f : Nat → Int) (h : Code w w.heap.size A n c f) :
    Calls Try.prog 4 #[.slice A n c] w fun e w' => e = .returned (.bool true) ∧ Below w.heap.size w w' := by
  have H := Lib.hid h
  have hle := h.le
  have hmax := h.max
  unfold maxLen at hmax
  clear h
  by_cases hn : 1048576 < n
  · go_enter Try.func4, Try.ntmps4
    go_wp2
    go_ret
    exact ⟨rfl, Below.refl _ _⟩
  go_enter Try.func4, Try.ntmps4
  go_wp2_with fail
  refine (dDrawCriticalOf_any _ A n c f H.out).mono ?_
  rintro e w1 ⟨Ats, cts, ts, rfl, hlts, hgts, ho, hb⟩
  have HGts := Lib.hid hgts
  have HOts1 := Lib.hid ho
  have HB1 := Lib.hid hb
  clear ho hb hgts H
  have hlc := critOf_len ts
  obtain ⟨us, hus⟩ : ∃ us, us = critOf ts := ⟨_, rfl⟩
  have hlu : us.length ≤ 6 := by rw [hus]; omega
  have HUS := Lib.hid hus
  clear hus hlc
  go_wp2_with fail
  refine (iCriticalOf_is w1 Ats _ cts ts us HUS.out HOts1.out.reads.2 (by omega)).mono ?_
  rintro e w2 ⟨Ax, cx, rfl, ho, hb⟩
  have HOx2 := Lib.hid (show Own w2 w.heap.size _ _ from own_more ho HB1.out.size)
  clear ho
  have HOts2 := Lib.hid (HOts1.out.below hb)
  have HB2 := Lib.hid (bl_trans HB1.out hb)
  clear hb HOts1 HB1
  go_wp2_with fail
  refine (sCriticalOf_is w2 Ats _ cts ts us HUS.out HOts2.out.reads.2 (by omega)).mono ?_
  rintro e w3 ⟨Ay, cy, rfl, ho, hb⟩
  have HOy3 := Lib.hid (show Own w3 w.heap.size _ _ from own_more ho HB2.out.size)
  clear ho
  have HOts3 := Lib.hid (HOts2.out.below hb)
  have HOx3 := Lib.hid (HOx2.out.below hb)
  have HB3 := Lib.hid (bl_trans HB2.out hb)
  clear hb HOts2 HOx2 HB2
  go_wp2_with fail
  refine (dmTasks_any w3 Ax Ay _ cx cy us HOx3.out.reads.2 HOy3.out.reads.2 (by omega)).mono ?_
  rintro e w4 ⟨rfl, hb⟩
  have HOts4 := Lib.hid (HOts3.out.below hb)
  have HOx4 := Lib.hid (HOx3.out.below hb)
  have HOy4 := Lib.hid (HOy3.out.below hb)
  have HB4 := Lib.hid (bl_trans HB3.out hb)
  clear hb HOts3 HOx3 HOy3 HB3
  cases hs : setB ts
  · obtain rfl : us = [] := by rw [HUS.out]; simp [critOf, hs]
    go_wp2_with fail
    refine (iSetValid_any w4 Ats _ cts ts HOts4.out.reads.2 (by omega)).mono ?_
    rintro e w5 ⟨rfl, hb⟩
    have HOts5 := Lib.hid (HOts4.out.below hb)
    have HOx5 := Lib.hid (HOx4.out.below hb)
    have HOy5 := Lib.hid (HOy4.out.below hb)
    have HB5 := Lib.hid (bl_trans HB4.out hb)
    clear hb HOts4 HOx4 HOy4 HB4
    go_wp2_with fail
    refine (sCriticalOf_is w5 Ats _ cts ts [] HUS.out HOts5.out.reads.2 (by omega)).mono ?_
    rintro e w6 ⟨Az, cz, rfl, ho, hb⟩
    have HOz6 := Lib.hid (show Own w6 w.heap.size _ _ from own_more ho HB5.out.size)
    clear ho
    have HOts6 := Lib.hid (HOts5.out.below hb)
    have HOx6 := Lib.hid (HOx5.out.below hb)
    have HOy6 := Lib.hid (HOy5.out.below hb)
    have HB6 := Lib.hid (bl_trans HB5.out hb)
    clear hb HOts5 HOx5 HOy5 HB5
    go_wp2_with fail
    refine (dmTasks_any w6 Ax Az _ cx cz [] HOx6.out.reads.2 HOz6.out.reads.2 (by omega)).mono ?_
    rintro e w7 ⟨rfl, hb⟩
    have HOts7 := Lib.hid (HOts6.out.below hb)
    have HOx7 := Lib.hid (HOx6.out.below hb)
    have HOy7 := Lib.hid (HOy6.out.below hb)
    have HOz7 := Lib.hid (HOz6.out.below hb)
    have HB7 := Lib.hid (bl_trans HB6.out hb)
    clear hb HOts6 HOx6 HOy6 HOz6 HB6
    go_wp2
    go_ret
    exact ⟨rfl, HB7.out⟩
  · obtain ⟨p1, p2, p3, p4⟩ := crit_facts hs HUS.out
    have P4 := Lib.hid p4
    have P2 := Lib.hid p2
    clear p4 p2
    go_wp2_with fail
    refine (iSetValid_any w4 Ats _ cts ts HOts4.out.reads.2 (by omega)).mono ?_
    rintro e w5 ⟨rfl, hb⟩
    have HOts5 := Lib.hid (HOts4.out.below hb)
    have HOx5 := Lib.hid (HOx4.out.below hb)
    have HOy5 := Lib.hid (HOy4.out.below hb)
    have HB5 := Lib.hid (bl_trans HB4.out hb)
    clear hb HOts4 HOx4 HOy4 HB4
    go_wp2
    have HS := Lib.hid hs
    clear hs
    go_loopw [5] (fun i wr => ∃ k : Nat, k ≤ us.length ∧ i = .int .i64 k ∧ Own wr w.heap.size (.slice Ats ts.length cts) ts ∧ Own wr w.heap.size (.slice Ax us.length cx) us ∧ Below w.heap.size w wr) (fun i _ => us.length - (intOf i).toNat)
    case atStart => exact ⟨0, Nat.zero_le _, rfl, HOts5.out, HOx5.out, HB5.out⟩
    case round =>
      obtain ⟨k, hk, rfl, ho1, ho2, hb⟩ := hrel
      clear HOts5 HOx5 HOy5 HB5
      obtain ⟨w6, rfl⟩ : ∃ w6 : World, w6 = wr := ⟨_, rfl⟩
      have HOts6 := Lib.hid ho1
      have HOx6 := Lib.hid ho2
      have HB6 := Lib.hid hb
      clear ho1 ho2 hb
      by_cases hlt : k < us.length
      · obtain ⟨t, ht⟩ : ∃ t, us[k]? = some t := ⟨us[k], List.getElem?_eq_getElem hlt⟩
        obtain ⟨q1, q2⟩ := P4.out t (List.mem_of_getElem? ht)
        obtain ⟨b, o, rfl, hbl, c0, c1, c2, c3, c4⟩ := HOx6.out.reads.2.at_ k t ht
        obtain ⟨lo, hi, du, ev, cr⟩ := t
        dsimp only at c0 c1 c2 c3 c4 q1 q2
        subst q1 q2
        clear ht
        have i1 : (0 : Int) ≤ (k : Int) := by omega
        have i2 : (k : Int) < (us.length : Int) := by omega
        go_wp2
        go_quiet (fail)
        go_wp2
        go_roundw
        case rel => exact ⟨k + 1, by omega, by go_num, HOts6.out, HOx6.out, bl_drewN HB6.out _⟩
        case measure => simp [intOf]; omega
      · obtain rfl : k = us.length := by omega
        go_wp2_with fail
        refine (iSetValid_any w6 Ax _ cx us HOx6.out.reads.2 (by omega)).mono ?_
        rintro e w7 ⟨rfl, hb⟩
        have HOts7 := Lib.hid (HOts6.out.below hb)
        have HOx7 := Lib.hid (HOx6.out.below hb)
        have HB7 := Lib.hid (bl_trans HB6.out hb)
        clear hb HOts6 HOx6 HB6
        go_wp2_with fail
        refine (iCriticalOf_is w7 Ax _ cx us us P2.out.symm HOx7.out.reads.2 (by omega)).mono ?_
        rintro e w8 ⟨Av, cv, rfl, ho, hb⟩
        have HOv8 := Lib.hid (show Own w8 w.heap.size _ _ from own_more ho HB7.out.size)
        clear ho
        have HOts8 := Lib.hid (HOts7.out.below hb)
        have HOx8 := Lib.hid (HOx7.out.below hb)
        have HB8 := Lib.hid (bl_trans HB7.out hb)
        clear hb HOts7 HOx7 HB7
        go_wp2_with fail
        refine (dmTasks_any w8 Av Ax _ cv cx us HOv8.out.reads.2 HOx8.out.reads.2 (by omega)).mono ?_
        rintro e w9 ⟨rfl, hb⟩
        have HOts9 := Lib.hid (HOts8.out.below hb)
        have HOx9 := Lib.hid (HOx8.out.below hb)
        have HOv9 := Lib.hid (HOv8.out.below hb)
        have HB9 := Lib.hid (bl_trans HB8.out hb)
        clear hb HOts8 HOx8 HOv8 HB8
        go_wp2
        go_ret
        exact ⟨rfl, HB9.out⟩

end Go.Proofs.Ytnhffadebjibnaa
