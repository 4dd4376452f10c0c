/- Contracts of ResponseHigh, in the program and in the reference. Nothing that was there is written. -/
import Derived.Test.YtobkbbgllapcoabSRLow
import Derived.Test.YtobkbbgllapcoabRespU
import Derived.Test.YtobkbbgllapcoabLawCrit
namespace Go.Proofs.Ytobkbbgllapcoab
open Go.RowKit
set_option linter.unusedVariables false

theorem own_le {w : World} {B c : Nat} {A : Option Addr} {ts : List Tk} (h : Own w B (.slice A ts.length c) ts) : ts.length ≤ c := by
  rcases h.2 with ⟨e, h0⟩ | ⟨g, cap, cur, e, _, _, h1, h2, _⟩
  · omega
  · injection e with e1 e2 e3
    subst e3
    exact h1
theorem has_no {ts : List Tk} {n : Nat} {a : Int} (hl : ts.length = n) (h : (setB ts && (decide (0 ≤ a) && decide (a < (n : Int)))) = false) (f : Nat → Option Nat) (hb : ∀ k, setB ts = false → f k = none) (hp : ∀ k, ts[k]? = none → f k = none) : atI f a = none := by
  unfold atI
  split
  · rename_i h0
    cases hs : setB ts
    · exact hb _ hs
    · rw [hs, Bool.true_and, decide_eq_true h0, Bool.true_and] at h
      have h1 : ¬ a < (n : Int) := of_decide_eq_false h
      exact hp _ (List.getElem?_eq_none (by omega))
  · rfl

set_option maxRecDepth 100000 in
set_option maxHeartbeats 2000000 in
theorem iRHigh_is (w : World) (A : Option Addr) (n c : Nat) (ts : List Tk) (a : Int) (h : Tks w w.heap.size A n ts) (hn : n ≤ 1048576) (hnc : n ≤ c) (v : Nat) (b : Bool) (hv : resN (atI (rHigh ts) a) = (v, b)) :
    Calls Try.prog 35 #[.slice A n c, .int .i64 a] w (NbRes v b w) := by
  have H := Lib.hid h
  have HL := Lib.hid h.len
  clear h
  cases hh : (setB ts && (decide (0 ≤ a) && decide (a < (n : Int))))
  · rw [has_no HL.out hh (rHigh ts) (fun k hs => rHigh_bad k hs) (fun k hp => rHigh_past hp)] at hv
    obtain ⟨rfl, rfl⟩ := Prod.mk.inj hv
    have HH := Lib.hid hh
    clear hv hh
    go_enter Try.func35, Try.ntmps35
    go_wp2_with (go_at_call 63; refine (iHas_is _ A n c ts a H.out hn false HH.out).mono ?_; rintro e w1 ⟨rfl, hb⟩)
    go_ret2
    exact ⟨rfl, hb⟩
  have HH := Lib.hid hh
  rw [Bool.and_eq_true, Bool.and_eq_true, decide_eq_true_iff, decide_eq_true_iff] at hh
  obtain ⟨hs, h0, h1⟩ := hh
  obtain ⟨k, rfl⟩ := Int.eq_ofNat_of_zero_le h0
  have hk : k < n := by omega
  obtain ⟨t, ht⟩ := get_at HL.out hk
  have hr : atI (rHigh ts) (k : Int) = rHigh ts k := by unfold atI; rw [if_pos h0]; rfl
  rw [hr] at hv
  obtain ⟨bb, o, rfl, hbl, _⟩ := H.out.at_ k _ ht
  have h5 := setB_len hs
  have HT := Lib.hid ht
  have HS := Lib.hid hs
  cases hc : t.cr
  · rw [rHigh_not ht hc] at hv
    obtain ⟨rfl, rfl⟩ := Prod.mk.inj hv
    clear hv hr ht hs
    go_enter Try.func35, Try.ntmps35
    go_wp2_with fail
    refine (iHas_is _ _ n c ts (k : Int) H.out hn true HH.out).mono ?_
    rintro e w1 ⟨rfl, hb⟩
    have HB1 := Lib.hid hb
    have hsz := hb.size
    have C1 := (Tks.get (H.out.below hb) HT.out).2.c4
    rw [hc] at C1
    have i1 : (k : Int) < (n : Int) := h1
    clear hb
    go_wp2
    go_ret2
    exact ⟨rfl, HB1.out⟩
  rw [rHigh_at hs ht hc] at hv
  obtain ⟨us, hus⟩ : ∃ us, us = critL ts := ⟨_, rfl⟩
  obtain ⟨ks, hks⟩ : ∃ ks, ks = critL (ts.take k) := ⟨_, rfl⟩
  have hul : us.length ≤ 5 := by rw [hus]; exact Nat.le_trans (critL_len ts) h5
  have hkl : ks.length < us.length := by
    have := crit_at ht hc
    rw [← hus, ← hks] at this
    exact (List.getElem?_eq_some_iff.1 this).1
  rw [← hus, ← hks] at hv
  have HV : Hid (resN (atI (rLow us) (ks.length : Int)) = (v, b)) := by
    show resN (atI (rLow us) (ks.length : Int)) = (v, b)
    rw [← hv]
    unfold atI
    rw [if_pos (by omega)]; rfl
  have HU : Hid (us = critOf ts) := by show us = _; rw [hus, critOf_set hs]
  have HK : Hid (ks = critOf (ts.take k)) := by show ks = _; rw [hks, critOf_set (set_take hs k)]
  clear hv hr ht hs hus hks
  go_enter Try.func35, Try.ntmps35
  go_wp2_with fail
  refine (iHas_is _ _ n c ts (k : Int) H.out hn true HH.out).mono ?_
  rintro e w1 ⟨rfl, hb⟩
  have HB1 := Lib.hid hb
  have hsz := hb.size
  have C1 := (Tks.get (H.out.below hb) HT.out).2.c4
  rw [hc] at C1
  have i1 : (k : Int) < (n : Int) := h1
  have i2 : (k : Int) ≤ (c : Int) := by omega
  have i3 : ¬ (c : Int) < (k : Int) := by omega
  clear hb
  go_wp2_with fail
  refine (iCriticalOf_is w1 (some ⟨bb, o, none⟩) k c (ts.take k) ks HK.out (Tks.take ((H.out.below HB1.out).more HB1.out.size) (by omega)) (by omega)).mono ?_
  rintro e w2 ⟨A2, c2, rfl, ho2, hb⟩
  have HB2 := Lib.hid (bl_trans HB1.out hb)
  clear hb ho2 C1
  go_wp2_with fail
  refine (iCriticalOf_is w2 _ n c ts us HU.out ((H.out.below HB2.out).more HB2.out.size) (by omega)).mono ?_
  rintro e w3 ⟨A3, c3, rfl, ho3, hb⟩
  have HB3 := Lib.hid (bl_trans HB2.out hb)
  have HO3 := Lib.hid ho3.reads.2
  have hle3 := own_le ho3
  clear hb ho3
  go_wp2_with fail
  refine (iRLow_is w3 A3 _ c3 us (ks.length : Int) HO3.out (by omega) hle3 v b HV.out).mono ?_
  rintro e w4 ⟨rfl, hb⟩
  have HB4 := Lib.hid (bl_trans HB3.out hb)
  clear hb
  go_wp2
  go_ret2
  exact ⟨rfl, HB4.out⟩

set_option maxRecDepth 100000 in
set_option maxHeartbeats 2000000 in
theorem sRHigh_is (w : World) (A : Option Addr) (n c : Nat) (ts : List Tk) (a : Int) (h : Tks w w.heap.size A n ts) (hn : n ≤ 1048576) (v : Nat) (b : Bool) (hv : resN (atI (rHigh ts) a) = (v, b)) :
    Calls Try.prog 34 #[.slice A n c, .int .i64 a] w (NbRes v b w) := by
  have H := Lib.hid h
  have HL := Lib.hid h.len
  clear h
  cases hh : (setB ts && (decide (0 ≤ a) && decide (a < (n : Int))))
  · rw [has_no HL.out hh (rHigh ts) (fun k hs => rHigh_bad k hs) (fun k hp => rHigh_past hp)] at hv
    obtain ⟨rfl, rfl⟩ := Prod.mk.inj hv
    have HH := Lib.hid hh
    clear hv hh
    go_enter Try.func34, Try.ntmps34
    go_wp2_with (go_at_call 62; refine (sAt_is _ A n c ts a H.out hn false HH.out).mono ?_; rintro e w1 ⟨rfl, hb⟩)
    go_ret2
    exact ⟨rfl, hb⟩
  have HH := Lib.hid hh
  rw [Bool.and_eq_true, Bool.and_eq_true, decide_eq_true_iff, decide_eq_true_iff] at hh
  obtain ⟨hs, h0, h1⟩ := hh
  obtain ⟨k, rfl⟩ := Int.eq_ofNat_of_zero_le h0
  have hk : k < n := by omega
  obtain ⟨t, ht⟩ := get_at HL.out hk
  have hr : atI (rHigh ts) (k : Int) = rHigh ts k := by unfold atI; rw [if_pos h0]; rfl
  rw [hr] at hv
  obtain ⟨bb, o, rfl, hbl, _⟩ := H.out.at_ k _ ht
  have h5 := setB_len hs
  have HT := Lib.hid ht
  have HS := Lib.hid hs
  cases hc : t.cr
  · rw [rHigh_not ht hc] at hv
    obtain ⟨rfl, rfl⟩ := Prod.mk.inj hv
    clear hv hr ht hs
    go_enter Try.func34, Try.ntmps34
    go_wp2_with fail
    refine (sAt_is _ _ n c ts (k : Int) H.out hn true HH.out).mono ?_
    rintro e w1 ⟨rfl, hb⟩
    have HB1 := Lib.hid hb
    have hsz := hb.size
    have C1 := (Tks.get (H.out.below hb) HT.out).2.c4
    rw [hc] at C1
    have i1 : (k : Int) < (n : Int) := h1
    clear hb
    go_wp2
    go_ret2
    exact ⟨rfl, HB1.out⟩
  rw [rHigh_at hs ht hc] at hv
  obtain ⟨us, hus⟩ : ∃ us, us = critL ts := ⟨_, rfl⟩
  have hul : us.length ≤ 5 := by rw [hus]; exact Nat.le_trans (critL_len ts) h5
  rw [← hus] at hv
  have HV : Hid (resN (atI (rLow us) ((critL (ts.take k)).length : Int)) = (v, b)) := by
    show resN (atI (rLow us) ((critL (ts.take k)).length : Int)) = (v, b)
    rw [← hv]
    unfold atI
    rw [if_pos (by omega)]; rfl
  have HU : Hid (us = critOf ts) := by show us = _; rw [hus, critOf_set hs]
  clear hv hr ht hs hus
  go_enter Try.func34, Try.ntmps34
  go_wp2_with fail
  refine (sAt_is _ _ n c ts (k : Int) H.out hn true HH.out).mono ?_
  rintro e w1 ⟨rfl, hb⟩
  have HB1 := Lib.hid hb
  have hsz := hb.size
  have C1 := (Tks.get (H.out.below hb) HT.out).2.c4
  rw [hc] at C1
  have i1 : (k : Int) < (n : Int) := h1
  clear hb
  go_wp2_with fail
  refine (sCriticalOf_is w1 _ n c ts us HU.out ((H.out.below HB1.out).more HB1.out.size) (by omega)).mono ?_
  rintro e w2 ⟨A3, c3, rfl, ho3, hb⟩
  have HB2 := Lib.hid (bl_trans HB1.out hb)
  have HO3 := Lib.hid ho3.reads.2
  clear hb ho3 C1
  go_wp2
  go_loopw [7, 8] (fun p i wr => ∃ j m : Nat, j ≤ k ∧ i = .int .i64 j ∧ p = .int .i64 (m : Int) ∧ Hid (m = (critL (ts.take j)).length) ∧ m ≤ 5 ∧ Below w2.heap.size w2 wr) (fun _ i _ => k - (intOf i).toNat)
  case atStart => exact ⟨0, 0, Nat.zero_le _, rfl, rfl, (show 0 = _ from rfl), by omega, Below.refl _ _⟩
  case round =>
    obtain ⟨j, m, hj, rfl, rfl, HM, hm5, hb3⟩ := hrel
    have HB3 := Lib.hid hb3
    have hsz3 := hb3.size
    have hsz2 := HB2.out.size
    clear hb3
    by_cases hjk : j < k
    · obtain ⟨u, hu⟩ := get_at HL.out (show j < n by omega)
      have C3 := (Tks.get ((H.out.below HB2.out).below (HB3.out.mono HB2.out.size)) hu).2.c4
      have i2 : (j : Int) < (n : Int) := by omega
      have hle : (critL (ts.take (j + 1))).length ≤ 5 := by have := (crit_sub (List.take_sublist (j + 1) ts)).length_le; have := critL_len ts; omega
      cases hcu : u.cr
      · rw [hcu] at C3
        have HM' : Hid (m = (critL (ts.take (j + 1))).length) := by show _ = _; rw [HM.out, critL_no hu hcu]
        clear hu hle
        go_wp2
        go_roundw
        case rel => exact ⟨j + 1, m, by omega, by go_num, rfl, HM', hm5, HB3.out⟩
        case measure => simp [intOf]; omega
      · rw [hcu] at C3
        have HM' : Hid (m + 1 = (critL (ts.take (j + 1))).length) := by show _ = _; rw [HM.out, critL_yes hu hcu]; simp
        have hm6 : m + 1 ≤ 5 := by rw [HM'.out]; exact hle
        clear hu hle
        go_wp2
        go_roundw
        case rel => exact ⟨j + 1, m + 1, by omega, by go_num, by go_num, HM', hm6, HB3.out⟩
        case measure => simp [intOf]; omega
    · obtain rfl : j = k := by omega
      have HV2 : Hid (resN (atI (rLow us) (m : Int)) = (v, b)) := by show _ = _; rw [HM.out]; exact HV.out
      go_wp2_with fail
      refine (sRLow_is wr A3 _ c3 us (m : Int) ((HO3.out.below HB3.out).more HB3.out.size) (by omega) v b HV2.out).mono ?_
      rintro e w4 ⟨rfl, hb⟩
      have HB4 := Lib.hid (bl_trans HB2.out (bl_trans HB3.out hb))
      clear hb
      go_wp2
      go_ret2
      exact ⟨rfl, HB4.out⟩

end Go.Proofs.Ytobkbbgllapcoab
