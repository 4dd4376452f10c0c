/- Contracts of ResponseHigh, in the program and in the reference. Nothing that was there is written. -/
import Derived.Test.YtncgchlnaobalabSRLow
import Derived.Test.YtncgchlnaobalabRespU
import Derived.Test.YtncgchlnaobalabLawCrit
namespace Go.Proofs.Ytncgchlnaobalab
open Go.RowKit
set_option linter.unusedVariables false

theorem own_le {w : World} {B c : Nat} {A : Option Addr} {ts : List Tk} (h : Own w B (.slice A ts.length c) ts) : ts.length ≤ c := by
  rcases h.2 with ⟨e, h0⟩ | ⟨g, cap, cur, e, _, _, h1, h2, _⟩
  · omega
  · injection e with e1 e2 e3
    subst e3
    exact h1
theorem has_no {ts : List Tk} {n : Nat} {a : Int} (hl : ts.length = n) (h : (setB ts && (decide (0 ≤ a) && decide (a < (n : Int)))) = false) (f : Nat → Option Nat) (hb : ∀ k, setB ts = false → f k = none) (hp : ∀ k, ts[k]? = none → f k = none) : atI f a = none := by
  unfold atI
  split
  · rename_i h0
    cases hs : setB ts
    · exact hb _ hs
    · rw [hs, Bool.true_and, decide_eq_true h0, Bool.true_and] at h
      have h1 : ¬ a < (n : Int) := of_decide_eq_false h
      exact hp _ (List.getElem?_eq_none (by omega))
  · rfl

set_option maxRecDepth 100000 in
set_option maxHeartbeats 2000000 in
theorem iRHigh_is (w : World) (A : Option Addr) (n c : Nat) (ts : List Tk) (a : Int) (h : Tks w w.heap.size A n ts) (hn : n ≤ 1048576) (hnc : n ≤ c) (v : Nat) (b : Bool) (hv : resN (atI (rHigh ts) a) = (v, b)) :
    Calls Try.prog 27 #[.slice A n c, .int .i64 a] w (NbRes v b w) := by
  have H := Lib.hid h
  have HL := Lib.hid h.len
  clear h
  cases hh : (setB ts && (decide (0 ≤ a) && decide (a < (n : Int))))
  · rw [has_no HL.out hh (rHigh ts) (fun k hs => rHigh_bad k hs) (fun k hp => rHigh_past hp)] at hv
    obtain ⟨rfl, rfl⟩ := Prod.mk.inj hv
    have HH := Lib.hid hh
    clear hv hh
    go_enter Try.func27, Try.ntmps27
    go_wp2_with (go_at_call 41; refine (iHas_is _ A n c ts a H.out hn false HH.out).mono ?_; rintro e w1 ⟨rfl, hb⟩)
    go_ret2
    exact ⟨rfl, hb⟩
  have HH := Lib.hid hh
  rw [Bool.and_eq_true, Bool.and_eq_true, decide_eq_true_iff, decide_eq_true_iff] at hh
  obtain ⟨hs, h0, h1⟩ := hh
  obtain ⟨k, rfl⟩ := Int.eq_ofNat_of_zero_le h0
  have hk : k < n := by omega
  obtain ⟨t, ht⟩ := get_at HL.out hk
  have hr : atI (rHigh ts) (k : Int) = rHigh ts k := by unfold atI; rw [if_pos h0]; rfl
  rw [hr] at hv
  obtain ⟨bb, o, rfl, hbl, _⟩ := H.out.at_ k _ ht
  have h5 := setB_len hs
  have HT := Lib.hid ht
  have HS := Lib.hid hs
  cases hc : t.cr
  · rw [rHigh_not ht hc] at hv
    obtain ⟨rfl, rfl⟩ := Prod.mk.inj hv
    clear hv hr ht hs
    go_enter Try.func27, Try.ntmps27
    go_wp2_with fail
    refine (iHas_is _ _ n c ts (k : Int) H.out hn true HH.out).mono ?_
    rintro e w1 ⟨rfl, hb⟩
    have HB1 := Lib.hid hb
    have hsz := hb.size
    have C1 := (Tks.get (H.out.below hb) HT.out).2.c4
    rw [hc] at C1
    have i1 : (k : Int) < (n : Int) := h1
    clear hb
    go_wp2
    go_ret2
    exact ⟨rfl, HB1.out⟩
  rw [rHigh_at hs ht hc] at hv
  obtain ⟨us, hus⟩ : ∃ us, us = critL ts := ⟨_, rfl⟩
  obtain ⟨ks, hks⟩ : ∃ ks, ks = critL (ts.take k) := ⟨_, rfl⟩
  have hul : us.length ≤ 5 := by rw [hus]; exact Nat.le_trans (critL_len ts) h5
  have hkl : ks.length < us.length := by
    have := crit_at ht hc
    rw [← hus, ← hks] at this
    exact (List.getElem?_eq_some_iff.1 this).1
  rw [← hus, ← hks] at hv
  have HV : Hid (resN (atI (rLow us) (ks.length : Int)) = (v, b)) := by
    show resN (atI (rLow us) (ks.length : Int)) = (v, b)
    rw [← hv]
    unfold atI
    rw [if_pos (by omega)]; rfl
  have HU : Hid (us = critOf ts) := by show us = _; rw [hus, critOf_set hs]
  have HK : Hid (ks = critOf (ts.take k)) := by show ks = _; rw [hks, critOf_set (set_take hs k)]
  clear hv hr ht hs hus hks
  go_enter Try.func27, Try.ntmps27
  go_wp2_with fail
  refine (iHas_is _ _ n c ts (k : Int) H.out hn true HH.out).mono ?_
  rintro e w1 ⟨rfl, hb⟩
  have HB1 := Lib.hid hb
  have hsz := hb.size
  have C1 := (Tks.get (H.out.below hb) HT.out).2.c4
  rw [hc] at C1
  have i1 : (k : Int) < (n : Int) := h1
  have i2 : (k : Int) ≤ (c : Int) := by omega
  have i3 : ¬ (c : Int) < (k : Int) := by omega
  clear hb
  go_wp2_with fail
  refine (iCriticalOf_is w1 (some ⟨bb, o, none⟩) k c (ts.take k) ks HK.out (Tks.take ((H.out.below HB1.out).more HB1.out.size) (by omega)) (by omega)).mono ?_
  rintro e w2 ⟨A2, c2, rfl, ho2, hb⟩
  have HB2 := Lib.hid (bl_trans HB1.out hb)
  clear hb ho2 C1
  go_wp2_with fail
  refine (iCriticalOf_is w2 _ n c ts us HU.out ((H.out.below HB2.out).more HB2.out.size) (by omega)).mono ?_
  rintro e w3 ⟨A3, c3, rfl, ho3, hb⟩
  have HB3 := Lib.hid (bl_trans HB2.out hb)
  have HO3 := Lib.hid ho3.reads.2
  have hle3 := own_le ho3
  clear hb ho3
  go_wp2_with fail
  refine (iRLow_is w3 A3 _ c3 us (ks.length : Int) HO3.out (by omega) hle3 v b HV.out).mono ?_
  rintro e w4 ⟨rfl, hb⟩
  have HB4 := Lib.hid (bl_trans HB3.out hb)
  clear hb
  go_wp2
  go_ret2
  exact ⟨rfl, HB4.out⟩

end Go.Proofs.Ytncgchlnaobalab
