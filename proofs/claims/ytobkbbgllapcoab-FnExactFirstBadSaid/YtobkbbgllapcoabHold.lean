/- Contracts of what tells whether tasks hold, in the program and in the reference. Nothing that was there is written. -/
import Derived.Test.YtobkbbgllapcoabSSwi
namespace Go.Proofs.Ytobkbbgllapcoab
open Go.RowKit
set_option linter.unusedVariables false

def BoRes (b : Bool) (w : World) (e : Ending) (w' : World) : Prop := e = .returned (.bool b) ∧ Below w.heap.size w w'
theorem res_some (o : Option Nat) : resN o = (o.getD 0, o.isSome) := rfl

set_option maxHeartbeats 1000000 in
theorem iHoldsAt_is (w : World) (A : Option Addr) (n c : Nat) (ts : List Tk) (k : Nat) (h : Tks w w.heap.size A n ts) (hn : n ≤ 1048576) (hnc : n ≤ c) (hk : k < n) (b : Bool) (hv : bothAt ts k = b) :
    Calls Try.prog 52 #[.slice A n c, .int .i64 (k : Int)] w (BoRes b w) := by
  have H := Lib.hid h
  obtain ⟨t, ht⟩ := get_at h.len hk
  obtain ⟨bb, o, rfl, hbl, _⟩ := h.at_ k _ ht
  have C1 := (Tks.get h ht).2.c4
  clear h
  have i1 : (k : Int) < (n : Int) := by omega
  cases hc : t.cr
  · rw [both_no ht hc] at hv
    rw [hc] at C1
    obtain ⟨v, hvv⟩ : ∃ v, resN (atI (rLow ts) (k : Int)) = (v, b) := ⟨_, by rw [at_nat, res_some, hv]⟩
    have HV := Lib.hid hvv
    clear hv hvv ht
    go_enter Try.func52, Try.ntmps52
    go_wp2_with (go_at_call 32; refine (iRLow_is _ _ n c ts (k : Int) H.out hn hnc v b HV.out).mono ?_; rintro e w1 ⟨rfl, hb⟩)
    go_ret
    exact ⟨rfl, hb⟩
  · rw [both_cr ht hc] at hv
    rw [hc] at C1
    obtain ⟨v, hvv⟩ : ∃ v, resN (atI (rSwi ts) (k : Int)) = (v, b) := ⟨_, by rw [at_nat, res_some, hv]⟩
    have HV := Lib.hid hvv
    clear hv hvv ht
    go_enter Try.func52, Try.ntmps52
    go_wp2_with (go_at_call 37; refine (iRSwi_is _ _ n c ts (k : Int) H.out hn hnc v b HV.out).mono ?_; rintro e w1 ⟨rfl, hb⟩)
    go_ret
    exact ⟨rfl, hb⟩

set_option maxHeartbeats 1000000 in
theorem sLowAt_is (w : World) (A : Option Addr) (n c : Nat) (ts : List Tk) (k : Nat) (h : Tks w w.heap.size A n ts) (hn : n ≤ 1048576) (b : Bool) (hv : (rLow ts k).isSome = b) :
    Calls Try.prog 70 #[.slice A n c, .int .i64 (k : Int)] w (BoRes b w) := by
  have H := Lib.hid h
  clear h
  obtain ⟨v, hvv⟩ : ∃ v, resN (atI (rLow ts) (k : Int)) = (v, b) := ⟨_, by rw [at_nat, res_some, hv]⟩
  have HV := Lib.hid hvv
  clear hv hvv
  go_enter Try.func70, Try.ntmps70
  go_wp2_with (go_at_call 30; refine (sRLow_is _ A n c ts (k : Int) H.out hn v b HV.out).mono ?_; rintro e w1 ⟨rfl, hb⟩)
  go_ret
  exact ⟨rfl, hb⟩

set_option maxHeartbeats 1000000 in
theorem sBothAt_is (w : World) (A : Option Addr) (n c : Nat) (ts : List Tk) (k : Nat) (h : Tks w w.heap.size A n ts) (hn : n ≤ 1048576) (hk : k < n) (b : Bool) (hv : bothAt ts k = b) :
    Calls Try.prog 51 #[.slice A n c, .int .i64 (k : Int)] w (BoRes b w) := by
  have H := Lib.hid h
  obtain ⟨t, ht⟩ := get_at h.len hk
  obtain ⟨bb, o, rfl, hbl, _⟩ := h.at_ k _ ht
  have C1 := (Tks.get h ht).2.c4
  clear h
  have i1 : (k : Int) < (n : Int) := by omega
  cases hc : t.cr
  · rw [both_no ht hc] at hv
    rw [hc] at C1
    have HV := Lib.hid hv
    clear hv ht
    go_enter Try.func51, Try.ntmps51
    go_wp2_with (go_at_call 70; refine (sLowAt_is _ _ n c ts k H.out hn b HV.out).mono ?_; rintro e w1 ⟨rfl, hb⟩)
    go_ret
    exact ⟨rfl, hb⟩
  · rw [both_cr ht hc] at hv
    rw [hc] at C1
    obtain ⟨v, hvv⟩ : ∃ v, resN (atI (rSwi ts) (k : Int)) = (v, b) := ⟨_, by rw [at_nat, res_some, hv]⟩
    have HV := Lib.hid hvv
    clear hv hvv ht
    go_enter Try.func51, Try.ntmps51
    go_wp2_with (go_at_call 36; refine (sRSwi_is _ _ n c ts (k : Int) H.out hn v b HV.out).mono ?_; rintro e w1 ⟨rfl, hb⟩)
    go_ret
    exact ⟨rfl, hb⟩

set_option maxHeartbeats 2000000 in
theorem iHLow_is (w : World) (A : Option Addr) (n c : Nat) (ts : List Tk) (h : Tks w w.heap.size A n ts) (hn : n ≤ 1048576) (hnc : n ≤ c) (b : Bool) (hv : hLow ts = b) :
    Calls Try.prog 39 #[.slice A n c] w (BoRes b w) := by
  have H := Lib.hid h
  have HL := Lib.hid h.len
  clear h
  cases hs : setB ts
  · obtain rfl : false = b := by rw [← hv]; exact (hLow_bad hs).symm
    clear hv
    go_enter Try.func39, Try.ntmps39
    go_wp2_with (go_at_call 22; refine (iSetValid_any _ A n c ts H.out hn).mono ?_; rintro e w1 ⟨rfl, hb⟩)
    go_ret
    exact ⟨rfl, hb⟩
  have HS := Lib.hid hs
  have HV := Lib.hid hv
  clear hs hv
  go_enter Try.func39, Try.ntmps39
  go_wp2_with fail
  refine (iSetValid_any _ A n c ts H.out hn).mono ?_
  rintro e w1 ⟨rfl, hb⟩
  rw [HS.out]
  have HB1 := Lib.hid hb
  clear hb
  go_wp2
  go_loopw [11] (fun i wr => ∃ k : Nat, k ≤ n ∧ i = .int .i64 k ∧ Hid (∀ j, j < k → (rLow ts j).isSome = true) ∧ Below w.heap.size w wr) (fun i _ => n - (intOf i).toNat)
  case atStart => exact ⟨0, Nat.zero_le _, rfl, (show ∀ j, j < 0 → _ from fun j hj => absurd hj (Nat.not_lt_zero _)), HB1.out⟩
  case round =>
    obtain ⟨k, hk, rfl, HA, hb⟩ := hrel
    have HB := Lib.hid hb
    clear hb
    by_cases hlt : k < n
    · have hlti : (k : Int) < (n : Int) := by omega
      have hkl : k < ts.length := by rw [HL.out]; exact hlt
      obtain ⟨p, hp⟩ : ∃ p, (rLow ts k).isSome = p := ⟨_, rfl⟩
      have HP := Lib.hid hp
      obtain ⟨x, hx⟩ : ∃ x, resN (atI (rLow ts) (k : Int)) = (x, p) := ⟨_, by rw [at_nat, res_some, hp]⟩
      have HX := Lib.hid hx
      clear hx
      clear hp
      go_wp2_with fail
      refine (iRLow_is _ A n c ts (k : Int) ((H.out.below HB.out).more HB.out.size) hn hnc x p HX.out).mono ?_
      rintro e w3 ⟨rfl, hb⟩
      have HB3 := Lib.hid (bl_trans HB.out hb)
      clear hb
      cases p
      · obtain rfl : false = b := by rw [← HV.out]; exact (hLow_no hkl (by have := HP.out; cases ho : rLow ts k <;> simp_all)).symm
        go_wp2
        go_ret
        exact ⟨rfl, HB3.out⟩
      · have HA' : Hid (∀ j, j < k + 1 → (rLow ts j).isSome = true) := by
          show ∀ j, j < k + 1 → _
          intro j hj
          rcases Nat.lt_or_ge j k with h | h
          · exact HA.out j h
          · obtain rfl : j = k := by omega
            exact HP.out
        go_wp2
        go_roundw
        case rel => exact ⟨k + 1, by omega, by go_num, HA', HB3.out⟩
        case measure => simp [intOf]; omega
    · obtain rfl : k = n := by omega
      obtain rfl : true = b := by rw [← HV.out]; exact (hLow_iff.2 ⟨HS.out, fun j hj => HA.out j (by rw [← HL.out]; exact hj)⟩).symm
      go_wp2
      go_ret
      exact ⟨rfl, HB.out⟩

set_option maxHeartbeats 2000000 in
theorem sHLow_is (w : World) (A : Option Addr) (n c : Nat) (ts : List Tk) (h : Tks w w.heap.size A n ts) (hn : n ≤ 1048576) (b : Bool) (hv : hLow ts = b) :
    Calls Try.prog 38 #[.slice A n c] w (BoRes b w) := by
  have H := Lib.hid h
  have HL := Lib.hid h.len
  clear h
  cases hs : setB ts
  · obtain rfl : false = b := by rw [← hv]; exact (hLow_bad hs).symm
    clear hv
    by_cases hn0 : n = 0
    · subst hn0
      obtain rfl : ts = [] := List.eq_nil_of_length_eq_zero HL.out
      cases hs
    have hni : (0 : Int) < (n : Int) := by omega
    go_enter Try.func38, Try.ntmps38
    go_wp2
    refine wp_loop_rounds 1 ?_
    rw [rounds_succ]
    go_wp2_with fail
    refine (sSetValid_any _ A n c ts H.out hn).mono ?_
    rintro e w1 ⟨rfl, hb⟩
    rw [hs]
    have HB1 := Lib.hid hb
    clear hb
    go_wp2_with fail
    refine (sSetValid_any _ A n c ts ((H.out.below HB1.out).more HB1.out.size) hn).mono ?_
    rintro e w2 ⟨rfl, hb⟩
    rw [hs]
    have HB2 := Lib.hid (bl_trans HB1.out hb)
    clear hb
    go_wp2
    go_ret
    exact ⟨rfl, HB2.out⟩
  have HS := Lib.hid hs
  have HV := Lib.hid hv
  clear hs hv
  go_enter Try.func38, Try.ntmps38
  go_wp2
  go_loopw [3] (fun i wr => ∃ k : Nat, k ≤ n ∧ i = .int .i64 k ∧ Hid (∀ j, j < k → (rLow ts j).isSome = true) ∧ Below w.heap.size w wr) (fun i _ => n - (intOf i).toNat)
  case atStart => exact ⟨0, Nat.zero_le _, rfl, (show ∀ j, j < 0 → _ from fun j hj => absurd hj (Nat.not_lt_zero _)), Below.refl _ _⟩
  case round =>
    obtain ⟨k, hk, rfl, HA, hb⟩ := hrel
    have HB := Lib.hid hb
    clear hb
    by_cases hlt : k < n
    · have hlti : (k : Int) < (n : Int) := by omega
      have hkl : k < ts.length := by rw [HL.out]; exact hlt
      go_wp2_with fail
      refine (sSetValid_any _ A n c ts ((H.out.below HB.out).more HB.out.size) hn).mono ?_
      rintro e w2 ⟨rfl, hb⟩
      rw [HS.out]
      have HB2 := Lib.hid (bl_trans HB.out hb)
      clear hb
      obtain ⟨p, hp⟩ : ∃ p, (rLow ts k).isSome = p := ⟨_, rfl⟩
      have HP := Lib.hid hp
      clear hp
      go_wp2_with fail
      refine (sLowAt_is _ A n c ts k ((H.out.below HB2.out).more HB2.out.size) hn p HP.out).mono ?_
      rintro e w3 ⟨rfl, hb⟩
      have HB3 := Lib.hid (bl_trans HB2.out hb)
      clear hb
      cases p
      · obtain rfl : false = b := by rw [← HV.out]; exact (hLow_no hkl (by have := HP.out; cases ho : rLow ts k <;> simp_all)).symm
        go_wp2
        go_ret
        exact ⟨rfl, HB3.out⟩
      · have HA' : Hid (∀ j, j < k + 1 → (rLow ts j).isSome = true) := by
          show ∀ j, j < k + 1 → _
          intro j hj
          rcases Nat.lt_or_ge j k with h | h
          · exact HA.out j h
          · obtain rfl : j = k := by omega
            exact HP.out
        go_wp2
        go_roundw
        case rel => exact ⟨k + 1, by omega, by go_num, HA', HB3.out⟩
        case measure => simp [intOf]; omega
    · obtain rfl : k = n := by omega
      obtain rfl : true = b := by rw [← HV.out]; exact (hLow_iff.2 ⟨HS.out, fun j hj => HA.out j (by rw [← HL.out]; exact hj)⟩).symm
      go_wp2_with fail
      refine (sSetValid_any _ A k c ts ((H.out.below HB.out).more HB.out.size) hn).mono ?_
      rintro e w2 ⟨rfl, hb⟩
      rw [HS.out]
      have HB2 := Lib.hid (bl_trans HB.out hb)
      clear hb
      go_wp2
      go_ret
      exact ⟨rfl, HB2.out⟩

set_option maxHeartbeats 2000000 in
theorem iFBad_is (w : World) (A : Option Addr) (n c : Nat) (ts : List Tk) (h : Tks w w.heap.size A n ts) (hn : n ≤ 1048576) (hnc : n ≤ c) (v : Nat) (b : Bool) (hv : resN (fBad ts) = (v, b)) :
    Calls Try.prog 20 #[.slice A n c] w (NbRes v b w) := by
  have H := Lib.hid h
  have HL := Lib.hid h.len
  clear h
  cases hs : setB ts
  · obtain ⟨rfl, rfl⟩ : 0 = v ∧ false = b := Prod.mk.inj (by rw [← hv, fBad_bad hs]; rfl)
    clear hv
    go_enter Try.func20, Try.ntmps20
    go_wp2_with (go_at_call 22; refine (iSetValid_any _ A n c ts H.out hn).mono ?_; rintro e w1 ⟨rfl, hb⟩)
    go_ret2
    exact ⟨rfl, hb⟩
  have HS := Lib.hid hs
  have HV := Lib.hid hv
  clear hs hv
  go_enter Try.func20, Try.ntmps20
  go_wp2_with fail
  refine (iSetValid_any _ A n c ts H.out hn).mono ?_
  rintro e w1 ⟨rfl, hb⟩
  rw [HS.out]
  have HB1 := Lib.hid hb
  clear hb
  go_wp2
  go_loopw [10] (fun i wr => ∃ k : Nat, k ≤ n ∧ i = .int .i64 k ∧ Hid (∀ j, j < k → bothAt ts j = true) ∧ Below w.heap.size w wr) (fun i _ => n - (intOf i).toNat)
  case atStart => exact ⟨0, Nat.zero_le _, rfl, (show ∀ j, j < 0 → _ from fun j hj => absurd hj (Nat.not_lt_zero _)), HB1.out⟩
  case round =>
    obtain ⟨k, hk, rfl, HA, hb⟩ := hrel
    have HB := Lib.hid hb
    clear hb
    by_cases hlt : k < n
    · have hlti : (k : Int) < (n : Int) := by omega
      have hkl : k < ts.length := by rw [HL.out]; exact hlt
      obtain ⟨p, hp⟩ : ∃ p, bothAt ts k = p := ⟨_, rfl⟩
      have HP := Lib.hid hp
      clear hp
      go_wp2_with fail
      refine (iHoldsAt_is _ A n c ts k ((H.out.below HB.out).more HB.out.size) hn hnc hlt p HP.out).mono ?_
      rintro e w3 ⟨rfl, hb⟩
      have HB3 := Lib.hid (bl_trans HB.out hb)
      clear hb
      cases p
      · obtain ⟨rfl, rfl⟩ : k = v ∧ true = b := Prod.mk.inj (by rw [← HV.out, fBad_some HS.out hkl HP.out HA.out]; rfl)
        go_wp2
        go_ret2
        exact ⟨rfl, HB3.out⟩
      · have HA' : Hid (∀ j, j < k + 1 → bothAt ts j = true) := by
          show ∀ j, j < k + 1 → _
          intro j hj
          rcases Nat.lt_or_ge j k with h | h
          · exact HA.out j h
          · obtain rfl : j = k := by omega
            exact HP.out
        go_wp2
        go_roundw
        case rel => exact ⟨k + 1, by omega, by go_num, HA', HB3.out⟩
        case measure => simp [intOf]; omega
    · obtain rfl : k = n := by omega
      obtain ⟨rfl, rfl⟩ : 0 = v ∧ false = b := Prod.mk.inj (by rw [← HV.out, fBad_none HS.out (fun j hj => HA.out j (by rw [← HL.out]; exact hj))]; rfl)
      go_wp2
      go_ret2
      exact ⟨rfl, HB.out⟩

set_option maxHeartbeats 2000000 in
theorem sFBad_is (w : World) (A : Option Addr) (n c : Nat) (ts : List Tk) (h : Tks w w.heap.size A n ts) (hn : n ≤ 1048576) (v : Nat) (b : Bool) (hv : resN (fBad ts) = (v, b)) :
    Calls Try.prog 21 #[.slice A n c] w (NbRes v b w) := by
  have H := Lib.hid h
  have HL := Lib.hid h.len
  clear h
  cases hs : setB ts
  · obtain ⟨rfl, rfl⟩ : 0 = v ∧ false = b := Prod.mk.inj (by rw [← hv, fBad_bad hs]; rfl)
    clear hv
    by_cases hn0 : n = 0
    · subst hn0
      obtain rfl : ts = [] := List.eq_nil_of_length_eq_zero HL.out
      cases hs
    have hni : (0 : Int) < (n : Int) := by omega
    go_enter Try.func21, Try.ntmps21
    go_wp2
    refine wp_loop_rounds 1 ?_
    rw [rounds_succ]
    go_wp2_with fail
    refine (sSetValid_any _ A n c ts H.out hn).mono ?_
    rintro e w1 ⟨rfl, hb⟩
    rw [hs]
    have HB1 := Lib.hid hb
    clear hb
    go_wp2_with fail
    go_ret2
    exact ⟨rfl, HB1.out⟩
  have HS := Lib.hid hs
  have HV := Lib.hid hv
  clear hs hv
  go_enter Try.func21, Try.ntmps21
  go_wp2
  go_loopw [4] (fun i wr => ∃ k : Nat, k ≤ n ∧ i = .int .i64 k ∧ Hid (∀ j, j < k → bothAt ts j = true) ∧ Below w.heap.size w wr) (fun i _ => n - (intOf i).toNat)
  case atStart => exact ⟨0, Nat.zero_le _, rfl, (show ∀ j, j < 0 → _ from fun j hj => absurd hj (Nat.not_lt_zero _)), Below.refl _ _⟩
  case round =>
    obtain ⟨k, hk, rfl, HA, hb⟩ := hrel
    have HB := Lib.hid hb
    clear hb
    by_cases hlt : k < n
    · have hlti : (k : Int) < (n : Int) := by omega
      have hkl : k < ts.length := by rw [HL.out]; exact hlt
      go_wp2_with fail
      refine (sSetValid_any _ A n c ts ((H.out.below HB.out).more HB.out.size) hn).mono ?_
      rintro e w2 ⟨rfl, hb⟩
      rw [HS.out]
      have HB2 := Lib.hid (bl_trans HB.out hb)
      clear hb
      obtain ⟨p, hp⟩ : ∃ p, bothAt ts k = p := ⟨_, rfl⟩
      have HP := Lib.hid hp
      clear hp
      go_wp2_with fail
      refine (sBothAt_is _ A n c ts k ((H.out.below HB2.out).more HB2.out.size) hn hlt p HP.out).mono ?_
      rintro e w3 ⟨rfl, hb⟩
      have HB3 := Lib.hid (bl_trans HB2.out hb)
      clear hb
      cases p
      · obtain ⟨rfl, rfl⟩ : k = v ∧ true = b := Prod.mk.inj (by rw [← HV.out, fBad_some HS.out hkl HP.out HA.out]; rfl)
        go_wp2
        go_ret2
        exact ⟨rfl, HB3.out⟩
      · have HA' : Hid (∀ j, j < k + 1 → bothAt ts j = true) := by
          show ∀ j, j < k + 1 → _
          intro j hj
          rcases Nat.lt_or_ge j k with h | h
          · exact HA.out j h
          · obtain rfl : j = k := by omega
            exact HP.out
        go_wp2
        go_roundw
        case rel => exact ⟨k + 1, by omega, by go_num, HA', HB3.out⟩
        case measure => simp [intOf]; omega
    · obtain rfl : k = n := by omega
      obtain ⟨rfl, rfl⟩ : 0 = v ∧ false = b := Prod.mk.inj (by rw [← HV.out, fBad_none HS.out (fun j hj => HA.out j (by rw [← HL.out]; exact hj))]; rfl)
      go_wp2
      go_ret2
      exact ⟨rfl, HB.out⟩

set_option maxHeartbeats 2000000 in
theorem sHBoth_is (w : World) (A : Option Addr) (n c : Nat) (ts : List Tk) (h : Tks w w.heap.size A n ts) (hn : n ≤ 1048576) (b : Bool) (hv : hBoth ts = b) :
    Calls Try.prog 18 #[.slice A n c] w (BoRes b w) := by
  have H := Lib.hid h
  have HL := Lib.hid h.len
  clear h
  cases hs : setB ts
  · obtain rfl : false = b := by rw [← hv]; exact (hBoth_bad hs).symm
    clear hv
    by_cases hn0 : n = 0
    · subst hn0
      obtain rfl : ts = [] := List.eq_nil_of_length_eq_zero HL.out
      cases hs
    have hni : (0 : Int) < (n : Int) := by omega
    go_enter Try.func18, Try.ntmps18
    go_wp2
    refine wp_loop_rounds 1 ?_
    rw [rounds_succ]
    go_wp2_with fail
    refine (sSetValid_any _ A n c ts H.out hn).mono ?_
    rintro e w1 ⟨rfl, hb⟩
    rw [hs]
    have HB1 := Lib.hid hb
    clear hb
    go_wp2_with fail
    refine (sSetValid_any _ A n c ts ((H.out.below HB1.out).more HB1.out.size) hn).mono ?_
    rintro e w2 ⟨rfl, hb⟩
    rw [hs]
    have HB2 := Lib.hid (bl_trans HB1.out hb)
    clear hb
    go_wp2
    go_ret
    exact ⟨rfl, HB2.out⟩
  have HS := Lib.hid hs
  have HV := Lib.hid hv
  clear hs hv
  go_enter Try.func18, Try.ntmps18
  go_wp2
  go_loopw [3] (fun i wr => ∃ k : Nat, k ≤ n ∧ i = .int .i64 k ∧ Hid (∀ j, j < k → bothAt ts j = true) ∧ Below w.heap.size w wr) (fun i _ => n - (intOf i).toNat)
  case atStart => exact ⟨0, Nat.zero_le _, rfl, (show ∀ j, j < 0 → _ from fun j hj => absurd hj (Nat.not_lt_zero _)), Below.refl _ _⟩
  case round =>
    obtain ⟨k, hk, rfl, HA, hb⟩ := hrel
    have HB := Lib.hid hb
    clear hb
    by_cases hlt : k < n
    · have hlti : (k : Int) < (n : Int) := by omega
      have hkl : k < ts.length := by rw [HL.out]; exact hlt
      go_wp2_with fail
      refine (sSetValid_any _ A n c ts ((H.out.below HB.out).more HB.out.size) hn).mono ?_
      rintro e w2 ⟨rfl, hb⟩
      rw [HS.out]
      have HB2 := Lib.hid (bl_trans HB.out hb)
      clear hb
      obtain ⟨p, hp⟩ : ∃ p, bothAt ts k = p := ⟨_, rfl⟩
      have HP := Lib.hid hp
      clear hp
      go_wp2_with fail
      refine (sBothAt_is _ A n c ts k ((H.out.below HB2.out).more HB2.out.size) hn hlt p HP.out).mono ?_
      rintro e w3 ⟨rfl, hb⟩
      have HB3 := Lib.hid (bl_trans HB2.out hb)
      clear hb
      cases p
      · obtain rfl : false = b := by rw [← HV.out]; exact (hBoth_no hkl HP.out).symm
        go_wp2
        go_ret
        exact ⟨rfl, HB3.out⟩
      · have HA' : Hid (∀ j, j < k + 1 → bothAt ts j = true) := by
          show ∀ j, j < k + 1 → _
          intro j hj
          rcases Nat.lt_or_ge j k with h | h
          · exact HA.out j h
          · obtain rfl : j = k := by omega
            exact HP.out
        go_wp2
        go_roundw
        case rel => exact ⟨k + 1, by omega, by go_num, HA', HB3.out⟩
        case measure => simp [intOf]; omega
    · obtain rfl : k = n := by omega
      obtain rfl : true = b := by rw [← HV.out]; exact (hBoth_iff.2 ⟨HS.out, fun j hj => HA.out j (by rw [← HL.out]; exact hj)⟩).symm
      go_wp2_with fail
      refine (sSetValid_any _ A k c ts ((H.out.below HB.out).more HB.out.size) hn).mono ?_
      rintro e w2 ⟨rfl, hb⟩
      rw [HS.out]
      have HB2 := Lib.hid (bl_trans HB.out hb)
      clear hb
      go_wp2
      go_ret
      exact ⟨rfl, HB2.out⟩

set_option maxHeartbeats 1000000 in
theorem iHBoth_is (w : World) (A : Option Addr) (n c : Nat) (ts : List Tk) (h : Tks w w.heap.size A n ts) (hn : n ≤ 1048576) (hnc : n ≤ c) (b : Bool) (hv : hBoth ts = b) :
    Calls Try.prog 17 #[.slice A n c] w (BoRes b w) := by
  have H := Lib.hid h
  clear h
  obtain ⟨v, bad, hx⟩ : ∃ v bad, resN (fBad ts) = (v, bad) := ⟨_, _, rfl⟩
  have HX := Lib.hid hx
  have hbx : b = (setB ts && !bad) := by
    rw [← hv]
    cases hs : setB ts
    · rw [hBoth_bad hs]; rfl
    · rw [hBoth_fBad hs, ← (Prod.mk.inj hx).2]
      cases fBad ts <;> rfl
  clear hv hx
  go_enter Try.func17, Try.ntmps17
  go_wp2_with fail
  refine (iFBad_is _ A n c ts H.out hn hnc v bad HX.out).mono ?_
  rintro e w1 ⟨rfl, hb⟩
  have HB1 := Lib.hid hb
  have HBX := Lib.hid hbx
  clear hb hbx
  go_wp2_with fail
  refine (iSetValid_any _ A n c ts ((H.out.below HB1.out).more HB1.out.size) hn).mono ?_
  rintro e w2 ⟨rfl, hb⟩
  have HB2 := Lib.hid (bl_trans HB1.out hb)
  clear hb
  cases hs : setB ts
  · obtain rfl : b = false := by rw [HBX.out, hs]; rfl
    go_wp2
    go_ret
    exact ⟨rfl, HB2.out⟩
  · cases bad
    · obtain rfl : b = true := by rw [HBX.out, hs]; rfl
      go_wp2
      go_ret
      exact ⟨rfl, HB2.out⟩
    · obtain rfl : b = false := by rw [HBX.out, hs]; rfl
      go_wp2
      go_ret
      exact ⟨rfl, HB2.out⟩

end Go.Proofs.Ytobkbbgllapcoab
