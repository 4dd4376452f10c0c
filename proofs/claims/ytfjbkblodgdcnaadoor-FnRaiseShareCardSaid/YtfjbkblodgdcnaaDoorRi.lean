/- Contract of the program's RaiseAll. Nothing that was there is written. -/
import Derived.Test.YtfjbkblodgdcnaaDoorRt
namespace Go.Proofs.YtfjbkblodgdcnaaDoor
open Go.RowKit
set_option linter.unusedVariables false

set_option maxRecDepth 100000 in
set_option maxHeartbeats 2000000 in
theorem iRaise_is (w : World) (A : Option Addr) (n c : Nat) (ts : List Tk) (d : Int) (us : List Tk) (b : Bool) (h : Tks w w.heap.size A n ts) (hn : n ≤ 1048576) (hd : raiseB ts d = b) (hu : us = if b then raiseL ts d else []) :
    Calls Tryd.prog 26 #[.slice A n c, .int .i64 d] w (LsRes2 us b w) := by
  obtain ⟨i0, hi, hz0, hz1, hz2⟩ := info_parts info_task
  have H := Lib.hid h
  have HL := Lib.hid h.len
  clear h
  cases hs : setB ts
  · obtain rfl : b = false := by rw [← hd]; unfold raiseB; rw [hs]; rfl
    obtain rfl : us = [] := by rw [hu]; rfl
    have HS := Lib.hid hs
    clear hd hu hs
    go_enter Tryd.func26, Tryd.ntmps26
    go_wp2_with fail
    refine (iSetValid_any _ A n c ts H.out hn).mono ?_
    rintro e w1 ⟨rfl, hb1⟩
    rw [HS.out]
    have HB1 := Lib.hid hb1
    clear hb1
    go_wp2
    go_ret2
    exact ⟨none, 0, rfl, Own.nil_ _ _, HB1.out⟩
  have h5 : n ≤ 5 := by have := setB_len hs; rw [HL.out] at this; exact this
  have HS := Lib.hid hs
  by_cases h1 : d < -20
  · obtain rfl : b = false := by rw [← hd]; unfold raiseB ticksB; rw [decide_eq_false (show ¬ -20 ≤ d by omega)]; simp
    obtain rfl : us = [] := by rw [hu]; rfl
    have k1 : decide (d < -20) = true := decide_eq_true h1
    clear hd hu hs
    go_enter Tryd.func26, Tryd.ntmps26
    go_wp2_with fail
    refine (iSetValid_any _ A n c ts H.out hn).mono ?_
    rintro e w1 ⟨rfl, hb1⟩
    rw [HS.out]
    have HB1 := Lib.hid hb1
    clear hb1
    go_wp2
    go_ret2
    exact ⟨none, 0, rfl, Own.nil_ _ _, HB1.out⟩
  by_cases h2 : 20 < d
  · obtain rfl : b = false := by rw [← hd]; unfold raiseB ticksB; rw [decide_eq_false (show ¬ d ≤ 20 by omega)]; simp
    obtain rfl : us = [] := by rw [hu]; rfl
    have k1 : decide (d < -20) = false := decide_eq_false h1
    have k2 : decide (d > 20) = true := decide_eq_true h2
    clear hd hu hs
    go_enter Tryd.func26, Tryd.ntmps26
    go_wp2_with fail
    refine (iSetValid_any _ A n c ts H.out hn).mono ?_
    rintro e w1 ⟨rfl, hb1⟩
    rw [HS.out]
    have HB1 := Lib.hid hb1
    clear hb1
    go_wp2
    go_ret2
    exact ⟨none, 0, rfl, Own.nil_ _ _, HB1.out⟩
  have k1 : decide (d < -20) = false := decide_eq_false h1
  have k2 : decide (d > 20) = false := decide_eq_false h2
  have HD : Hid (setB (raiseL ts d) = b) := by
    show _ = _
    rw [← hd]; unfold raiseB; rw [hs, ticks_iff.2 ⟨by omega, by omega⟩]; rfl
  have HU := Lib.hid hu
  clear hd hu hs
  go_enter Tryd.func26, Tryd.ntmps26
  go_wp2_with fail
  refine (iSetValid_any _ A n c ts H.out hn).mono ?_
  rintro e w1 ⟨rfl, hb1⟩
  rw [HS.out]
  have HB1 := Lib.hid hb1
  clear hb1
  go_wp2_with fail
  refine (iCloneT_is w1 A n c ts ((H.out.below HB1.out).more HB1.out.size) (by omega)).mono ?_
  rintro e w2 ⟨Ao, co, rfl, ho, hb2⟩
  have HB2 := Lib.hid (bl_trans HB1.out hb2)
  have HO2 := Lib.hid (own_more ho HB1.out.size)
  clear hb2 ho
  rcases HO2.out.2 with ⟨e, h0⟩ | ⟨gg, cap, cur, e, hgg, _⟩
  · injection e with e1 e2 e3
    subst e1 e3
    have hts : ts = [] := List.eq_nil_of_length_eq_zero h0
    subst hts
    have hl := HL.out
    simp only [List.length_nil] at hl
    subst hl
    obtain rfl : b = true := HD.out.symm
    obtain rfl : us = [] := by rw [HU.out]; rfl
    clear HD HU
    go_wp2
    go_loopw [23] (fun i wr => i = .int .i64 0 ∧ wr = w2) (fun i _ => 0)
    case atStart => exact ⟨rfl, rfl⟩
    case round =>
      obtain ⟨rfl, rfl⟩ := hrel
      go_wp2_with fail
      refine (iSetValid_any _ none 0 0 [] HO2.out.reads.2 (by omega)).mono ?_
      rintro e w8 ⟨rfl, hb8⟩
      have HB8 := Lib.hid (bl_trans HB2.out hb8)
      clear hb8
      rw [show setB [] = true from rfl]
      go_wp2
      go_ret2
      exact ⟨none, 0, rfl, Own.nil_ _ _, HB8.out⟩
  injection e with e1 e2 e3
  subst e1 e3
  have hlt2 := (World.ownsRow.lt HO2.out gg rfl)
  obtain ⟨m, hm⟩ : ∃ m, ts.length = m := ⟨_, rfl⟩
  have hmn : m = n := by rw [← hm]; exact HL.out
  subst hmn
  have HM := Lib.hid hm
  rw [hm] at HO2 ⊢
  clear hm
  go_wp2
  go_loopw [23] (fun i wr => ∃ k : Nat, k ≤ m ∧ i = .int .i64 k ∧ Hid (Own wr w.heap.size (.slice (some ⟨gg, 0, none⟩) m co) (raisedK ts d k)) ∧ Hid (Below w.heap.size w wr)) (fun i _ => m - (intOf i).toNat)
  case atStart => exact ⟨0, Nat.zero_le _, rfl, Lib.hid (by rw [raisedK_zero]; exact HO2.out), HB2⟩
  case round =>
    obtain ⟨k, hk, rfl, HO, HB⟩ := hrel
    by_cases hlt : k < m
    · obtain ⟨t, ht⟩ : ∃ t, ts[k]? = some t := ⟨ts[k]'(by rw [HL.out]; exact hlt), List.getElem?_eq_getElem _⟩
      obtain ⟨b2, o2, eA, hbl, c0, c1, c2, c3, c4⟩ := HO.out.reads.2.at_ k t (raisedK_at ht)
      injection eA with eA
      injection eA with eA1 eA2
      subst eA1 eA2
      simp only [Nat.zero_add] at c0 c1 c2 c3 c4
      obtain ⟨⟨a1, a2⟩, a3, a4⟩ := set_small HS.out ht
      have hsz : w.heap.size ≤ wr.heap.size := HB.out.size
      obtain ⟨lo, hi', du, ev, cr⟩ := t
      dsimp only at c0 c1 c2 c3 c4 a1 a2 a3 a4
      have hfz := HO.out.frozen
      have HX1 := Lib.hid (HO.out.low k _ (lo + d) (raisedK_at ht))
      have hk2 : ((raisedK ts d k).set k ⟨lo + d, hi', du, ev, cr⟩)[k]? = some ⟨lo + d, hi', du, ev, cr⟩ := by
        rw [List.getElem?_set_self (by rw [raisedK_len, HM.out]; exact hlt)]
      have HX2 : Hid (Own ((wr.setCell ⟨gg, k * 5, none⟩ (.int .i64 (lo + d))).setCell ⟨gg, k * 5 + 1, none⟩ (.int .i64 (hi' + d))) w.heap.size (.slice (some ⟨gg, 0, none⟩) m co) (raisedK ts d (k + 1))) := Lib.hid (by
        have := HX1.out.high k _ (hi' + d) hk2
        rw [raise_two ht] at this
        exact this)
      have hfz2 := HX1.out.frozen
      have HBX : Hid (Below w.heap.size w ((wr.setCell ⟨gg, k * 5, none⟩ (.int .i64 (lo + d))).setCell ⟨gg, k * 5 + 1, none⟩ (.int .i64 (hi' + d)))) := Lib.hid (bl_set (bl_set HB.out hgg _) hgg _)
      have w1' : IntKind.i64.wrap (lo + d) = lo + d := IntWalk.i64_in _ (by omega)
      have w2' : IntKind.i64.wrap (hi' + d) = hi' + d := IntWalk.i64_in _ (by omega)
      have q1 : (0 : Int) ≤ (k : Int) := by omega
      have q2 : (k : Int) < (m : Int) := by omega
      clear ht hk2 HX1
      go_wp2
      go_roundw
      case rel => exact ⟨k + 1, by omega, by go_num, HX2, HBX⟩
      case measure => simp [intOf]; omega
    · obtain rfl : k = m := by omega
      have hfull : raisedK ts d k = raiseL ts d := by rw [← HM.out, raisedK_all]
      rw [hfull] at HO
      have hrl : (raiseL ts d).length = k := by rw [raiseL_len, HM.out]
      have HRL := Lib.hid hrl
      clear hrl hfull
      obtain ⟨hr, hrd⟩ : ∃ hr, setB (raiseL ts d) = hr := ⟨_, rfl⟩
      have hbr : hr = b := by rw [← hrd]; exact HD.out
      go_wp2_with fail
      refine (iSetValid_any _ _ k co (raiseL ts d) HO.out.reads.2 (by omega)).mono ?_
      rintro e w8 ⟨rfl, hb8⟩
      have HB8 := Lib.hid (bl_trans HB.out hb8)
      have HO8 := Lib.hid (HO.out.below hb8)
      rw [hrd]
      clear hb8
      cases hr
      · subst hbr
        obtain rfl : us = [] := by rw [HU.out]; rfl
        clear HU HD
        go_wp2
        go_ret2
        exact ⟨none, 0, rfl, Own.nil_ _ _, HB8.out⟩
      · subst hbr
        obtain rfl : us = raiseL ts d := by rw [HU.out]; rfl
        clear HU HD
        go_wp2
        go_ret2
        exact ⟨some ⟨gg, 0, none⟩, co, by first | (rw [HRL.out]; done) | (rw [HRL.out]; rfl), by rw [HRL.out]; exact HO8.out, HB8.out⟩

end Go.Proofs.YtfjbkblodgdcnaaDoor
