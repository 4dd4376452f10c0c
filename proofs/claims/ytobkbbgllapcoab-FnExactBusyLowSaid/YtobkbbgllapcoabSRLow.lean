/- Contract of the reference's ResponseLow. Nothing that was there is written. -/
import Derived.Test.YtobkbbgllapcoabRLow
namespace Go.Proofs.Ytobkbbgllapcoab
open Go.RowKit
set_option linter.unusedVariables false

theorem Tks.get {w : World} {B b o n : Nat} {ts : List Tk} (h : Tks w B (some ⟨b, o, none⟩) n ts) {i : Nat} {t : Tk} (ht : ts[i]? = some t) : b < B ∧ TkAt w b (o + i * 5) t := by
  obtain ⟨b', o', e, hb, hc⟩ := h.at_ i t ht
  injection e with e
  injection e with e1 e2
  subst e1 e2
  exact ⟨hb, hc⟩

set_option maxHeartbeats 1000000 in
theorem sAt_is (w : World) (A : Option Addr) (n c : Nat) (ts : List Tk) (a : Int) (h : Tks w w.heap.size A n ts) (hn : n ≤ 1048576) (b : Bool) (hb : (setB ts && (decide (0 ≤ a) && decide (a < (n : Int)))) = b) :
    Calls Try.prog 62 #[.slice A n c, .int .i64 a] w fun e w' => e = .returned (.bool b) ∧ Below w.heap.size w w' := by
  have H := Lib.hid h
  clear h
  cases hs : setB ts
  · subst hb
    go_enter Try.func62, Try.ntmps62
    go_wp2_with (go_at_call 50; refine (sSetValid_any _ A n c ts H.out hn).mono ?_; rintro e w2 ⟨rfl, hb2⟩)
    go_ret
    exact ⟨by simp [hs], hb2⟩
  rw [hs, Bool.true_and] at hb
  by_cases h0 : 0 ≤ a
  · by_cases h1 : a < (n : Int)
    · rw [decide_eq_true h0, decide_eq_true h1] at hb
      subst hb
      go_enter Try.func62, Try.ntmps62
      go_wp2_with (go_at_call 50; refine (sSetValid_any _ A n c ts H.out hn).mono ?_; rintro e w2 ⟨rfl, hb2⟩)
      go_ret
      exact ⟨by simp [*], hb2⟩
    · rw [decide_eq_true h0, decide_eq_false h1] at hb
      subst hb
      go_enter Try.func62, Try.ntmps62
      go_wp2_with (go_at_call 50; refine (sSetValid_any _ A n c ts H.out hn).mono ?_; rintro e w2 ⟨rfl, hb2⟩)
      go_ret
      exact ⟨by simp [*], hb2⟩
  · rw [decide_eq_false h0] at hb
    subst hb
    go_enter Try.func62, Try.ntmps62
    go_wp2_with (go_at_call 50; refine (sSetValid_any _ A n c ts H.out hn).mono ?_; rintro e w2 ⟨rfl, hb2⟩)
    go_ret
    exact ⟨by simp [*], hb2⟩

set_option maxRecDepth 100000 in
set_option maxHeartbeats 2000000 in
theorem sRLow_is (w : World) (A : Option Addr) (n c : Nat) (ts : List Tk) (a : Int) (h : Tks w w.heap.size A n ts) (hn : n ≤ 1048576) (v : Nat) (b : Bool) (hv : resN (atI (rLow ts) a) = (v, b)) :
    Calls Try.prog 30 #[.slice A n c, .int .i64 a] w (NbRes v b w) := by
  have H := Lib.hid h
  have HL := Lib.hid h.len
  clear h
  cases hh : (setB ts && (decide (0 ≤ a) && decide (a < (n : Int))))
  · have hr : atI (rLow ts) a = none := by
      unfold atI
      split
      · rename_i h0
        cases hs : setB ts
        · exact rLow_bad _ hs
        · rw [hs, Bool.true_and, decide_eq_true h0, Bool.true_and] at hh
          have h1 : ¬ a < (n : Int) := of_decide_eq_false hh
          exact rLow_past (List.getElem?_eq_none (by have := HL.out; omega))
      · rfl
    rw [hr] at hv
    obtain ⟨rfl, rfl⟩ := Prod.mk.inj hv
    have HH := Lib.hid hh
    clear hr hv hh
    go_enter Try.func30, Try.ntmps30
    go_wp2_with (go_at_call 62; refine (sAt_is _ A n c ts a H.out hn false HH.out).mono ?_; rintro e w1 ⟨rfl, hb⟩)
    go_ret2
    exact ⟨rfl, hb⟩
  have HH := Lib.hid hh
  rw [Bool.and_eq_true, Bool.and_eq_true, decide_eq_true_iff, decide_eq_true_iff] at hh
  obtain ⟨hs, h0, h1⟩ := hh
  obtain ⟨k, rfl⟩ := Int.eq_ofNat_of_zero_le h0
  have hk : k < n := by omega
  obtain ⟨t, ht⟩ := get_at HL.out hk
  have hr : atI (rLow ts) (k : Int) = respOf (ts.take k) t.lo.toNat t.du.toNat := by
    unfold atI; rw [if_pos h0]; exact rLow_at hs ht
  rw [hr] at hv
  have hok := ok_parts (set_ok hs (get_mem ht))
  have HSS := Lib.hid hs
  have HS := Lib.hid (set_take hs k)
  have HT := Lib.hid ht
  have HV := Lib.hid hv
  clear hr hv hs
  obtain ⟨bb, o, rfl, hbl, _⟩ := H.out.at_ k _ ht
  clear ht
  obtain ⟨lo, hi, du, ev, cr⟩ := t
  dsimp only at hok HV
  obtain ⟨p1, p2, p3, p4, p5, _⟩ := hok
  obtain ⟨lo, rfl⟩ := Int.eq_ofNat_of_zero_le (show 0 ≤ lo by omega)
  obtain ⟨du, rfl⟩ := Int.eq_ofNat_of_zero_le (show 0 ≤ du by omega)
  have HV' : Hid (resN (leastN (fun y => lo + dLow (ts.take k) y) lo du) = (v, b)) := HV.out
  go_enter Try.func30, Try.ntmps30
  go_wp2_with fail
  refine (sAt_is _ _ n c ts (k : Int) H.out hn true HH.out).mono ?_
  rintro e w1 ⟨rfl, hb⟩
  have HB1 := Lib.hid hb
  have hsz := hb.size
  have C1 := (Tks.get (H.out.below hb) HT.out).2
  have c0 := C1.c0
  clear C1 hb
  have i1 : (k : Int) < (n : Int) := h1
  go_wp2
  go_loopw [6] (fun i wr => ∃ x : Nat, i = .int .i64 x ∧ x ≤ 1000000 ∧ Hid (NoneBelow (fun y => lo + dLow (ts.take k) y) lo x) ∧ Below w.heap.size w wr) (fun i _ => du + 1 - (intOf i).toNat)
  case atStart => exact ⟨lo, rfl, by omega, none_start _ lo, HB1.out⟩
  case round =>
    obtain ⟨x, rfl, hx, HN, hb⟩ := hrel
    have HB := Lib.hid hb
    have hsz2 := hb.size
    have C2 := (Tks.get (H.out.below hb) HT.out).2
    have d0 := C2.c0
    have d2 := C2.c2
    dsimp only at d0 d2
    clear C2 hb
    by_cases hxd : x ≤ du
    · have hxd' : (x : Int) ≤ (du : Int) := by omega
      go_wp2
      go_loopw [7, 8] (fun s i wr => ∃ j m : Nat, j ≤ k ∧ i = .int .i64 j ∧ s = .int .i64 (m : Int) ∧ Hid (m = lo + dLow (ts.take j) x) ∧ Below w.heap.size w wr) (fun _ i _ => k - (intOf i).toNat)
      case atStart => exact ⟨0, lo, Nat.zero_le _, rfl, rfl, (show lo = _ by simp [dLow]), HB.out⟩
      case round =>
        obtain ⟨j, m, hj, rfl, rfl, HM, hb3⟩ := hrel
        have HB3 := Lib.hid hb3
        have hsz3 := hb3.size
        clear hb3
        by_cases hjk : j < k
        · obtain ⟨u, hu⟩ := get_at HL.out (show j < n by omega)
          have C3 := (Tks.get (H.out.below HB3.out) hu).2
          have HVu := Lib.hid (set_ok HSS.out (get_mem hu))
          have HTu := Lib.hid (dLow_take hu x)
          have hb1 := dLow_bound (set_take HSS.out j) x
          have hb2 := dmd_bound HVu.out x false
          obtain ⟨d, hd⟩ : ∃ d, dmd u x false = d := ⟨_, rfl⟩
          rw [hd] at hb2
          have hm1 : m ≤ lo + 100 * (x + 20) := by rw [HM.out]; omega
          have HM' : Hid (m + d = lo + dLow (ts.take (j + 1)) x) := by show _ = _; rw [HTu.out, hd, HM.out]; omega
          have HD := Lib.hid hd
          clear hd hu HTu hb1
          obtain ⟨lo', hi', du', ev', cr'⟩ := u
          obtain ⟨g0, g1, g2, g3, g4⟩ := C3
          dsimp only at g0 g1 g2 g3 g4
          have i2 : (j : Int) < (n : Int) := by omega
          go_wp2_with (go_at_call 59; refine (sDemand_is _ lo' hi' du' ev' cr' x false d HVu.out (by omega) HD.out).mono ?_; rintro e w2 ⟨rfl, rfl⟩)
          go_roundw
          case rel => exact ⟨j + 1, m + d, by omega, by go_num, by go_num, HM', bl_alloc HB3.out _⟩
          case measure => simp [intOf]; omega
        · obtain rfl : j = k := by omega
          have hmb : m ≤ lo + 100 * (x + 20) := by have := dLow_bound HS.out x; rw [HM.out]; omega
          by_cases he : m = x
          · have hei : (m : Int) = (x : Int) := by omega
            obtain ⟨rfl, rfl⟩ : x = v ∧ true = b := Prod.mk.inj (by rw [← HV'.out, least_hit HN.out hxd (by rw [← he]; exact (by rw [he]; exact HM.out.symm.trans he))]; rfl)
            go_wp2
            go_ret2
            exact ⟨rfl, HB3.out⟩
          · have hei : ¬ (m : Int) = (x : Int) := by omega
            have hnx := none_step (resp_mono (ts.take j) lo) (fun y _ => Nat.le_add_right lo (dLow (ts.take j) y)) HN.out
            have hlt := none_le (resp_mono (ts.take j) lo) (fun y _ => Nat.le_add_right lo (dLow (ts.take j) y)) HN.out
            have hnm : Hid (NoneBelow (fun y => lo + dLow (ts.take j) y) lo m) := by show NoneBelow _ _ _; rw [HM.out]; exact hnx
            have hlm : x ≤ m := by rw [HM.out]; exact hlt
            clear hnx hlt
            go_wp2
            go_roundw
            case rel => exact ⟨m, rfl, by omega, hnm, HB3.out⟩
            case measure => simp [intOf]; omega
    · have hxd' : ¬ (x : Int) ≤ (du : Int) := by omega
      obtain ⟨rfl, rfl⟩ : 0 = v ∧ false = b := Prod.mk.inj (by rw [← HV'.out, least_past HN.out (by omega)]; rfl)
      go_wp2
      go_ret2
      exact ⟨rfl, HB.out⟩

end Go.Proofs.Ytobkbbgllapcoab
