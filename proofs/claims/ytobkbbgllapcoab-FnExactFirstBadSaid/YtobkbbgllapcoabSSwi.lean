/- Contracts of the reference's ResponseSwitch. Nothing that was there is written. -/
import Derived.Test.YtobkbbgllapcoabSwi
namespace Go.Proofs.Ytobkbbgllapcoab
open Go.RowKit
set_option linter.unusedVariables false

set_option maxRecDepth 100000 in
set_option maxHeartbeats 4000000 in
theorem sRSwi_is (w : World) (A : Option Addr) (n c : Nat) (ts : List Tk) (a : Int) (h : Tks w w.heap.size A n ts) (hn : n ≤ 1048576) (v : Nat) (b : Bool) (hv : resN (atI (rSwi ts) a) = (v, b)) :
    Calls Try.prog 36 #[.slice A n c, .int .i64 a] w (NbRes v b w) := by
  have H := Lib.hid h
  have HL := Lib.hid h.len
  clear h
  obtain ⟨l, b0, h0⟩ : ∃ l b0, resN (atI (rLow ts) a) = (l, b0) := ⟨_, _, rfl⟩
  have H0 := Lib.hid h0
  cases b0
  · obtain ⟨hno, rfl⟩ := res_false h0
    rw [swi_none hno] at hv
    obtain ⟨rfl, rfl⟩ := Prod.mk.inj hv
    clear hv hno h0
    go_enter Try.func36, Try.ntmps36
    go_wp2_with (go_at_call 30; refine (sRLow_is _ A n c ts a H.out hn 0 false H0.out).mono ?_; rintro e w1 ⟨rfl, hb⟩)
    go_ret2
    exact ⟨rfl, hb⟩
  obtain ⟨k, rfl, hr⟩ := at_some (res_true h0)
  obtain ⟨hset, t, ht, hf⟩ := rLow_some hr
  obtain ⟨_, _, x3, _⟩ := resp_fix hf
  have hk : k < n := by have := (List.getElem?_eq_some_iff.1 ht).1; rw [HL.out] at this; exact this
  obtain ⟨bb, o, rfl, hbl, _⟩ := H.out.at_ k _ ht
  have hok := ok_parts (set_ok hset (get_mem ht))
  have HT := Lib.hid ht
  have HSS := Lib.hid hset
  have HS := Lib.hid (set_take hset k)
  rw [at_nat] at hv
  have i1 : (k : Int) < (n : Int) := by omega
  cases hc : t.cr
  · rw [rSwi_not ht hc] at hv
    obtain ⟨rfl, rfl⟩ := Prod.mk.inj hv
    clear hv hf hr h0 ht hset
    go_enter Try.func36, Try.ntmps36
    go_wp2_with fail
    refine (sRLow_is _ _ n c ts (k : Int) H.out hn l true H0.out).mono ?_
    rintro e w1 ⟨rfl, hb⟩
    have HB1 := Lib.hid hb
    have hsz := hb.size
    have C1 := (Tks.get (H.out.below hb) HT.out).2.c4
    rw [hc] at C1
    clear hb
    go_wp2
    go_ret2
    exact ⟨rfl, HB1.out⟩
  rw [rSwi_at hr ht hc] at hv
  have HV := Lib.hid hv
  clear hv hf hr h0 ht hset
  obtain ⟨lo, hi, du, ev, cr⟩ := t
  dsimp only at hok HV hc x3
  subst hc
  obtain ⟨p1, p2, p3, p4, p5, _⟩ := hok
  obtain ⟨hi, rfl⟩ := Int.eq_ofNat_of_zero_le (show 0 ≤ hi by omega)
  obtain ⟨du, rfl⟩ := Int.eq_ofNat_of_zero_le (show 0 ≤ du by omega)
  have hl20 : l ≤ 20 := by omega
  have HV' : Hid (resN (leastN (fun y => hi + dSwi (ts.take k) l y) hi du) = (v, b)) := HV.out
  go_enter Try.func36, Try.ntmps36
  go_wp2_with fail
  refine (sRLow_is _ _ n c ts (k : Int) H.out hn l true H0.out).mono ?_
  rintro e w1 ⟨rfl, hb⟩
  have HB1 := Lib.hid hb
  have hsz := hb.size
  obtain ⟨c0, c1, c2, c3, c4⟩ := (Tks.get (H.out.below hb) HT.out).2
  dsimp only at c0 c1 c2 c3 c4
  clear hb
  go_wp2
  go_loopw [8] (fun i wr => ∃ x : Nat, i = .int .i64 x ∧ x ≤ 1000000 ∧ Hid (NoneBelow (fun y => hi + dSwi (ts.take k) l y) hi x) ∧ Below w.heap.size w wr) (fun i _ => du + 1 - (intOf i).toNat)
  case atStart => exact ⟨hi, rfl, by omega, none_start _ hi, HB1.out⟩
  case round =>
    obtain ⟨x, rfl, hx, HN, hb⟩ := hrel
    have HB := Lib.hid hb
    have hsz2 := hb.size
    have C2 := (Tks.get (H.out.below hb) HT.out).2
    have d1 := C2.c1
    have d2 := C2.c2
    dsimp only at d1 d2
    clear C2 hb
    by_cases hxd : x ≤ du
    · have hxd' : (x : Int) ≤ (du : Int) := by omega
      go_wp2
      go_loopw [9, 10] (fun s i wr => ∃ j m : Nat, j ≤ k ∧ i = .int .i64 j ∧ s = .int .i64 (m : Int) ∧ Hid (m = hi + dSwi (ts.take j) l x) ∧ Below w.heap.size w wr) (fun _ i _ => k - (intOf i).toNat)
      case atStart => exact ⟨0, hi, Nat.zero_le _, rfl, rfl, (show hi = _ by simp [dSwi]), HB.out⟩
      case round =>
        obtain ⟨j, m, hj, rfl, rfl, HM, hb3⟩ := hrel
        have HB3 := Lib.hid hb3
        have hsz3 := hb3.size
        clear hb3
        by_cases hjk : j < k
        · obtain ⟨u, hu⟩ := get_at HL.out (show j < n by omega)
          have C3 := (Tks.get (H.out.below HB3.out) hu).2
          have HVu := Lib.hid (set_ok HSS.out (get_mem hu))
          have HTu := Lib.hid (dSwi_take hu l x)
          have hb1 := dSwi_bound (set_take HSS.out j) l x
          have hb2 := dmS_bound HVu.out l x
          obtain ⟨d, hd⟩ : ∃ d, dmS l x u = d := ⟨_, rfl⟩
          rw [hd] at hb2
          have hm1 : m ≤ hi + 100 * (l + x + 20) := by rw [HM.out]; omega
          have HM' : Hid (m + d = hi + dSwi (ts.take (j + 1)) l x) := by show _ = _; rw [HTu.out, hd, HM.out]; omega
          have i2 : (j : Int) < (n : Int) := by omega
          cases hcu : u.cr
          · have HD : Hid (dmd u l false = d) := by show _ = _; rw [← hd]; unfold dmS; rw [hcu]; rfl
            clear hd hu HTu hb1
            obtain ⟨lo', hi', du', ev', cr'⟩ := u
            obtain ⟨g0, g1, g2, g3, g4⟩ := C3
            dsimp only at g0 g1 g2 g3 g4 hcu
            subst hcu
            go_wp2_with (go_at_call 59; refine (sDemand_is _ lo' hi' du' ev' false l false d HVu.out (by omega) HD.out).mono ?_; rintro e w2 ⟨rfl, rfl⟩)
            go_roundw
            case rel => exact ⟨j + 1, m + d, by omega, by go_num, by go_num, HM', bl_alloc HB3.out _⟩
            case measure => simp [intOf]; omega
          · have HD : Hid (dmd u x true = d) := by show _ = _; rw [← hd]; unfold dmS; rw [hcu]; rfl
            clear hd hu HTu hb1
            obtain ⟨lo', hi', du', ev', cr'⟩ := u
            obtain ⟨g0, g1, g2, g3, g4⟩ := C3
            dsimp only at g0 g1 g2 g3 g4 hcu
            subst hcu
            go_wp2_with (go_at_call 59; refine (sDemand_is _ lo' hi' du' ev' true x true d HVu.out (by omega) HD.out).mono ?_; rintro e w2 ⟨rfl, rfl⟩)
            go_roundw
            case rel => exact ⟨j + 1, m + d, by omega, by go_num, by go_num, HM', bl_alloc HB3.out _⟩
            case measure => simp [intOf]; omega
        · obtain rfl : j = k := by omega
          have hmb : m ≤ hi + 100 * (l + x + 20) := by have := dSwi_bound HS.out l x; rw [HM.out]; omega
          by_cases he : m = x
          · have hei : (m : Int) = (x : Int) := by omega
            obtain ⟨rfl, rfl⟩ : x = v ∧ true = b := Prod.mk.inj (by rw [← HV'.out, least_hit HN.out hxd (HM.out.symm.trans he)]; rfl)
            go_wp2
            go_ret2
            exact ⟨rfl, HB3.out⟩
          · have hei : ¬ (m : Int) = (x : Int) := by omega
            have hnx := none_step (swi_mono (ts.take j) l hi) (fun y _ => Nat.le_add_right hi (dSwi (ts.take j) l y)) HN.out
            have hlt := none_le (swi_mono (ts.take j) l hi) (fun y _ => Nat.le_add_right hi (dSwi (ts.take j) l y)) HN.out
            have hnm : Hid (NoneBelow (fun y => hi + dSwi (ts.take j) l y) hi m) := by show NoneBelow _ _ _; rw [HM.out]; exact hnx
            have hlm : x ≤ m := by rw [HM.out]; exact hlt
            clear hnx hlt
            go_wp2
            go_roundw
            case rel => exact ⟨m, rfl, by omega, hnm, HB3.out⟩
            case measure => simp [intOf]; omega
    · have hxd' : ¬ (x : Int) ≤ (du : Int) := by omega
      obtain ⟨rfl, rfl⟩ : 0 = v ∧ false = b := Prod.mk.inj (by rw [← HV'.out, least_past HN.out (by omega)]; rfl)
      go_wp2
      go_ret2
      exact ⟨rfl, HB.out⟩

end Go.Proofs.Ytobkbbgllapcoab
