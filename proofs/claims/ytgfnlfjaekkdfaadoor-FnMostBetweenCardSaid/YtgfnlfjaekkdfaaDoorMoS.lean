/- Contracts of MostHigh, MostLow and what they call, in the reference. Nothing that was there is written. -/
import Derived.Test.YtgfnlfjaekkdfaaDoorMoI
import Derived.Test.YtgfnlfjaekkdfaaDoorNB
import Derived.Test.YtgfnlfjaekkdfaaDoorRt
namespace Go.Proofs.YtgfnlfjaekkdfaaDoor
open Go.RowKit
set_option linter.unusedVariables false

theorem own_le2 {w : World} {B n c : Nat} {A : Option Addr} {ts : List Tk} (h : Own w B (.slice A n c) ts) : n ≤ c := by
  have hn := h.reads.1
  subst hn
  exact own_le h
set_option maxRecDepth 100000 in
set_option maxHeartbeats 8000000 in
theorem sMost_is (w : World) (A : Option Addr) (n c : Nat) (ts : List Tk) (a pol : Int) (hi : Bool) (h : Tks w w.heap.size A n ts) (hn : n ≤ 1048576) (v : Nat) (b : Bool) (hb : mostB ts n a pol = b) (hv : v = if b then mostV ts a pol hi else 0) :
    Calls Tryd.prog 14 #[.slice A n c, .int .i64 a, .int .i64 pol, .bool hi] w (NBRes v b w) := by
  obtain ⟨i0, hi0, hz0, hz1, hz2⟩ := info_parts info_task
  have H := Lib.hid h
  have HL := Lib.hid h.len
  clear h
  cases hs : hasB ts n a
  · obtain rfl : b = false := by rw [← hb]; unfold mostB; rw [hs]; rfl
    obtain rfl : v = 0 := by rw [hv]; rfl
    have HS := Lib.hid hs
    clear hb hv hs
    go_enter Tryd.func14, Tryd.ntmps14
    go_wp2_with (go_at_call 20; refine (sAt_is _ A n c ts a H.out hn false HS.out).mono ?_; rintro e w1 ⟨rfl, hb1⟩; have HB1 := Lib.hid hb1; clear hb1)
    go_ret2
    exact ⟨rfl, HB1.out⟩
  have HS := Lib.hid hs
  cases hh : hBy ts pol
  · obtain rfl : b = false := by rw [← hb]; unfold mostB; rw [hh]; simp
    obtain rfl : v = 0 := by rw [hv]; rfl
    have HH := Lib.hid hh
    clear hb hv hs hh
    go_enter Tryd.func14, Tryd.ntmps14
    go_wp2_with (first
      | (go_at_call 20; refine (sAt_is _ A n c ts a H.out hn true HS.out).mono ?_; rintro e w1 ⟨rfl, hb1⟩; have HB1 := Lib.hid hb1; clear hb1)
      | (go_at_call 24; refine (sHoldsBy_is w1 A n c ts pol ((H.out.below HB1.out).more HB1.out.size) hn false HH.out).mono ?_; rintro e w2 ⟨rfl, hb2⟩; have HB2 := Lib.hid (bl_trans HB1.out hb2); clear hb2))
    go_ret2
    exact ⟨rfl, HB2.out⟩
  have HH := Lib.hid hh
  obtain rfl : b = true := by rw [← hb]; unfold mostB; rw [hs, hh]; rfl
  obtain ⟨hst, _, k, t, rfl, hk, ht, hd1, hd2, hd3⟩ := most_at HL.out hb
  obtain ⟨d, hd⟩ : ∃ d : Nat, t.du.toNat = d := ⟨_, rfl⟩
  have htd : t.du = (d : Int) := by omega
  have HTD := Lib.hid htd
  have hvv : v = mostN ts k pol hi d := by rw [hv, if_pos rfl]; unfold mostV; rw [show ((k : Int)).toNat = k by omega, getD_at ht, hd]
  have HPOS := Lib.hid (show 1 ≤ mostN ts k pol hi d by rw [← hd]; exact (most_self hh ht).2)
  have HV := Lib.hid hvv
  have HT := Lib.hid ht
  have h5 := setB_len hst
  have hl0 := HL.out
  rw [hl0] at h5
  clear hb hv hs hh hst hvv hl0 htd
  go_enter Tryd.func14, Tryd.ntmps14
  go_wp2_with (first
    | (go_at_call 20; refine (sAt_is _ A n c ts k H.out hn true HS.out).mono ?_; rintro e w1 ⟨rfl, hb1⟩; have HB1 := Lib.hid hb1; clear hb1)
    | (go_at_call 24; refine (sHoldsBy_is w1 A n c ts pol ((H.out.below HB1.out).more HB1.out.size) hn true HH.out).mono ?_; rintro e w2 ⟨rfl, hb2⟩; have HB2 := Lib.hid (bl_trans HB1.out hb2); clear hb2))
  go_loopw [10, 11] (fun v i wr => ∃ p q : Nat, p = q + 1 ∧ q ≤ d ∧ i = .int .i64 (p : Int) ∧ v = .int .i64 ((mostN ts k pol hi q : Nat) : Int) ∧ Hid (Below w.heap.size w wr)) (fun _ i _ => d + 1 - (intOf i).toNat)
  case atStart => exact ⟨1, 0, rfl, Nat.zero_le _, rfl, rfl, HB2⟩
  case round =>
    obtain ⟨p, q, hp, hq, rfl, rfl, HB⟩ := hrel
    have HPQ := Lib.hid hp
    have HZ := Lib.hid (show (p : Int) = ((q + 1 : Nat) : Int) by rw [hp])
    have hpd1 : q < d → (p : Int) ≤ (d : Int) := by omega
    have hpd2 : ¬ q < d → ¬ (p : Int) ≤ (d : Int) := by omega
    clear hp
    obtain ⟨y, hy⟩ : ∃ y, mostN ts k pol hi q = y := ⟨_, rfl⟩
    have HY := Lib.hid hy
    rw [hy]
    clear hy
    obtain ⟨bb, o, rfl, hbl, c0, c1, c2', c3, c4⟩ := (H.out.below HB.out).at_ k t HT.out
    have hdc := c2'
    rw [HTD.out] at hdc
    have q1 : (0 : Int) ≤ (k : Int) := by omega
    have q2 : (k : Int) < (n : Int) := by omega
    have hsz : w.heap.size ≤ wr.heap.size := HB.out.size
    by_cases hlt : q < d
    · have hpd : (p : Int) ≤ (d : Int) := hpd1 hlt
      clear c0 c1 c2' c3 c4
      obtain ⟨lo, hh', du, ev, cr⟩ := t
      cases hi
      · cases cr
        · go_wp2_with (at_builtin; refine wpList_append_own _ rfl (.tmp 33) (.tmp 34) 23 rfl wr.heap.size 29 i0 _ 5 40 Tryd.underlying23 hi0 hz0 hz1 hz2 rfl (by decide) (.slice (some ⟨wr.heap.size, 0, none⟩) 0 0) 0 [] rfl (by exact Own.empty wr) ⟨bb, o, none⟩ n c (ts.flatMap Tk.cells) rfl (by rw [cells_length, HL.out]) (Tks.cells ((H.out.below HB.out).below ((bl_alloc (Below.refl _ wr) _).mono hsz))) (cells_one _) (by unfold maxLen; omega) (by omega) (by simp) ?_; intro v2 w3 hown hgrow hiff; have HO3 := Lib.hid (show Own w3 wr.heap.size v2 ts from by unfold Own; rw [HL.out]; simpa using hown); have HB3 := Lib.hid (show Below w.heap.size w w3 from (bl_alloc HB.out _).grown hgrow (by simp; omega) (fun x e => by have e2 : some wr.heap.size = some x := e; injection e2 with e2; omega)); obtain ⟨gg, co, hv2⟩ : ∃ gg co, v2 = .slice (some ⟨gg, 0, none⟩) n co := (by rcases HO3.out.2 with ⟨e, h0⟩ | ⟨gg, cap', cur, e, _⟩; (have := (hiff.1 e).1; cases this); exact ⟨gg, cap', by rw [← HL.out]; exact e⟩); subst hv2; obtain ⟨b3, o3, eA, hbl3, d0, d1, d2, d3, d4⟩ := HO3.out.reads.2.at_ k _ HT.out; injection eA with eA; injection eA with eA1 eA2; subst eA1 eA2; simp only [Nat.zero_add] at d0 d1 d2 d3 d4; have hfz := HO3.out.frozen; have hcn := own_le2 HO3.out; have hgs := World.ownsRow.lt HO3.out _ rfl; clear hown hgrow hiff)
          have HOP := Lib.hid ((HO3.out.put k (⟨(p : Int), (p : Int), du, ev, false⟩ : Tk) (by rw [HL.out]; exact hk)).alloc (.cells #[.int .i64 (⟨(p : Int), (p : Int), du, ev, false⟩ : Tk).lo, .int .i64 (⟨(p : Int), (p : Int), du, ev, false⟩ : Tk).hi, .int .i64 (⟨(p : Int), (p : Int), du, ev, false⟩ : Tk).du, .int .i64 (⟨(p : Int), (p : Int), du, ev, false⟩ : Tk).ev, .bool (⟨(p : Int), (p : Int), du, ev, false⟩ : Tk).cr] 29))
          have hnew : ts.set k (⟨(p : Int), (p : Int), du, ev, false⟩ : Tk) = giveL ts k false ((q + 1 : Nat) : Int) := by
            unfold giveL
            rw [getD_at HT.out, ← HZ.out]
            rfl
          rw [hnew] at HOP
          have hge : w.heap.size ≤ gg := Nat.le_trans hsz hgs.1
          have HBX := Lib.hid (bl_alloc (bl_set (p := ⟨gg, k * 5 + 4, none⟩) (bl_set (p := ⟨gg, k * 5 + 3, none⟩) (bl_set (p := ⟨gg, k * 5 + 2, none⟩) (bl_set (p := ⟨gg, k * 5 + 1, none⟩) (bl_set (p := ⟨gg, k * 5, none⟩) HB3.out hge (.int .i64 (⟨(p : Int), (p : Int), du, ev, false⟩ : Tk).lo)) hge (.int .i64 (⟨(p : Int), (p : Int), du, ev, false⟩ : Tk).hi)) hge (.int .i64 (⟨(p : Int), (p : Int), du, ev, false⟩ : Tk).du)) hge (.int .i64 (⟨(p : Int), (p : Int), du, ev, false⟩ : Tk).ev)) hge (.bool (⟨(p : Int), (p : Int), du, ev, false⟩ : Tk).cr)) (.cells #[.int .i64 (⟨(p : Int), (p : Int), du, ev, false⟩ : Tk).lo, .int .i64 (⟨(p : Int), (p : Int), du, ev, false⟩ : Tk).hi, .int .i64 (⟨(p : Int), (p : Int), du, ev, false⟩ : Tk).du, .int .i64 (⟨(p : Int), (p : Int), du, ev, false⟩ : Tk).ev, .bool (⟨(p : Int), (p : Int), du, ev, false⟩ : Tk).cr] 29))
          obtain ⟨r, hr⟩ : ∃ r, hBy (giveL ts k false ((q + 1 : Nat) : Int)) pol = r := ⟨_, rfl⟩
          have HR := Lib.hid hr
          have HST := Lib.hid (most_step ts k pol false q r hr)
          clear hr hnew
          refine (sHoldsBy_is _ _ n co _ pol HOP.out.reads.2 hn r HR.out).mono ?_
          rintro e w6 ⟨rfl, hb6⟩
          have HB6 := Lib.hid (bl_trans HBX.out hb6)
          clear hb6
          cases r
          · go_wp2
            go_roundw
            case rel => exact ⟨p + 1, q + 1, by have := HPQ.out; omega, by omega, by go_num, by rw [HST.out, HY.out]; rfl, HB6⟩
            case measure => have := HPQ.out; simp [intOf]; omega
          · go_wp2
            go_roundw
            case rel => exact ⟨p + 1, q + 1, by have := HPQ.out; omega, by omega, by go_num, by rw [HST.out, HPQ.out]; rfl, HB6⟩
            case measure => have := HPQ.out; simp [intOf]; omega
        · go_wp2_with (at_builtin; refine wpList_append_own _ rfl (.tmp 33) (.tmp 34) 23 rfl wr.heap.size 29 i0 _ 5 40 Tryd.underlying23 hi0 hz0 hz1 hz2 rfl (by decide) (.slice (some ⟨wr.heap.size, 0, none⟩) 0 0) 0 [] rfl (by exact Own.empty wr) ⟨bb, o, none⟩ n c (ts.flatMap Tk.cells) rfl (by rw [cells_length, HL.out]) (Tks.cells ((H.out.below HB.out).below ((bl_alloc (Below.refl _ wr) _).mono hsz))) (cells_one _) (by unfold maxLen; omega) (by omega) (by simp) ?_; intro v2 w3 hown hgrow hiff; have HO3 := Lib.hid (show Own w3 wr.heap.size v2 ts from by unfold Own; rw [HL.out]; simpa using hown); have HB3 := Lib.hid (show Below w.heap.size w w3 from (bl_alloc HB.out _).grown hgrow (by simp; omega) (fun x e => by have e2 : some wr.heap.size = some x := e; injection e2 with e2; omega)); obtain ⟨gg, co, hv2⟩ : ∃ gg co, v2 = .slice (some ⟨gg, 0, none⟩) n co := (by rcases HO3.out.2 with ⟨e, h0⟩ | ⟨gg, cap', cur, e, _⟩; (have := (hiff.1 e).1; cases this); exact ⟨gg, cap', by rw [← HL.out]; exact e⟩); subst hv2; obtain ⟨b3, o3, eA, hbl3, d0, d1, d2, d3, d4⟩ := HO3.out.reads.2.at_ k _ HT.out; injection eA with eA; injection eA with eA1 eA2; subst eA1 eA2; simp only [Nat.zero_add] at d0 d1 d2 d3 d4; have hfz := HO3.out.frozen; have hcn := own_le2 HO3.out; have hgs := World.ownsRow.lt HO3.out _ rfl; clear hown hgrow hiff)
          have HOP := Lib.hid ((HO3.out.put k (⟨(p : Int), hh', du, ev, true⟩ : Tk) (by rw [HL.out]; exact hk)).alloc (.cells #[.int .i64 (⟨(p : Int), hh', du, ev, true⟩ : Tk).lo, .int .i64 (⟨(p : Int), hh', du, ev, true⟩ : Tk).hi, .int .i64 (⟨(p : Int), hh', du, ev, true⟩ : Tk).du, .int .i64 (⟨(p : Int), hh', du, ev, true⟩ : Tk).ev, .bool (⟨(p : Int), hh', du, ev, true⟩ : Tk).cr] 29))
          have hnew : ts.set k (⟨(p : Int), hh', du, ev, true⟩ : Tk) = giveL ts k false ((q + 1 : Nat) : Int) := by
            unfold giveL
            rw [getD_at HT.out, ← HZ.out]
            rfl
          rw [hnew] at HOP
          have hge : w.heap.size ≤ gg := Nat.le_trans hsz hgs.1
          have HBX := Lib.hid (bl_alloc (bl_set (p := ⟨gg, k * 5 + 4, none⟩) (bl_set (p := ⟨gg, k * 5 + 3, none⟩) (bl_set (p := ⟨gg, k * 5 + 2, none⟩) (bl_set (p := ⟨gg, k * 5 + 1, none⟩) (bl_set (p := ⟨gg, k * 5, none⟩) HB3.out hge (.int .i64 (⟨(p : Int), hh', du, ev, true⟩ : Tk).lo)) hge (.int .i64 (⟨(p : Int), hh', du, ev, true⟩ : Tk).hi)) hge (.int .i64 (⟨(p : Int), hh', du, ev, true⟩ : Tk).du)) hge (.int .i64 (⟨(p : Int), hh', du, ev, true⟩ : Tk).ev)) hge (.bool (⟨(p : Int), hh', du, ev, true⟩ : Tk).cr)) (.cells #[.int .i64 (⟨(p : Int), hh', du, ev, true⟩ : Tk).lo, .int .i64 (⟨(p : Int), hh', du, ev, true⟩ : Tk).hi, .int .i64 (⟨(p : Int), hh', du, ev, true⟩ : Tk).du, .int .i64 (⟨(p : Int), hh', du, ev, true⟩ : Tk).ev, .bool (⟨(p : Int), hh', du, ev, true⟩ : Tk).cr] 29))
          obtain ⟨r, hr⟩ : ∃ r, hBy (giveL ts k false ((q + 1 : Nat) : Int)) pol = r := ⟨_, rfl⟩
          have HR := Lib.hid hr
          have HST := Lib.hid (most_step ts k pol false q r hr)
          clear hr hnew
          refine (sHoldsBy_is _ _ n co _ pol HOP.out.reads.2 hn r HR.out).mono ?_
          rintro e w6 ⟨rfl, hb6⟩
          have HB6 := Lib.hid (bl_trans HBX.out hb6)
          clear hb6
          cases r
          · go_wp2
            go_roundw
            case rel => exact ⟨p + 1, q + 1, by have := HPQ.out; omega, by omega, by go_num, by rw [HST.out, HY.out]; rfl, HB6⟩
            case measure => have := HPQ.out; simp [intOf]; omega
          · go_wp2
            go_roundw
            case rel => exact ⟨p + 1, q + 1, by have := HPQ.out; omega, by omega, by go_num, by rw [HST.out, HPQ.out]; rfl, HB6⟩
            case measure => have := HPQ.out; simp [intOf]; omega
      · go_wp2_with (at_builtin; refine wpList_append_own _ rfl (.tmp 33) (.tmp 34) 23 rfl wr.heap.size 29 i0 _ 5 40 Tryd.underlying23 hi0 hz0 hz1 hz2 rfl (by decide) (.slice (some ⟨wr.heap.size, 0, none⟩) 0 0) 0 [] rfl (by exact Own.empty wr) ⟨bb, o, none⟩ n c (ts.flatMap Tk.cells) rfl (by rw [cells_length, HL.out]) (Tks.cells ((H.out.below HB.out).below ((bl_alloc (Below.refl _ wr) _).mono hsz))) (cells_one _) (by unfold maxLen; omega) (by omega) (by simp) ?_; intro v2 w3 hown hgrow hiff; have HO3 := Lib.hid (show Own w3 wr.heap.size v2 ts from by unfold Own; rw [HL.out]; simpa using hown); have HB3 := Lib.hid (show Below w.heap.size w w3 from (bl_alloc HB.out _).grown hgrow (by simp; omega) (fun x e => by have e2 : some wr.heap.size = some x := e; injection e2 with e2; omega)); obtain ⟨gg, co, hv2⟩ : ∃ gg co, v2 = .slice (some ⟨gg, 0, none⟩) n co := (by rcases HO3.out.2 with ⟨e, h0⟩ | ⟨gg, cap', cur, e, _⟩; (have := (hiff.1 e).1; cases this); exact ⟨gg, cap', by rw [← HL.out]; exact e⟩); subst hv2; obtain ⟨b3, o3, eA, hbl3, d0, d1, d2, d3, d4⟩ := HO3.out.reads.2.at_ k _ HT.out; injection eA with eA; injection eA with eA1 eA2; subst eA1 eA2; simp only [Nat.zero_add] at d0 d1 d2 d3 d4; have hfz := HO3.out.frozen; have hcn := own_le2 HO3.out; have hgs := World.ownsRow.lt HO3.out _ rfl; clear hown hgrow hiff)
        have HOP := Lib.hid ((HO3.out.put k (⟨lo, (p : Int), du, ev, cr⟩ : Tk) (by rw [HL.out]; exact hk)).alloc (.cells #[.int .i64 (⟨lo, (p : Int), du, ev, cr⟩ : Tk).lo, .int .i64 (⟨lo, (p : Int), du, ev, cr⟩ : Tk).hi, .int .i64 (⟨lo, (p : Int), du, ev, cr⟩ : Tk).du, .int .i64 (⟨lo, (p : Int), du, ev, cr⟩ : Tk).ev, .bool (⟨lo, (p : Int), du, ev, cr⟩ : Tk).cr] 29))
        have hnew : ts.set k (⟨lo, (p : Int), du, ev, cr⟩ : Tk) = giveL ts k true ((q + 1 : Nat) : Int) := by
          unfold giveL
          rw [getD_at HT.out, ← HZ.out]
          rfl
        rw [hnew] at HOP
        have hge : w.heap.size ≤ gg := Nat.le_trans hsz hgs.1
        have HBX := Lib.hid (bl_alloc (bl_set (p := ⟨gg, k * 5 + 4, none⟩) (bl_set (p := ⟨gg, k * 5 + 3, none⟩) (bl_set (p := ⟨gg, k * 5 + 2, none⟩) (bl_set (p := ⟨gg, k * 5 + 1, none⟩) (bl_set (p := ⟨gg, k * 5, none⟩) HB3.out hge (.int .i64 (⟨lo, (p : Int), du, ev, cr⟩ : Tk).lo)) hge (.int .i64 (⟨lo, (p : Int), du, ev, cr⟩ : Tk).hi)) hge (.int .i64 (⟨lo, (p : Int), du, ev, cr⟩ : Tk).du)) hge (.int .i64 (⟨lo, (p : Int), du, ev, cr⟩ : Tk).ev)) hge (.bool (⟨lo, (p : Int), du, ev, cr⟩ : Tk).cr)) (.cells #[.int .i64 (⟨lo, (p : Int), du, ev, cr⟩ : Tk).lo, .int .i64 (⟨lo, (p : Int), du, ev, cr⟩ : Tk).hi, .int .i64 (⟨lo, (p : Int), du, ev, cr⟩ : Tk).du, .int .i64 (⟨lo, (p : Int), du, ev, cr⟩ : Tk).ev, .bool (⟨lo, (p : Int), du, ev, cr⟩ : Tk).cr] 29))
        obtain ⟨r, hr⟩ : ∃ r, hBy (giveL ts k true ((q + 1 : Nat) : Int)) pol = r := ⟨_, rfl⟩
        have HR := Lib.hid hr
        have HST := Lib.hid (most_step ts k pol true q r hr)
        clear hr hnew
        refine (sHoldsBy_is _ _ n co _ pol HOP.out.reads.2 hn r HR.out).mono ?_
        rintro e w6 ⟨rfl, hb6⟩
        have HB6 := Lib.hid (bl_trans HBX.out hb6)
        clear hb6
        cases r
        · go_wp2
          go_roundw
          case rel => exact ⟨p + 1, q + 1, by have := HPQ.out; omega, by omega, by go_num, by rw [HST.out, HY.out]; rfl, HB6⟩
          case measure => have := HPQ.out; simp [intOf]; omega
        · go_wp2
          go_roundw
          case rel => exact ⟨p + 1, q + 1, by have := HPQ.out; omega, by omega, by go_num, by rw [HST.out, HPQ.out]; rfl, HB6⟩
          case measure => have := HPQ.out; simp [intOf]; omega
    · have hqd : q = d := by omega
      have hpd : ¬ (p : Int) ≤ (d : Int) := hpd2 hlt
      have hyv : y = v := by rw [HV.out, ← HY.out, hqd]
      have hy1 : 1 ≤ y := by have := HPOS.out; rw [← hqd, HY.out] at this; exact this
      have hyp0 : 0 < y := by omega
      subst hyv
      clear c0 c1 c2' c3 c4
      go_wp2
      go_ret2
      exact ⟨rfl, HB.out⟩

set_option maxRecDepth 100000 in
set_option maxHeartbeats 2000000 in
theorem sMostLow_is (w : World) (A : Option Addr) (n c : Nat) (ts : List Tk) (a pol : Int) (h : Tks w w.heap.size A n ts) (hn : n ≤ 1048576) (v : Nat) (b : Bool) (hb : mostB ts n a pol = b) (hv : v = if b then mostV ts a pol false else 0) :
    Calls Tryd.prog 7 #[.slice A n c, .int .i64 a, .int .i64 pol] w (NBRes v b w) := by
  have H := Lib.hid h
  have HB := Lib.hid hb
  have HV := Lib.hid hv
  clear h hb hv
  go_enter Tryd.func7, Tryd.ntmps7
  go_wp2_with fail
  refine (sMost_is w A n c ts a pol false H.out hn v b HB.out HV.out).mono ?_
  rintro e w1 ⟨rfl, hb1⟩
  have HB1 := Lib.hid hb1
  clear hb1
  go_wp2
  go_ret2
  exact ⟨rfl, HB1.out⟩
set_option maxRecDepth 100000 in
set_option maxHeartbeats 2000000 in
theorem sMostHigh_is (w : World) (A : Option Addr) (n c : Nat) (ts : List Tk) (a pol : Int) (h : Tks w w.heap.size A n ts) (hn : n ≤ 1048576) (v : Nat) (b : Bool) (hb : mostHB ts n a pol = b) (hv : v = if b then mostV ts a pol true else 0) :
    Calls Tryd.prog 10 #[.slice A n c, .int .i64 a, .int .i64 pol] w (NBRes v b w) := by
  have H := Lib.hid h
  have HL := Lib.hid h.len
  clear h
  cases hs : hasB ts n a
  · obtain rfl : b = false := by rw [← hb]; unfold mostHB mostB; rw [hs]; rfl
    obtain rfl : v = 0 := by rw [hv]; rfl
    have HS := Lib.hid hs
    clear hb hv hs
    go_enter Tryd.func10, Tryd.ntmps10
    go_wp2_with (go_at_call 20; refine (sAt_is _ A n c ts a H.out hn false HS.out).mono ?_; rintro e w1 ⟨rfl, hb1⟩; have HB1 := Lib.hid hb1; clear hb1)
    go_ret2
    exact ⟨rfl, HB1.out⟩
  have HS := Lib.hid hs
  obtain ⟨_, k, rfl, hk⟩ := has_at hs
  obtain ⟨t, ht⟩ : ∃ t, ts[k]? = some t := ⟨_, List.getElem?_eq_getElem (by rw [HL.out]; exact hk)⟩
  have hkn : ((k : Int)).toNat = k := by omega
  have HT := Lib.hid ht
  have q1 : (0 : Int) ≤ (k : Int) := by omega
  have q2 : (k : Int) < (n : Int) := by omega
  cases hc : t.cr
  · obtain rfl : b = false := by rw [← hb]; unfold mostHB; rw [hkn, getD_at ht, hc]; simp
    obtain rfl : v = 0 := by rw [hv]; rfl
    clear hb hv hs
    go_enter Tryd.func10, Tryd.ntmps10
    go_wp2_with fail
    refine (sAt_is _ A n c ts k H.out hn true HS.out).mono ?_
    rintro e w1 ⟨rfl, hb1⟩
    have HB1 := Lib.hid hb1
    clear hb1
    obtain ⟨bb, o, rfl, hbl, c0, c1, c2', c3, c4⟩ := (H.out.below HB1.out).at_ k t HT.out
    rw [hc] at c4
    clear ht hc
    go_wp2
    go_ret2
    exact ⟨rfl, HB1.out⟩
  · have HM : Hid (mostB ts n k pol = b) := by show _ = _; rw [← hb]; unfold mostHB; rw [hkn, getD_at ht, hc]; simp
    have HV := Lib.hid hv
    clear hb hv hs
    go_enter Tryd.func10, Tryd.ntmps10
    go_wp2_with fail
    refine (sAt_is _ A n c ts k H.out hn true HS.out).mono ?_
    rintro e w1 ⟨rfl, hb1⟩
    have HB1 := Lib.hid hb1
    clear hb1
    obtain ⟨bb, o, rfl, hbl, c0, c1, c2', c3, c4⟩ := (H.out.below HB1.out).at_ k t HT.out
    rw [hc] at c4
    clear ht hc
    go_wp2_with fail
    refine (sMost_is w1 (some ⟨bb, o, none⟩) n c ts k pol true ((H.out.below HB1.out).more HB1.out.size) hn v b HM.out HV.out).mono ?_
    rintro e w2 ⟨rfl, hb2⟩
    have HB2 := Lib.hid (bl_trans HB1.out hb2)
    clear hb2
    go_wp2
    go_ret2
    exact ⟨rfl, HB2.out⟩

end Go.Proofs.YtgfnlfjaekkdfaaDoor
