/- The walk of the law FnMostLow. -/
import Derived.Test.YtfjbkblodgdcnaaDoorD8c
import Derived.Test.YtfjbkblodgdcnaaDoorMoS
import Derived.Test.YtfjbkblodgdcnaaDoorNB
import Derived.Test.YtfjbkblodgdcnaaDoorNA
namespace Go.Proofs.YtfjbkblodgdcnaaDoor
open Go.RowKit
set_option linter.unusedVariables false

set_option maxRecDepth 100000 in
set_option maxHeartbeats 4000000 in
theorem fnMostLow_walk (w : World) (A : Option Addr) (n c : Nat) (f : Nat → Int) (h : Code w w.heap.size A n c f) (e0 : Addr) (he : EG w e0) :
    Calls Tryd.prog 5 #[.slice A n c] w fun e w' => e = .returned (.bool true) ∧ Below w.heap.size w w' := by
  have H := Lib.hid h
  have HE := Lib.hid he
  have hle := h.le
  have hmax := h.max
  unfold maxLen at hmax
  clear h he
  by_cases hn : 1048576 < n
  · go_enter Tryd.func5, Tryd.ntmps5
    go_wp2
    go_ret
    exact ⟨rfl, Below.refl _ _⟩
  go_enter Tryd.func5, Tryd.ntmps5
  go_wp2_with fail
  refine (dDrawMostLow_any _ A n c f H.out).mono ?_
  rintro e w1 ⟨At, ct, ts, z, pol, rfl, hl, hzz, hpp, ho, hb⟩
  have HB1 := Lib.hid hb
  have HO := Lib.hid ho
  have HT := Lib.hid ho.reads.2
  have hct := own_le ho
  clear hb ho H
  have HD1 := Lib.hid (Below.refl w1.heap.size w1)
  have hs1 := HB1.out.size
  obtain ⟨b, hv⟩ : ∃ b, mostB ts ts.length z pol = b := ⟨_, rfl⟩
  obtain ⟨v, hvv⟩ : ∃ v, v = if b then mostV ts z pol false else 0 := ⟨_, rfl⟩
  have HV := Lib.hid hv
  have HVV : Hid (v = if b = true then mostV ts z pol false else 0) := hvv
  clear hv hvv
  go_wp2_with fail
  refine (iMostLow_is w1 At _ ct ts z pol (tks_to HT.out HD1.out) (by omega) hct e0 (HE.out.below HB1.out) v b HV.out HVV.out).mono ?_
  rintro e w2 ⟨rfl, hb⟩
  have hs2 := hb.size
  have HB2 := Lib.hid (show Below w.heap.size w w2 from bl_trans HB1.out hb)
  have HD2 := Lib.hid (show Below w1.heap.size w1 w2 from bl_trans HD1.out hb)
  clear hb
  go_wp2_with fail
  refine (sMostLow_is w2 At _ ct ts z pol (tks_to HT.out HD2.out) (by omega) v b HV.out HVV.out).mono ?_
  rintro e w3 ⟨rfl, hb⟩
  have hs3 := hb.size
  have HB3 := Lib.hid (show Below w.heap.size w w3 from bl_trans HB2.out hb)
  have HD3 := Lib.hid (show Below w1.heap.size w1 w3 from bl_trans HD2.out hb)
  clear hb
  cases b
  · obtain rfl : v = 0 := by rw [HVV.out]; rfl
    go_wp2
    go_ret
    exact ⟨rfl, HB3.out⟩
  · obtain ⟨i0, hi0, hz0, hz1, hz2⟩ := info_parts info_task
    obtain ⟨hst, hhp, q, t, rfl, hq, htq, hd1, hd2, hd3⟩ := most_at rfl HV.out
    obtain ⟨d, hd⟩ : ∃ d : Nat, t.du.toNat = d := ⟨_, rfl⟩
    have hvm : v = mostN ts q pol false d := by rw [HVV.out, if_pos rfl]; unfold mostV; rw [show ((q : Int)).toNat = q by omega, getD_at htq, hd]
    have hself := most_self (hi := false) hhp htq
    rw [hd, ← hvm] at hself
    have hself1 : t.lo ≤ (v : Int) := by have h := hself.1; simpa using h
    have hself2 := hself.2
    have hle := most_le ts q pol false d
    rw [← hvm] at hle
    have hledu : (v : Int) ≤ t.du := by omega
    have hx : hBy (giveL ts q false (v : Int)) pol = true := by
      have := most_hit (ts := ts) (k := q) (pol := pol) (hi := false) (n := d) (by rw [← hvm]; omega)
      rw [← hvm] at this; exact this
    have HX := Lib.hid hx
    have HTQ := Lib.hid htq
    obtain ⟨gt, hAt⟩ : ∃ gg, At = some ⟨gg, 0, none⟩ := by
      rcases HO.out.2 with ⟨e, h0⟩ | ⟨gg, cap, cur, e, _⟩
      · omega
      · injection e with e1 e2 e3; exact ⟨gg, e1⟩
    subst hAt
    have p1 : (0 : Int) ≤ (q : Int) := by omega
    have p2 : (q : Int) < (ts.length : Int) := by omega
    have hs1k : w1.heap.size ≤ w3.heap.size := HD3.out.size
    have hbt := (tks_to HT.out HD1.out).at_ q t htq
    have hgtl : gt < w1.heap.size := by
      obtain ⟨b', o', e, h, _⟩ := hbt
      injection e with e
      injection e with e1 e2
      omega
    clear hst hhp hx htq hself hvm hbt hself2 hle hd1 hd2 hd3
    obtain ⟨lo, hh', du, ev, cr⟩ := t
    dsimp only at hself1 hledu
    cases cr
    · go_wp2_with (at_builtin; refine wpList_append_own _ rfl (.tmp 58) (.tmp 59) 23 rfl w3.heap.size 37 i0 _ 5 40 Tryd.underlying23 hi0 hz0 hz1 hz2 rfl (by decide) (.slice (some ⟨w3.heap.size, 0, none⟩) 0 0) 0 [] rfl (by exact Own.empty w3) ⟨gt, 0, none⟩ ts.length ct (ts.flatMap Tk.cells) rfl (by rw [cells_length]) (Tks.cells ((HT.out.below HD3.out).below ((bl_alloc (Below.refl _ w3) _).mono hs1k))) (cells_one _) (by unfold maxLen; omega) (by omega) (by simp) ?_; intro v5 w5 hown hgrow hiff; have HO5 := Lib.hid (show Own w5 w3.heap.size v5 ts from by unfold Own; simpa using hown); have HK5 := Lib.hid (show Below w3.heap.size w3 w5 from (bl_alloc (Below.refl _ w3) _).grown hgrow (by simp) (fun q e => by have e2 : some w3.heap.size = some q := e; injection e2 with e2; omega)); obtain ⟨g5, c5, hv5⟩ : ∃ gg co, v5 = .slice (some ⟨gg, 0, none⟩) ts.length co := (by rcases HO5.out.2 with ⟨e, h0⟩ | ⟨gg, cap', cur, e, _⟩; (have := (hiff.1 e).1; cases this); exact ⟨gg, cap', e⟩); subst hv5; obtain ⟨b5, o5, eA, hbl5, d05, d15, d25, d35, d45⟩ := HO5.out.reads.2.at_ q _ HTQ.out; injection eA with eA; injection eA with eA1 eA2; subst eA1 eA2; simp only [Nat.zero_add] at d05 d15 d25 d35 d45; have hfz5 := HO5.out.frozen; have hcn5 := own_le HO5.out; have HGS5 := Lib.hid (World.ownsRow.lt HO5.out _ rfl); clear hown hgrow hiff; have HD5 := Lib.hid (show Below w1.heap.size w1 w5 from HD3.out.trans (HK5.out.mono hs1k)); have HB5 := Lib.hid (show Below w.heap.size w w5 from HB1.out.trans (HD5.out.mono HB1.out.size)); have hge5 : w1.heap.size ≤ g5 := Nat.le_trans hs1k HGS5.out.1; have hge5w : w.heap.size ≤ g5 := Nat.le_trans HB1.out.size hge5; have hfzl := (HO5.out.low q _ (v : Int) HTQ.out).frozen)
      have HOX8 := Lib.hid ((HO5.out.low q _ (v : Int) HTQ.out).high q (⟨(v : Int), hh', du, ev, false⟩ : Tk) (v : Int) (by rw [List.getElem?_set_self hq]))
      have hxe : (ts.set q (⟨(v : Int), hh', du, ev, false⟩ : Tk)).set q ⟨(v : Int), (v : Int), du, ev, false⟩ = giveL ts q false (v : Int) := by rw [List.set_set]; unfold giveL; rw [getD_at HTQ.out]; rfl
      rw [hxe] at HOX8
      have HB8 := Lib.hid (bl_set (p := ⟨g5, q * 5 + 1, none⟩) (bl_set (p := ⟨g5, q * 5, none⟩) HB5.out hge5w (.int .i64 (v : Int))) hge5w (.int .i64 (v : Int)))
      have HD8 := Lib.hid (bl_set (p := ⟨g5, q * 5 + 1, none⟩) (bl_set (p := ⟨g5, q * 5, none⟩) HD5.out hge5 (.int .i64 (v : Int))) hge5 (.int .i64 (v : Int)))
      refine (iHoldsBy_is _ _ _ c5 _ pol HOX8.out.reads.2 (by omega) hcn5 e0 (HE.out.below HB8.out) true HX.out).mono ?_
      rintro e w9 ⟨rfl, hb⟩
      have HB9 := Lib.hid (bl_trans HB8.out hb)
      have HD9 := Lib.hid (bl_trans HD8.out hb)
      clear hb
      obtain ⟨b', o', e, _, x0, x1, x2, x3, x4⟩ := (tks_to HT.out HD9.out).at_ q _ HTQ.out
      injection e with e
      injection e with e1 e2
      subst e1 e2
      simp only [Nat.zero_add] at x0 x1 x2 x3 x4
      have hge9 : decide ((v : Int) ≥ lo) = true := decide_eq_true hself1
      go_wp2
      go_ret
      exact ⟨rfl, HB9.out⟩
    · go_wp2_with (at_builtin; refine wpList_append_own _ rfl (.tmp 58) (.tmp 59) 23 rfl w3.heap.size 37 i0 _ 5 40 Tryd.underlying23 hi0 hz0 hz1 hz2 rfl (by decide) (.slice (some ⟨w3.heap.size, 0, none⟩) 0 0) 0 [] rfl (by exact Own.empty w3) ⟨gt, 0, none⟩ ts.length ct (ts.flatMap Tk.cells) rfl (by rw [cells_length]) (Tks.cells ((HT.out.below HD3.out).below ((bl_alloc (Below.refl _ w3) _).mono hs1k))) (cells_one _) (by unfold maxLen; omega) (by omega) (by simp) ?_; intro v5 w5 hown hgrow hiff; have HO5 := Lib.hid (show Own w5 w3.heap.size v5 ts from by unfold Own; simpa using hown); have HK5 := Lib.hid (show Below w3.heap.size w3 w5 from (bl_alloc (Below.refl _ w3) _).grown hgrow (by simp) (fun q e => by have e2 : some w3.heap.size = some q := e; injection e2 with e2; omega)); obtain ⟨g5, c5, hv5⟩ : ∃ gg co, v5 = .slice (some ⟨gg, 0, none⟩) ts.length co := (by rcases HO5.out.2 with ⟨e, h0⟩ | ⟨gg, cap', cur, e, _⟩; (have := (hiff.1 e).1; cases this); exact ⟨gg, cap', e⟩); subst hv5; obtain ⟨b5, o5, eA, hbl5, d05, d15, d25, d35, d45⟩ := HO5.out.reads.2.at_ q _ HTQ.out; injection eA with eA; injection eA with eA1 eA2; subst eA1 eA2; simp only [Nat.zero_add] at d05 d15 d25 d35 d45; have hfz5 := HO5.out.frozen; have hcn5 := own_le HO5.out; have HGS5 := Lib.hid (World.ownsRow.lt HO5.out _ rfl); clear hown hgrow hiff; have HD5 := Lib.hid (show Below w1.heap.size w1 w5 from HD3.out.trans (HK5.out.mono hs1k)); have HB5 := Lib.hid (show Below w.heap.size w w5 from HB1.out.trans (HD5.out.mono HB1.out.size)); have hge5 : w1.heap.size ≤ g5 := Nat.le_trans hs1k HGS5.out.1; have hge5w : w.heap.size ≤ g5 := Nat.le_trans HB1.out.size hge5; have hfzl := (HO5.out.low q _ (v : Int) HTQ.out).frozen)
      have HOX8 := Lib.hid (HO5.out.low q _ (v : Int) HTQ.out)
      have hxe : ts.set q (⟨(v : Int), hh', du, ev, true⟩ : Tk) = giveL ts q false (v : Int) := by unfold giveL; rw [getD_at HTQ.out]; rfl
      rw [hxe] at HOX8
      have HB8 := Lib.hid (bl_set (p := ⟨g5, q * 5, none⟩) HB5.out hge5w (.int .i64 (v : Int)))
      have HD8 := Lib.hid (bl_set (p := ⟨g5, q * 5, none⟩) HD5.out hge5 (.int .i64 (v : Int)))
      refine (iHoldsBy_is _ _ _ c5 _ pol HOX8.out.reads.2 (by omega) hcn5 e0 (HE.out.below HB8.out) true HX.out).mono ?_
      rintro e w9 ⟨rfl, hb⟩
      have HB9 := Lib.hid (bl_trans HB8.out hb)
      have HD9 := Lib.hid (bl_trans HD8.out hb)
      clear hb
      obtain ⟨b', o', e, _, x0, x1, x2, x3, x4⟩ := (tks_to HT.out HD9.out).at_ q _ HTQ.out
      injection e with e
      injection e with e1 e2
      subst e1 e2
      simp only [Nat.zero_add] at x0 x1 x2 x3 x4
      have hge9 : decide ((v : Int) ≥ lo) = true := decide_eq_true hself1
      go_wp2
      go_ret
      exact ⟨rfl, HB9.out⟩

end Go.Proofs.YtfjbkblodgdcnaaDoor
