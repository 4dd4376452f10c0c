/- The walk of the law FnMostHigh. -/
import Derived.Test.YtfjbkblodgdcnaaDoorD8c
import Derived.Test.YtfjbkblodgdcnaaDoorMoS
import Derived.Test.YtfjbkblodgdcnaaDoorNB
import Derived.Test.YtfjbkblodgdcnaaDoorNA
namespace Go.Proofs.YtfjbkblodgdcnaaDoor
open Go.RowKit
set_option linter.unusedVariables false

set_option maxRecDepth 100000 in
set_option maxHeartbeats 4000000 in
theorem fnMostHigh_walk (w : World) (A : Option Addr) (n c : Nat) (f : Nat → Int) (h : Code w w.heap.size A n c f) (e0 : Addr) (he : EG w e0) :
    Calls Tryd.prog 4 #[.slice A n c] w fun e w' => e = .returned (.bool true) ∧ Below w.heap.size w w' := by
  have H := Lib.hid h
  have HE := Lib.hid he
  have hle := h.le
  have hmax := h.max
  unfold maxLen at hmax
  clear h he
  by_cases hn : 1048576 < n
  · go_enter Tryd.func4, Tryd.ntmps4
    go_wp2
    go_ret
    exact ⟨rfl, Below.refl _ _⟩
  go_enter Tryd.func4, Tryd.ntmps4
  go_wp2_with fail
  refine (dDrawMostHigh_any _ A n c f H.out).mono ?_
  rintro e w1 ⟨At, ct, ts, z, pol, rfl, hl, hzz, hpp, ho, hb⟩
  have HB1 := Lib.hid hb
  have HO := Lib.hid ho
  have HT := Lib.hid ho.reads.2
  have hct := own_le ho
  clear hb ho H
  have HD1 := Lib.hid (Below.refl w1.heap.size w1)
  have hs1 := HB1.out.size
  obtain ⟨b, hv⟩ : ∃ b, mostHB ts ts.length z pol = b := ⟨_, rfl⟩
  obtain ⟨v, hvv⟩ : ∃ v, v = if b then mostV ts z pol true else 0 := ⟨_, rfl⟩
  have HV := Lib.hid hv
  have HVV : Hid (v = if b = true then mostV ts z pol true else 0) := hvv
  clear hv hvv
  go_wp2_with fail
  refine (iMostHigh_is w1 At _ ct ts z pol (tks_to HT.out HD1.out) (by omega) hct e0 (HE.out.below HB1.out) v b HV.out HVV.out).mono ?_
  rintro e w2 ⟨rfl, hb⟩
  have hs2 := hb.size
  have HB2 := Lib.hid (show Below w.heap.size w w2 from bl_trans HB1.out hb)
  have HD2 := Lib.hid (show Below w1.heap.size w1 w2 from bl_trans HD1.out hb)
  clear hb
  go_wp2_with fail
  refine (sMostHigh_is w2 At _ ct ts z pol (tks_to HT.out HD2.out) (by omega) v b HV.out HVV.out).mono ?_
  rintro e w3 ⟨rfl, hb⟩
  have hs3 := hb.size
  have HB3 := Lib.hid (show Below w.heap.size w w3 from bl_trans HB2.out hb)
  have HD3 := Lib.hid (show Below w1.heap.size w1 w3 from bl_trans HD2.out hb)
  clear hb
  cases b
  · obtain rfl : v = 0 := by rw [HVV.out]; rfl
    go_wp2
    go_ret
    exact ⟨rfl, HB3.out⟩
  · obtain ⟨i0, hi0, hz0, hz1, hz2⟩ := info_parts info_task
    have hmb : mostB ts ts.length z pol = true := by have h := HV.out; unfold mostHB at h; rw [Bool.and_eq_true] at h; exact h.1
    obtain ⟨hst, hhp, q, t, rfl, hq, htq, hd1, hd2, hd3⟩ := most_at rfl hmb
    obtain ⟨d, hd⟩ : ∃ d : Nat, t.du.toNat = d := ⟨_, rfl⟩
    have hvm : v = mostN ts q pol true d := by rw [HVV.out, if_pos rfl]; unfold mostV; rw [show ((q : Int)).toNat = q by omega, getD_at htq, hd]
    have hself := most_self (hi := true) hhp htq
    rw [hd, ← hvm] at hself
    simp only [if_true] at hself
    have hle := most_le ts q pol true d
    rw [← hvm] at hle
    have hx : hBy (giveL ts q true (v : Int)) pol = true := by
      have := most_hit (ts := ts) (k := q) (pol := pol) (hi := true) (n := d) (by rw [← hvm]; omega)
      rw [← hvm] at this; exact this
    have hy : hBy (giveL ts q true ((v : Int) + 1)) pol = false := by
      cases hc : hBy (giveL ts q true ((v : Int) + 1)) pol
      · rfl
      exfalso
      have hs := hBy_set hc
      have hg : (giveL ts q true ((v : Int) + 1))[q]? = some (giveT true ((v : Int) + 1) t) := by
        unfold giveL; rw [getD_at htq, List.getElem?_set_self hq]
      obtain ⟨_, _, h3, _⟩ := ok_parts (set_ok hs (get_mem hg))
      have h3' : (v : Int) + 1 ≤ t.du := h3
      have := most_ge (ts := ts) (k := q) (pol := pol) (hi := true) (m := v + 1) (by omega) hc (n := d) (by omega)
      omega
    have HX := Lib.hid hx
    have HY := Lib.hid hy
    have HTQ := Lib.hid htq
    have hself1 := hself.1
    obtain ⟨gt, hAt⟩ : ∃ gg, At = some ⟨gg, 0, none⟩ := by
      rcases HO.out.2 with ⟨e, h0⟩ | ⟨gg, cap, cur, e, _⟩
      · omega
      · injection e with e1 e2 e3; exact ⟨gg, e1⟩
    subst hAt
    obtain ⟨bt, ot, eA, hblt, a0, a1, a2, a3, a4⟩ := (tks_to HT.out HD3.out).at_ q t htq
    injection eA with eA
    injection eA with eA1 eA2
    subst eA1 eA2
    simp only [Nat.zero_add] at a0 a1 a2 a3 a4
    have HC1 := Lib.hid a1
    have p1 : (0 : Int) ≤ (q : Int) := by omega
    have p2 : (q : Int) < (ts.length : Int) := by omega
    have hvw : IntKind.i64.wrap ((v : Int) + 1) = (v : Int) + 1 := IntWalk.i64_in _ (by omega)
    have hs1k : w1.heap.size ≤ w3.heap.size := HD3.out.size
    have hbt := (tks_to HT.out HD1.out).at_ q t htq
    have hgtl : gt < w1.heap.size := by
      obtain ⟨b', o', e, h, _⟩ := hbt
      injection e with e
      injection e with e1 e2
      omega
    clear hmb hst hhp hx hy htq hself hvm a0 a1 a2 a3 a4 hbt
    obtain ⟨lo, hh', du, ev, cr⟩ := t
    go_wp2_with (first | (at_builtin; refine wpList_append_own _ rfl (.tmp 59) (.tmp 60) 23 rfl w3.heap.size 37 i0 _ 5 40 Tryd.underlying23 hi0 hz0 hz1 hz2 rfl (by decide) (.slice (some ⟨w3.heap.size, 0, none⟩) 0 0) 0 [] rfl (by exact Own.empty w3) ⟨gt, 0, none⟩ ts.length ct (ts.flatMap Tk.cells) rfl (by rw [cells_length]) (Tks.cells ((HT.out.below HD3.out).below ((bl_alloc (Below.refl _ w3) _).mono hs1k))) (cells_one _) (by unfold maxLen; omega) (by omega) (by simp) ?_; intro v5 w5 hown hgrow hiff; have HO5 := Lib.hid (show Own w5 w3.heap.size v5 ts from by unfold Own; simpa using hown); have HK5 := Lib.hid (show Below w3.heap.size w3 w5 from (bl_alloc (Below.refl _ w3) _).grown hgrow (by simp) (fun q e => by have e2 : some w3.heap.size = some q := e; injection e2 with e2; omega)); obtain ⟨g5, c5, hv5⟩ : ∃ gg co, v5 = .slice (some ⟨gg, 0, none⟩) ts.length co := (by rcases HO5.out.2 with ⟨e, h0⟩ | ⟨gg, cap', cur, e, _⟩; (have := (hiff.1 e).1; cases this); exact ⟨gg, cap', e⟩); subst hv5; obtain ⟨b5, o5, eA, hbl5, d05, d15, d25, d35, d45⟩ := HO5.out.reads.2.at_ q _ HTQ.out; injection eA with eA; injection eA with eA1 eA2; subst eA1 eA2; simp only [Nat.zero_add] at d05 d15 d25 d35 d45; have hfz5 := HO5.out.frozen; have hcn5 := own_le HO5.out; have HGS5 := Lib.hid (World.ownsRow.lt HO5.out _ rfl); clear hown hgrow hiff; have HD5 := Lib.hid (show Below w1.heap.size w1 w5 from HD3.out.trans (HK5.out.mono hs1k)); have HB5 := Lib.hid (show Below w.heap.size w w5 from HB1.out.trans (HD5.out.mono HB1.out.size)); have hge5 : w1.heap.size ≤ g5 := Nat.le_trans hs1k HGS5.out.1; have hge5w : w.heap.size ≤ g5 := Nat.le_trans HB1.out.size hge5) | (at_builtin; refine wpList_append_own _ rfl (.tmp 67) (.tmp 68) 23 rfl w5.heap.size 37 i0 _ 5 40 Tryd.underlying23 hi0 hz0 hz1 hz2 rfl (by decide) (.slice (some ⟨w5.heap.size, 0, none⟩) 0 0) 0 [] rfl (by have h := Own.empty (w5.setCell ⟨g5, q * 5 + 1, none⟩ (.int .i64 (v : Int))); rw [show (w5.setCell ⟨g5, q * 5 + 1, none⟩ (.int .i64 (v : Int))).heap.size = w5.heap.size by simp [World.setCell]] at h; exact h) ⟨gt, 0, none⟩ ts.length ct (ts.flatMap Tk.cells) rfl (by rw [cells_length]) (Tks.cells (HT.out.below (bl_alloc (bl_set (p := ⟨g5, q * 5 + 1, none⟩) HD5.out hge5 (.int .i64 (v : Int))) _))) (cells_one _) (by unfold maxLen; omega) (by omega) (by simp [World.setCell]) ?_; intro v7 w7 hown hgrow hiff; have HO7 := Lib.hid (show Own w7 w5.heap.size v7 ts from by unfold Own; simpa using hown); have HK7 := Lib.hid (show Below w5.heap.size (w5.setCell ⟨g5, q * 5 + 1, none⟩ (.int .i64 (v : Int))) w7 from ((Below.refl w5.heap.size (w5.setCell ⟨g5, q * 5 + 1, none⟩ (.int .i64 (v : Int)))).alloc (by simp [World.setCell]) _).grown hgrow (by simp [World.setCell]) (fun q e => by have e2 : some w5.heap.size = some q := e; injection e2 with e2; omega)); obtain ⟨g7, c7, hv7⟩ : ∃ gg co, v7 = .slice (some ⟨gg, 0, none⟩) ts.length co := (by rcases HO7.out.2 with ⟨e, h0⟩ | ⟨gg, cap', cur, e, _⟩; (have := (hiff.1 e).1; cases this); exact ⟨gg, cap', e⟩); subst hv7; obtain ⟨b7, o7, eA, hbl7, d07, d17, d27, d37, d47⟩ := HO7.out.reads.2.at_ q _ HTQ.out; injection eA with eA; injection eA with eA1 eA2; subst eA1 eA2; simp only [Nat.zero_add] at d07 d17 d27 d37 d47; have hfz7 := HO7.out.frozen; have hcn7 := own_le HO7.out; have HGS7 := Lib.hid (World.ownsRow.lt HO7.out _ rfl); clear hown hgrow hiff))
    have HOX6 := Lib.hid (HO5.out.high q _ (v : Int) HTQ.out)
    have HOX7 := Lib.hid (HOX6.out.below (by rw [show (w5.setCell ⟨g5, q * 5 + 1, none⟩ (.int .i64 (v : Int))).heap.size = w5.heap.size by simp [World.setCell]]; exact HK7.out))
    have hxe : ts.set q (⟨lo, (v : Int), du, ev, cr⟩ : Tk) = giveL ts q true (v : Int) := by unfold giveL; rw [getD_at HTQ.out]; rfl
    have hye : ts.set q (⟨lo, (v : Int) + 1, du, ev, cr⟩ : Tk) = giveL ts q true ((v : Int) + 1) := by unfold giveL; rw [getD_at HTQ.out]; rfl
    have hg57 : ∀ x, (Value.slice (some ⟨g5, 0, none⟩) ts.length c5).ownBlock = some x → x < w5.heap.size := fun x e => by have e2 : g5 = x := Option.some.inj e; have := HGS5.out.2; omega
    have HOX8 := Lib.hid (HOX7.out.setOff hg57 (a := ⟨g7, q * 5 + 1, none⟩) HGS7.out.1 (.int .i64 ((v : Int) + 1)))
    have HOY8 := Lib.hid (HO7.out.high q _ ((v : Int) + 1) HTQ.out)
    rw [hxe] at HOX8
    rw [hye] at HOY8
    have HB6 := Lib.hid (bl_set (p := ⟨g5, q * 5 + 1, none⟩) HB5.out hge5w (.int .i64 (v : Int)))
    have HB7 := Lib.hid (HB6.out.trans (HK7.out.mono HB5.out.size))
    have hge7w : w.heap.size ≤ g7 := Nat.le_trans HB5.out.size HGS7.out.1
    have HB8 := Lib.hid (bl_set (p := ⟨g7, q * 5 + 1, none⟩) HB7.out hge7w (.int .i64 ((v : Int) + 1)))
    have HD6 := Lib.hid (bl_set (p := ⟨g5, q * 5 + 1, none⟩) HD5.out hge5 (.int .i64 (v : Int)))
    have HD7 := Lib.hid (HD6.out.trans (HK7.out.mono HD5.out.size))
    have hge7 : w1.heap.size ≤ g7 := Nat.le_trans HD5.out.size HGS7.out.1
    have HD8 := Lib.hid (bl_set (p := ⟨g7, q * 5 + 1, none⟩) HD7.out hge7 (.int .i64 ((v : Int) + 1)))
    refine (iHoldsBy_is _ _ _ c5 _ pol HOX8.out.reads.2 (by omega) hcn5 e0 (HE.out.below HB8.out) true HX.out).mono ?_
    rintro e w9 ⟨rfl, hb⟩
    have HB9 := Lib.hid (bl_trans HB8.out hb)
    have HD9 := Lib.hid (bl_trans HD8.out hb)
    have HOY9 := Lib.hid (HOY8.out.below hb)
    clear hb
    go_wp2_with fail
    refine (iHoldsBy_is _ _ _ c7 _ pol HOY9.out.reads.2 (by omega) hcn7 e0 (HE.out.below HB9.out) false HY.out).mono ?_
    rintro e w10 ⟨rfl, hb⟩
    have HB10 := Lib.hid (bl_trans HB9.out hb)
    have HD10 := Lib.hid (bl_trans HD9.out hb)
    clear hb
    have a1' : w10.cell? ⟨gt, q * 5 + 1, none⟩ = some (.int .i64 hh') := by
      obtain ⟨b', o', e, _, _, h1, _⟩ := (tks_to HT.out HD10.out).at_ q _ HTQ.out
      injection e with e
      injection e with e1 e2
      subst e1 e2
      simp only [Nat.zero_add] at h1
      exact h1
    have hge9 : decide ((v : Int) ≥ hh') = true := decide_eq_true hself1
    go_wp2
    go_ret
    exact ⟨rfl, HB10.out⟩

end Go.Proofs.YtfjbkblodgdcnaaDoor
