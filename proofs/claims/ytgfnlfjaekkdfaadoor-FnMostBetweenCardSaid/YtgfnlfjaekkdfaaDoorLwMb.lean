/- The walk of the law FnMostBetween. -/
import Derived.Test.YtgfnlfjaekkdfaaDoorD8c
import Derived.Test.YtgfnlfjaekkdfaaDoorMoS
import Derived.Test.YtgfnlfjaekkdfaaDoorMoB
import Derived.Test.YtgfnlfjaekkdfaaDoorNB
import Derived.Test.YtgfnlfjaekkdfaaDoorNA
namespace Go.Proofs.YtgfnlfjaekkdfaaDoor
open Go.RowKit
set_option linter.unusedVariables false

set_option maxRecDepth 100000 in
set_option maxHeartbeats 4000000 in
theorem fnMostBetween_walk (w : World) (A : Option Addr) (n c : Nat) (f : Nat → Int) (h : Code w w.heap.size A n c f) (e0 : Addr) (he : EG w e0) :
    Calls Tryd.prog 4 #[.slice A n c] w fun e w' => e = .returned (.bool true) ∧ Below w.heap.size w w' := by
  have H := Lib.hid h
  have HE := Lib.hid he
  have hle := h.le
  have hmax := h.max
  unfold maxLen at hmax
  clear h he
  by_cases hn : 1048576 < n
  · go_enter Tryd.func4, Tryd.ntmps4
    go_wp2
    go_ret
    exact ⟨rfl, Below.refl _ _⟩
  go_enter Tryd.func4, Tryd.ntmps4
  go_wp2_with fail
  refine (dDrawMostHigh_any _ A n c f H.out).mono ?_
  rintro e w1 ⟨At, ct, ts, z, pol, rfl, hl, hzz, hpp, ho, hb⟩
  have HB1 := Lib.hid hb
  have HO := Lib.hid ho
  have HT := Lib.hid ho.reads.2
  have hct := own_le ho
  clear hb ho H
  have HD1 := Lib.hid (Below.refl w1.heap.size w1)
  have hs1 := HB1.out.size
  obtain ⟨b, hv⟩ : ∃ b, mostHB ts ts.length z pol = b := ⟨_, rfl⟩
  obtain ⟨v, hvv⟩ : ∃ v, v = if b then mostV ts z pol true else 0 := ⟨_, rfl⟩
  have HV := Lib.hid hv
  have HVV : Hid (v = if b = true then mostV ts z pol true else 0) := hvv
  clear hv hvv
  go_wp2_with fail
  refine (iMostHigh_is w1 At _ ct ts z pol (tks_to HT.out HD1.out) (by omega) hct e0 (HE.out.below HB1.out) v b HV.out HVV.out).mono ?_
  rintro e w2 ⟨rfl, hb⟩
  have hs2 := hb.size
  have HB2 := Lib.hid (show Below w.heap.size w w2 from bl_trans HB1.out hb)
  have HD2 := Lib.hid (show Below w1.heap.size w1 w2 from bl_trans HD1.out hb)
  clear hb
  go_wp2_with fail
  refine (sMostHigh_is w2 At _ ct ts z pol (tks_to HT.out HD2.out) (by omega) v b HV.out HVV.out).mono ?_
  rintro e w3 ⟨rfl, hb⟩
  have hs3 := hb.size
  have HB3 := Lib.hid (show Below w.heap.size w w3 from bl_trans HB2.out hb)
  have HD3 := Lib.hid (show Below w1.heap.size w1 w3 from bl_trans HD2.out hb)
  clear hb
  cases b
  · obtain rfl : v = 0 := by rw [HVV.out]; rfl
    go_wp2
    go_ret
    exact ⟨rfl, HB3.out⟩
  · obtain ⟨i0, hi0, hz0, hz1, hz2⟩ := info_parts info_task
    have hmb : mostB ts ts.length z pol = true := by have h := HV.out; unfold mostHB at h; rw [Bool.and_eq_true] at h; exact h.1
    obtain ⟨hst, hhp, q, t, rfl, hq, htq, hd1, hd2, hd3⟩ := most_at rfl hmb
    obtain ⟨d, hd⟩ : ∃ d : Nat, t.du.toNat = d := ⟨_, rfl⟩
    have hvm : v = mostN ts q pol true d := by rw [HVV.out, if_pos rfl]; unfold mostV; rw [show ((q : Int)).toNat = q by omega, getD_at htq, hd]
    have hself := most_self (hi := true) hhp htq
    rw [hd, ← hvm] at hself
    simp only [if_true] at hself
    have hle := most_le ts q pol true d
    rw [← hvm] at hle
    have hx : hBy (giveL ts q true (v : Int)) pol = true := by
      have := most_hit (ts := ts) (k := q) (pol := pol) (hi := true) (n := d) (by rw [← hvm]; omega)
      rw [← hvm] at this; exact this
    obtain ⟨t1, t2, t3, t4, t5, _⟩ := ok_parts (set_ok hst (get_mem htq))
    have hvd : (v : Int) ≤ t.du := by omega
    have hlv : t.lo ≤ (v : Int) := by have := hself.1; omega
    have HBT : Hid (∀ y : Int, t.lo ≤ y → y ≤ (v : Int) → hBy (giveL ts q true y) pol = true) := fun y h1 h2 => most_between hst htq hx h2 h1
    have HTQ := Lib.hid htq
    obtain ⟨gt, hAt⟩ : ∃ gg, At = some ⟨gg, 0, none⟩ := by
      rcases HO.out.2 with ⟨e, h0⟩ | ⟨gg, cap, cur, e, _⟩
      · omega
      · injection e with e1 e2 e3; exact ⟨gg, e1⟩
    subst hAt
    obtain ⟨bt, ot, eA, hblt, a0, a1, a2, a3, a4⟩ := (tks_to HT.out HD3.out).at_ q t htq
    injection eA with eA
    injection eA with eA1 eA2
    subst eA1 eA2
    simp only [Nat.zero_add] at a0 a1 a2 a3 a4
    have p1 : (0 : Int) ≤ (q : Int) := by omega
    have p2 : (q : Int) < (ts.length : Int) := by omega
    have hs1k : w1.heap.size ≤ w3.heap.size := HD3.out.size
    clear hmb hst hhp hx htq hself hvm hd hd1 a1 a3 a4 hle
    obtain ⟨lo, hh', du, ev, cr⟩ := t
    dsimp only at a0 a2 hvd hlv t1 t2 t3 t4 t5 HBT
    go_wp2
    clear a0 a2
    go_loopw [10] (fun i wr => ∃ y : Int, lo ≤ y ∧ y ≤ (v : Int) + 1 ∧ i = .int .i64 y ∧ Hid (Below w3.heap.size w3 wr)) (fun i _ => ((v : Int) + 1 - intOf i).toNat)
    case atStart => exact ⟨lo, Int.le_refl _, by omega, rfl, Lib.hid (Below.refl _ _)⟩
    case round =>
      obtain ⟨y, hy1, hy2, rfl, HR⟩ := hrel
      have HDr := Lib.hid (bl_trans HD3.out HR.out)
      have hs1r : w1.heap.size ≤ wr.heap.size := HDr.out.size
      by_cases hyv : y ≤ (v : Int)
      · have hyd : decide (y ≤ (v : Int)) = true := decide_eq_true hyv
        have HYB := Lib.hid (HBT.out y hy1 hyv)
        have hyw : IntKind.i64.wrap (y + 1) = y + 1 := IntWalk.i64_in _ (by omega)
        go_wp2_with (at_builtin; refine wpList_append_own _ rfl (.tmp 65) (.tmp 66) 23 rfl wr.heap.size 29 i0 _ 5 40 Tryd.underlying23 hi0 hz0 hz1 hz2 rfl (by decide) (.slice (some ⟨wr.heap.size, 0, none⟩) 0 0) 0 [] rfl (by exact Own.empty wr) ⟨gt, 0, none⟩ ts.length ct (ts.flatMap Tk.cells) rfl (by rw [cells_length]) (Tks.cells ((HT.out.below HDr.out).below ((bl_alloc (Below.refl _ wr) _).mono hs1r))) (cells_one _) (by unfold maxLen; omega) (by omega) (by simp) ?_; intro v5 w5 hown hgrow hiff; have HO5 := Lib.hid (show Own w5 wr.heap.size v5 ts from by unfold Own; simpa using hown); have HK5 := Lib.hid (show Below wr.heap.size wr w5 from (bl_alloc (Below.refl _ wr) _).grown hgrow (by simp) (fun q e => by have e2 : some wr.heap.size = some q := e; injection e2 with e2; omega)); obtain ⟨g5, c5, hv5⟩ : ∃ gg co, v5 = .slice (some ⟨gg, 0, none⟩) ts.length co := (by rcases HO5.out.2 with ⟨e, h0⟩ | ⟨gg, cap', cur, e, _⟩; (have := (hiff.1 e).1; cases this); exact ⟨gg, cap', e⟩); subst hv5; obtain ⟨b5, o5, eA, hbl5, d05, d15, d25, d35, d45⟩ := HO5.out.reads.2.at_ q _ HTQ.out; injection eA with eA; injection eA with eA1 eA2; subst eA1 eA2; simp only [Nat.zero_add] at d05 d15 d25 d35 d45; have hfz5 := HO5.out.frozen; have hcn5 := own_le HO5.out; have HGS5 := Lib.hid (World.ownsRow.lt HO5.out _ rfl); clear hown hgrow hiff; have HD5 := Lib.hid (show Below w1.heap.size w1 w5 from HDr.out.trans (HK5.out.mono hs1r)); have HB5 := Lib.hid (show Below w.heap.size w w5 from HB1.out.trans (HD5.out.mono HB1.out.size)); have hge5 : w1.heap.size ≤ g5 := Nat.le_trans hs1r HGS5.out.1; have hge5w : w.heap.size ≤ g5 := Nat.le_trans HB1.out.size hge5)
        have HOX6 := Lib.hid (HO5.out.high q _ y HTQ.out)
        have hxe : ts.set q (⟨lo, y, du, ev, cr⟩ : Tk) = giveL ts q true y := by unfold giveL; rw [getD_at HTQ.out]; rfl
        rw [hxe] at HOX6
        have HB6 := Lib.hid (bl_set (p := ⟨g5, q * 5 + 1, none⟩) HB5.out hge5w (.int .i64 y))
        have hgw : wr.heap.size ≤ g5 := HGS5.out.1
        have HK6 := Lib.hid (bl_set (p := ⟨g5, q * 5 + 1, none⟩) HK5.out hgw (.int .i64 y))
        refine (iHoldsBy_is _ _ _ c5 _ pol HOX6.out.reads.2 (by omega) hcn5 e0 (HE.out.below HB6.out) true HYB.out).mono ?_
        rintro e w9 ⟨rfl, hb⟩
        have HR9 := Lib.hid (bl_trans HR.out (bl_trans HK6.out hb))
        clear hb
        go_wp2
        go_roundw
        case rel => exact ⟨y + 1, by omega, by omega, rfl, HR9⟩
        case measure => simp [intOf]; omega
      · have hyd : decide (y ≤ (v : Int)) = false := decide_eq_false hyv
        obtain ⟨bt, ot, eA, hblt, a0, a1, a2, a3, a4⟩ := (tks_to HT.out HDr.out).at_ q _ HTQ.out
        injection eA with eA
        injection eA with eA1 eA2
        subst eA1 eA2
        simp only [Nat.zero_add] at a2
        have hvd2 : decide ((v : Int) ≤ du) = true := decide_eq_true hvd
        go_wp2
        go_ret
        exact ⟨rfl, bl_trans HB3.out HR.out⟩

end Go.Proofs.YtgfnlfjaekkdfaaDoor
