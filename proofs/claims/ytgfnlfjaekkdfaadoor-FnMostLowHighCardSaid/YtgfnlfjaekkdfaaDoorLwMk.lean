/- The walk of the law FnMostLowHigh. -/
import Derived.Test.YtgfnlfjaekkdfaaDoorD8c
import Derived.Test.YtgfnlfjaekkdfaaDoorMoS
import Derived.Test.YtgfnlfjaekkdfaaDoorNB
import Derived.Test.YtgfnlfjaekkdfaaDoorNA
namespace Go.Proofs.YtgfnlfjaekkdfaaDoor
open Go.RowKit
set_option linter.unusedVariables false

set_option maxRecDepth 100000 in
set_option maxHeartbeats 4000000 in
theorem fnMostLowHigh_walk (w : World) (A : Option Addr) (n c : Nat) (f : Nat → Int) (h : Code w w.heap.size A n c f) (e0 : Addr) (he : EG w e0) :
    Calls Tryd.prog 3 #[.slice A n c] w fun e w' => e = .returned (.bool true) ∧ Below w.heap.size w w' := by
  have H := Lib.hid h
  have HE := Lib.hid he
  have hle := h.le
  have hmax := h.max
  unfold maxLen at hmax
  clear h he
  by_cases hn : 1048576 < n
  · go_enter Tryd.func3, Tryd.ntmps3
    go_wp2
    go_ret
    exact ⟨rfl, Below.refl _ _⟩
  go_enter Tryd.func3, Tryd.ntmps3
  go_wp2_with fail
  refine (dDrawMostLow_any _ A n c f H.out).mono ?_
  rintro e w1 ⟨At, ct, ts, z, pol, rfl, hl, hzz, hpp, ho, hb⟩
  have HB1 := Lib.hid hb
  have HO := Lib.hid ho
  have HT := Lib.hid ho.reads.2
  have hct := own_le ho
  clear hb ho H
  have HD1 := Lib.hid (Below.refl w1.heap.size w1)
  have hs1 := HB1.out.size
  obtain ⟨b, hv⟩ : ∃ b, mostB ts ts.length z pol = b := ⟨_, rfl⟩
  obtain ⟨v, hvv⟩ : ∃ v, v = if b then mostV ts z pol false else 0 := ⟨_, rfl⟩
  have HV := Lib.hid hv
  have HVV : Hid (v = if b = true then mostV ts z pol false else 0) := hvv
  clear hv hvv
  go_wp2_with fail
  refine (iMostLow_is w1 At _ ct ts z pol (tks_to HT.out HD1.out) (by omega) hct e0 (HE.out.below HB1.out) v b HV.out HVV.out).mono ?_
  rintro e w2 ⟨rfl, hb⟩
  have hs2 := hb.size
  have HB2 := Lib.hid (show Below w.heap.size w w2 from bl_trans HB1.out hb)
  have HD2 := Lib.hid (show Below w1.heap.size w1 w2 from bl_trans HD1.out hb)
  clear hb
  go_wp2_with fail
  refine (sMostLow_is w2 At _ ct ts z pol (tks_to HT.out HD2.out) (by omega) v b HV.out HVV.out).mono ?_
  rintro e w3 ⟨rfl, hb⟩
  have hs3 := hb.size
  have HB3 := Lib.hid (show Below w.heap.size w w3 from bl_trans HB2.out hb)
  have HD3 := Lib.hid (show Below w1.heap.size w1 w3 from bl_trans HD2.out hb)
  clear hb
  cases b
  · obtain rfl : v = 0 := by rw [HVV.out]; rfl
    go_wp2
    go_ret
    exact ⟨rfl, HB3.out⟩
  · obtain ⟨hst, hhp, q, t, rfl, hq, htq, hd1, hd2, hd3⟩ := most_at rfl HV.out
    obtain ⟨d, hd⟩ : ∃ d : Nat, t.du.toNat = d := ⟨_, rfl⟩
    have hvm : v = mostN ts q pol false d := by rw [HVV.out, if_pos rfl]; unfold mostV; rw [show ((q : Int)).toNat = q by omega, getD_at htq, hd]
    have hself := most_self (hi := false) hhp htq
    rw [hd, ← hvm] at hself
    have hx : hBy (giveL ts q false (v : Int)) pol = true := by
      have := most_hit (ts := ts) (k := q) (pol := pol) (hi := false) (n := d) (by rw [← hvm]; omega)
      rw [← hvm] at this; exact this
    have hcr : t.cr = true → (v : Int) ≤ t.hi := by
      intro hc
      have hs := hBy_set hx
      have hg : (giveL ts q false (v : Int))[q]? = some (giveT false (v : Int) t) := by
        unfold giveL; rw [getD_at htq, List.getElem?_set_self hq]
      obtain ⟨_, h2, _⟩ := ok_parts (set_ok hs (get_mem hg))
      have h2' : (v : Int) ≤ (if t.cr then t.hi else (v : Int)) := h2
      rw [hc] at h2'
      exact h2'
    obtain ⟨gt, hAt⟩ : ∃ gg, At = some ⟨gg, 0, none⟩ := by
      rcases HO.out.2 with ⟨e, h0⟩ | ⟨gg, cap, cur, e, _⟩
      · omega
      · injection e with e1 e2 e3; exact ⟨gg, e1⟩
    subst hAt
    obtain ⟨bt, ot, eA, hblt, a0, a1, a2, a3, a4⟩ := (tks_to HT.out HD3.out).at_ q t htq
    injection eA with eA
    injection eA with eA1 eA2
    subst eA1 eA2
    simp only [Nat.zero_add] at a0 a1 a2 a3 a4
    have p1 : (0 : Int) ≤ (q : Int) := by omega
    have p2 : (q : Int) < (ts.length : Int) := by omega
    clear hst hhp htq hx hself hvm hd hd1 hd2 hd3
    obtain ⟨lo, hh', du, ev, cr⟩ := t
    dsimp only at a0 a1 a2 a3 a4 hcr
    cases cr
    · clear hcr
      go_wp2
      go_ret
      exact ⟨rfl, HB3.out⟩
    · have hle : decide ((v : Int) ≤ hh') = true := decide_eq_true (hcr rfl)
      clear hcr
      go_wp2
      go_ret
      exact ⟨rfl, HB3.out⟩

end Go.Proofs.YtgfnlfjaekkdfaaDoor
