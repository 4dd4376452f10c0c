/- The walk of the law FnMostLast. -/
import Derived.Test.YtfjbkblodgdcnaaDoorD8c
import Derived.Test.YtfjbkblodgdcnaaDoorMoS
import Derived.Test.YtfjbkblodgdcnaaDoorMoL
import Derived.Test.YtfjbkblodgdcnaaDoorNB
import Derived.Test.YtfjbkblodgdcnaaDoorNA
namespace Go.Proofs.YtfjbkblodgdcnaaDoor
open Go.RowKit
set_option linter.unusedVariables false

set_option maxRecDepth 100000 in
set_option maxHeartbeats 4000000 in
theorem fnMostLast_walk (w : World) (A : Option Addr) (n c : Nat) (f : Nat → Int) (h : Code w w.heap.size A n c f) (e0 : Addr) (he : EG w e0) :
    Calls Tryd.prog 6 #[.slice A n c] w fun e w' => e = .returned (.bool true) ∧ Below w.heap.size w w' := by
  have H := Lib.hid h
  have HE := Lib.hid he
  have hle := h.le
  have hmax := h.max
  unfold maxLen at hmax
  clear h he
  by_cases hn : 1048576 < n
  · go_enter Tryd.func6, Tryd.ntmps6
    go_wp2
    go_ret
    exact ⟨rfl, Below.refl _ _⟩
  go_enter Tryd.func6, Tryd.ntmps6
  go_wp2_with fail
  refine (dDrawMostHigh_any _ A n c f H.out).mono ?_
  rintro e w1 ⟨At, ct, ts, z, pol, rfl, hl, hzz, hpp, ho, hb⟩
  have HB1 := Lib.hid hb
  have HO := Lib.hid ho
  have HT := Lib.hid ho.reads.2
  have hct := own_le ho
  clear hb ho H
  have HD1 := Lib.hid (Below.refl w1.heap.size w1)
  have hs1 := HB1.out.size
  obtain ⟨b, hv⟩ : ∃ b, mostHB ts ts.length z pol = b := ⟨_, rfl⟩
  obtain ⟨v, hvv⟩ : ∃ v, v = if b then mostV ts z pol true else 0 := ⟨_, rfl⟩
  have HV := Lib.hid hv
  have HVV : Hid (v = if b = true then mostV ts z pol true else 0) := hvv
  clear hv hvv
  go_wp2_with fail
  refine (iMostHigh_is w1 At _ ct ts z pol (tks_to HT.out HD1.out) (by omega) hct e0 (HE.out.below HB1.out) v b HV.out HVV.out).mono ?_
  rintro e w2 ⟨rfl, hb⟩
  have hs2 := hb.size
  have HB2 := Lib.hid (show Below w.heap.size w w2 from bl_trans HB1.out hb)
  have HD2 := Lib.hid (show Below w1.heap.size w1 w2 from bl_trans HD1.out hb)
  clear hb
  go_wp2_with fail
  refine (sMostHigh_is w2 At _ ct ts z pol (tks_to HT.out HD2.out) (by omega) v b HV.out HVV.out).mono ?_
  rintro e w3 ⟨rfl, hb⟩
  have hs3 := hb.size
  have HB3 := Lib.hid (show Below w.heap.size w w3 from bl_trans HB2.out hb)
  have HD3 := Lib.hid (show Below w1.heap.size w1 w3 from bl_trans HD2.out hb)
  clear hb
  cases b
  · obtain rfl : v = 0 := by rw [HVV.out]; rfl
    go_wp2
    go_ret
    exact ⟨rfl, HB3.out⟩
  · have hmb : mostB ts ts.length z pol = true := by have h := HV.out; unfold mostHB at h; rw [Bool.and_eq_true] at h; exact h.1
    obtain ⟨hst, hhp, q, t, rfl, hq, htq, hd1, hd2, hd3⟩ := most_at rfl hmb
    obtain ⟨d, hd⟩ : ∃ d : Nat, t.du.toNat = d := ⟨_, rfl⟩
    have hdu : t.du = (d : Int) := by omega
    have hvm : v = mostN ts q pol true d := by rw [HVV.out, if_pos rfl]; unfold mostV; rw [show ((q : Int)).toNat = q by omega, getD_at htq, hd]
    have hle := most_le ts q pol true d
    rw [← hvm] at hle
    obtain ⟨hm1, hm2, _⟩ := most_last rfl htq HV.out
    rw [hd] at hm2
    have HM1 := Lib.hid hm1
    have HM2 : Hid (d = if true = true then mostV [t] 0 pol true else 0) := by show _ = _; rw [if_pos rfl]; exact hm2.symm
    have HTQ := Lib.hid htq
    obtain ⟨gt, hAt⟩ : ∃ gg, At = some ⟨gg, 0, none⟩ := by
      rcases HO.out.2 with ⟨e, h0⟩ | ⟨gg, cap, cur, e, _⟩
      · omega
      · injection e with e1 e2 e3; exact ⟨gg, e1⟩
    subst hAt
    have hone : (ts.drop q).take 1 = [t] := by
      obtain ⟨hk2, hk3⟩ := List.getElem?_eq_some_iff.1 htq
      rw [List.drop_eq_getElem_cons hk2, hk3]
      rfl
    have HMD := Lib.hid (fun (W : World) (nn oo cc : Nat) (hnn : nn = 1) (ho : oo = 0 + q * 5) (hcc : nn ≤ cc) (hD : Below w1.heap.size w1 W) (hE : EG W e0) => iMostHigh_is W (some ⟨gt, oo, none⟩) nn cc [t] 0 pol (by rw [hnn, ← hone]; exact Tks.take (Tks.drop (k := q) (tks_to HT.out hD) ho) (by omega)) (by omega) hcc e0 hE d true (by rw [hnn]; exact HM1.out) HM2.out)
    have p1 : (0 : Int) ≤ (q : Int) := by omega
    have p2 : (q : Int) < (ts.length : Int) := by omega
    have p3 : (q : Int) + 1 ≤ (ts.length : Int) := by omega
    have p4 : (q : Int) + 1 ≤ (ct : Int) := by omega
    have p5 : (q : Int) ≤ (q : Int) + 1 := by omega
    have p6 : (0 : Int) ≤ (q : Int) + 1 := by omega
    have p7 : (ts.length : Int) ≤ (ct : Int) := by omega
    have p8 : (q : Int) ≤ (ct : Int) := by omega
    have n1 : ¬ (q : Int) = (ct : Int) := by omega
    have n2 : ((q : Int) == (ct : Int)) = false := by rw [beq_eq_false_iff_ne]; omega
    have n3 : ¬ q = ct := by omega
    have kw : IntKind.i64.wrap ((q : Int) + 1) = (q : Int) + 1 := IntWalk.i64_in _ (by omega)
    have kn : ((q : Int) + 1).toNat = q + 1 := by omega
    have HDU := Lib.hid hdu
    clear hmb hst hhp htq hvm hm1 hm2 hone hd hdu
    go_wp2_with fail
    refine (HMD.out _ _ _ _ (by omega) (by omega) (by omega) HD3.out (HE.out.below HB3.out)).mono ?_
    rintro e w9 ⟨rfl, hb⟩
    have HB9 := Lib.hid (bl_trans HB3.out hb)
    have HD9 := Lib.hid (bl_trans HD3.out hb)
    clear hb HMD
    obtain ⟨b', o', e, _, x0, x1, x2, x3, x4⟩ := (tks_to HT.out HD9.out).at_ q _ HTQ.out
    injection e with e
    injection e with e1 e2
    subst e1 e2
    simp only [Nat.zero_add] at x0 x1 x2 x3 x4
    rw [HDU.out] at x2
    have hge9 : decide ((d : Int) ≥ (v : Int)) = true := decide_eq_true (by omega)
    go_wp2
    go_ret
    exact ⟨rfl, HB9.out⟩

end Go.Proofs.YtfjbkblodgdcnaaDoor
