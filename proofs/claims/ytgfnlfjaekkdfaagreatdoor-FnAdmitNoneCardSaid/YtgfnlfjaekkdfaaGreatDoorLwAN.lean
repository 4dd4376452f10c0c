/- The walk of the law FnAdmitNone. -/
import Derived.Test.YtgfnlfjaekkdfaaGreatDoorD8f
import Derived.Test.YtgfnlfjaekkdfaaGreatDoorPAc
import Derived.Test.YtgfnlfjaekkdfaaGreatDoorAa
import Derived.Test.YtgfnlfjaekkdfaaGreatDoorNB
import Derived.Test.YtgfnlfjaekkdfaaGreatDoorNA
import Derived.Test.YtgfnlfjaekkdfaaGreatDoorCh
namespace Go.Proofs.YtgfnlfjaekkdfaaGreatDoor
open Go.RowKit
set_option linter.unusedVariables false

theorem adm_first (t : Tk) {pol : Int} (hp : pol = 0 ∨ pol = 1) : admB [] t pol = canB [t] pol := by
  unfold admB canB
  rw [hBy_nil hp, Bool.true_and, List.nil_append]
theorem can_ok {t : Tk} {pol : Int} (h : canB [t] pol = true) : t.ok = true := by
  have hs : setB [t] = true := by
    unfold canB at h
    split at h
    · cases hs : setB [t]
      · rw [assign_bad hs] at h; cases h
      · rfl
    · exact hBy_set h
  exact set_ok hs (List.mem_singleton.2 rfl)
theorem all_first {ts : List Tk} {pol : Int} {t : Tk} (h0 : ts[0]? = some t) : ∀ k, k + 1 ≤ ts.length → (admB [] t pol = true → ∀ z ∈ (allA ts pol (k + 1)).2, 0 < z) ∧ (admB [] t pol = false → (allA ts pol (k + 1)).2[0]? = some 0)
  | 0, _ => by
    constructor
    · intro h
      rw [all_yes h0 (show admB (allA ts pol 0).1 t pol = true from h)]
      intro z hz; cases hz
    · intro h
      rw [all_no h0 (show admB (allA ts pol 0).1 t pol = false from h)]
      rfl
  | k + 1, hk => by
    obtain ⟨h1, h2⟩ := all_first (pol := pol) h0 k (by omega)
    obtain ⟨u, hu⟩ : ∃ u, ts[k + 1]? = some u := ⟨ts[k + 1]'(by omega), List.getElem?_eq_getElem _⟩
    cases h : admB (allA ts pol (k + 1)).1 u pol
    · rw [all_no hu h]
      constructor
      · intro ha z hz
        rcases List.mem_append.1 hz with h5 | h5
        · exact h1 ha z h5
        · rw [List.mem_singleton.1 h5]; omega
      · intro ha
        have h3 := h2 ha
        have hl : 0 < (allA ts pol (k + 1)).2.length := (List.getElem?_eq_some_iff.1 h3).1
        show ((allA ts pol (k + 1)).2 ++ [((k + 1 : Nat) : Int)])[0]? = some 0
        rw [List.getElem?_append_left hl]
        exact h3
    · rw [all_yes hu h]
      exact ⟨h1, h2⟩

set_option maxRecDepth 100000 in
set_option maxHeartbeats 4000000 in
theorem fnAdmitNone_walk (w : World) (A : Option Addr) (n c : Nat) (f : Nat → Int) (h : Code w w.heap.size A n c f) (e0 : Addr) (he : EG w e0) :
    Calls Tryz.prog 6 #[.slice A n c] w fun e w' => e = .returned (.bool true) ∧ Below w.heap.size w w' := by
  have H := Lib.hid h
  have HE := Lib.hid he
  have hle := h.le
  have hmax := h.max
  unfold maxLen at hmax
  clear h he
  by_cases hn : 1048576 < n
  · go_enter Tryz.func6, Tryz.ntmps6
    go_wp2
    go_ret
    exact ⟨rfl, Below.refl _ _⟩
  go_enter Tryz.func6, Tryz.ntmps6
  go_wp2_with fail
  refine (dDrawAdmitAll_any _ A n c f H.out).mono ?_
  rintro e w1 ⟨At, ct, ts, z, rfl, hl, hzz, ho, hb⟩
  have HB1 := Lib.hid hb
  have HO := Lib.hid ho
  have HT := Lib.hid ho.reads.2
  have hct := own_le ho
  clear hb ho H
  have HD1 := Lib.hid (Below.refl w1.heap.size w1)
  have hs1 := HB1.out.size
  obtain ⟨b, hv⟩ : ∃ b, allB ts z = b := ⟨_, rfl⟩
  obtain ⟨xs, hxs⟩ : ∃ xs, xs = if b then (allA ts z ts.length).1 else [] := ⟨_, rfl⟩
  obtain ⟨zr, hzr⟩ : ∃ zr, zr = if b then (allA ts z ts.length).2 else [] := ⟨_, rfl⟩
  have HV := Lib.hid hv
  have HXS : Hid (xs = if b = true then (allA ts z ts.length).1 else []) := hxs
  have HZR : Hid (zr = if b = true then (allA ts z ts.length).2 else []) := hzr
  have hxl : xs.length ≤ 6 := by
    rw [hxs]; split
    · exact Nat.le_trans (all_len _ _ _ (Nat.le_refl _)).1 (by omega)
    · exact Nat.zero_le _
  have hrl : zr.length ≤ 11 := by
    rw [hzr]; split
    · exact Nat.le_trans (all_len _ _ _ (Nat.le_refl _)).2 hl
    · exact Nat.zero_le _
  clear hv hxs hzr
  go_wp2_with fail
  refine (iAll_is w1 At _ ct ts z (tks_to HT.out HD1.out) b HV.out (by omega) xs zr HXS.out HZR.out e0 (HE.out.below HB1.out)).mono ?_
  rintro e w2 ⟨Ax, cx, Ar, cr, rfl, ho, hoz, hb⟩
  have hs2 := hb.size
  have HB2 := Lib.hid (show Below w.heap.size w w2 from bl_trans HB1.out hb)
  have HD2 := Lib.hid (show Below w1.heap.size w1 w2 from bl_trans HD1.out hb)
  have HX2 := Lib.hid (ho)
  have HR2 := Lib.hid (hoz.reads)
  clear hb ho
  clear hoz
  go_wp2_with fail
  refine (sAll_is w2 At _ ct ts z (tks_to HT.out HD2.out) b HV.out (by omega) xs zr HXS.out HZR.out).mono ?_
  rintro e w3 ⟨Aw, cw, As, cs, rfl, ho, hoz, hb⟩
  have hs3 := hb.size
  have HB3 := Lib.hid (show Below w.heap.size w w3 from bl_trans HB2.out hb)
  have HD3 := Lib.hid (show Below w1.heap.size w1 w3 from bl_trans HD2.out hb)
  have HX3 := Lib.hid (HX2.out.below hb)
  have HR3 := Lib.hid ((HR2.out.below hb).more hb.size)
  have HW3 := Lib.hid (ho)
  have HS3 := Lib.hid (hoz.reads)
  clear hb ho
  clear hoz
  go_wp2_with fail
  refine (dmTasks_any w3 Ax Aw _ cx cw xs HX3.out.reads.2 HW3.out.reads.2 (by omega)).mono ?_
  rintro e w4 ⟨rfl, hb⟩
  have hs4 := hb.size
  have HB4 := Lib.hid (show Below w.heap.size w w4 from bl_trans HB3.out hb)
  have HD4 := Lib.hid (show Below w1.heap.size w1 w4 from bl_trans HD3.out hb)
  have HX4 := Lib.hid (HX3.out.below hb)
  have HR4 := Lib.hid ((HR3.out.below hb).more hb.size)
  have HW4 := Lib.hid (HW3.out.below hb)
  have HS4 := Lib.hid ((HS3.out.below hb).more hb.size)
  clear hb
  go_wp2_with fail
  refine (dmInts_any w4 Ar As _ cr cs zr HR4.out HS4.out (by omega)).mono ?_
  rintro e w5 ⟨rfl, hb⟩
  have hs5 := hb.size
  have HB5 := Lib.hid (show Below w.heap.size w w5 from bl_trans HB4.out hb)
  have HD5 := Lib.hid (show Below w1.heap.size w1 w5 from bl_trans HD4.out hb)
  have HX5 := Lib.hid (HX4.out.below hb)
  have HR5 := Lib.hid ((HR4.out.below hb).more hb.size)
  have HW5 := Lib.hid (HW4.out.below hb)
  have HS5 := Lib.hid ((HS4.out.below hb).more hb.size)
  clear hb
  cases b
  · go_wp2_with fail
    refine (dmTasks_any w5 Ax Aw _ cx cw xs HX5.out.reads.2 HW5.out.reads.2 (by omega)).mono ?_
    rintro e w6 ⟨rfl, hb⟩
    have hs6 := hb.size
    have HB6 := Lib.hid (show Below w.heap.size w w6 from bl_trans HB5.out hb)
    have HD6 := Lib.hid (show Below w1.heap.size w1 w6 from bl_trans HD5.out hb)
    have HX6 := Lib.hid (HX5.out.below hb)
    have HR6 := Lib.hid ((HR5.out.below hb).more hb.size)
    have HW6 := Lib.hid (HW5.out.below hb)
    have HS6 := Lib.hid ((HS5.out.below hb).more hb.size)
    clear hb
    go_wp2_with fail
    refine (dmInts_any w6 Ar As _ cr cs zr HR6.out HS6.out (by omega)).mono ?_
    rintro e w7 ⟨rfl, hb⟩
    have hs7 := hb.size
    have HB7 := Lib.hid (show Below w.heap.size w w7 from bl_trans HB6.out hb)
    have HD7 := Lib.hid (show Below w1.heap.size w1 w7 from bl_trans HD6.out hb)
    have HX7 := Lib.hid (HX6.out.below hb)
    have HR7 := Lib.hid ((HR6.out.below hb).more hb.size)
    have HW7 := Lib.hid (HW6.out.below hb)
    have HS7 := Lib.hid ((HS6.out.below hb).more hb.size)
    clear hb
    go_wp2
    go_ret
    exact ⟨rfl, HB7.out⟩
  · by_cases hn0 : ts.length = 0
    · have hne : ((ts.length : Int) == 0) = true := by rw [beq_iff_eq]; omega
      go_wp2_with fail
      refine (dmTasks_any w5 Ax Aw _ cx cw xs HX5.out.reads.2 HW5.out.reads.2 (by omega)).mono ?_
      rintro e w6 ⟨rfl, hb⟩
      have hs6 := hb.size
      have HB6 := Lib.hid (show Below w.heap.size w w6 from bl_trans HB5.out hb)
      have HD6 := Lib.hid (show Below w1.heap.size w1 w6 from bl_trans HD5.out hb)
      have HX6 := Lib.hid (HX5.out.below hb)
      have HR6 := Lib.hid ((HR5.out.below hb).more hb.size)
      have HW6 := Lib.hid (HW5.out.below hb)
      have HS6 := Lib.hid ((HS5.out.below hb).more hb.size)
      clear hb
      go_wp2_with fail
      refine (dmInts_any w6 Ar As _ cr cs zr HR6.out HS6.out (by omega)).mono ?_
      rintro e w7 ⟨rfl, hb⟩
      have hs7 := hb.size
      have HB7 := Lib.hid (show Below w.heap.size w w7 from bl_trans HB6.out hb)
      have HD7 := Lib.hid (show Below w1.heap.size w1 w7 from bl_trans HD6.out hb)
      have HX7 := Lib.hid (HX6.out.below hb)
      have HR7 := Lib.hid ((HR6.out.below hb).more hb.size)
      have HW7 := Lib.hid (HW6.out.below hb)
      have HS7 := Lib.hid ((HS6.out.below hb).more hb.size)
      clear hb
      go_wp2
      go_ret
      exact ⟨rfl, HB7.out⟩
    have hne : ((ts.length : Int) == 0) = false := by rw [beq_eq_false_iff_ne]; omega
    obtain ⟨_, hp⟩ := allB_pol HV.out
    obtain ⟨t, ht⟩ : ∃ t, ts[0]? = some t := ⟨ts[0]'(by omega), List.getElem?_eq_getElem _⟩
    obtain ⟨f1, f2⟩ := all_first (ts := ts) (pol := z) ht (ts.length - 1) (by omega)
    rw [show ts.length - 1 + 1 = ts.length by omega, show (allA ts z ts.length).2 = zr from HZR.out.symm] at f1 f2
    obtain ⟨q, hq⟩ : ∃ q, canB [t] z = q := ⟨_, rfl⟩
    rw [adm_first t hp, hq] at f1 f2
    have HQ := Lib.hid hq
    have F1 := Lib.hid f1
    have F2 := Lib.hid f2
    have htk : ts.take 1 = [t] := by
      rcases ts with _ | ⟨t0, tr⟩
      · cases ht
      · have e : t0 = t := by simpa using ht
        rw [e]; rfl
    have HTK := Lib.hid htk
    obtain ⟨r, hr⟩ : ∃ r, validB t.lo t.hi t.du t.ev t.cr = r := ⟨_, rfl⟩
    have HRV := Lib.hid hr
    have HNO : Hid (r = false → q = false) := fun h => by
      cases hc : q
      · rfl
      · have h1 : t.ok = true := can_ok (hq.trans hc)
        have h2 : validB t.lo t.hi t.du t.ev t.cr = true := h1
        rw [hr, h] at h2; cases h2
    obtain ⟨gt, hAt⟩ : ∃ gg, At = some ⟨gg, 0, none⟩ := by
      rcases HO.out.2 with ⟨e, h0⟩ | ⟨gg, cap, cur, e, _⟩
      · omega
      · injection e with e1 e2 e3; exact ⟨gg, e1⟩
    subst hAt
    obtain ⟨bt, ot, eA, hblt, a0, a1, a2, a3, a4⟩ := (tks_to HT.out HD5.out).at_ 0 t ht
    injection eA with eA
    injection eA with eA1 eA2
    subst eA1 eA2
    simp only [Nat.zero_mul, Nat.add_zero, Nat.zero_add] at a0 a1 a2 a3 a4
    have p2 : (0 : Int) < (ts.length : Int) := by omega
    have p3 : (1 : Int) ≤ (ct : Int) := by omega
    clear hp ht f1 f2 hq hr htk
    obtain ⟨lo, hi', du, ev, cr'⟩ := t
    dsimp only at a0 a1 a2 a3 a4 HRV
    go_wp2_with fail
    refine (iTaskValid_any lo hi' du ev cr' w5).mono ?_
    rintro e w6 ⟨rfl, hww⟩
    have hb : Below w5.heap.size w5 w6 := by rw [← hww]; exact bl_alloc (Below.refl _ _) _
    clear hww a0 a1 a2 a3 a4
    have hs6 := hb.size
    have HB6 := Lib.hid (show Below w.heap.size w w6 from bl_trans HB5.out hb)
    have HD6 := Lib.hid (show Below w1.heap.size w1 w6 from bl_trans HD5.out hb)
    have HX6 := Lib.hid (HX5.out.below hb)
    have HR6 := Lib.hid ((HR5.out.below hb).more hb.size)
    have HW6 := Lib.hid (HW5.out.below hb)
    have HS6 := Lib.hid ((HS5.out.below hb).more hb.size)
    clear hb
    rw [HRV.out]
    cases r
    · obtain rfl : q = false := HNO.out rfl
      have hz := F2.out rfl
      obtain ⟨bz, oz, eZ, hbz, y0⟩ := HR6.out.at_ 0 0 hz
      have hzl : 0 < zr.length := (List.getElem?_eq_some_iff.1 hz).1
      have hzn : ((zr.length : Int) == 0) = false := by rw [beq_eq_false_iff_ne]; omega
      have hzp : (0 : Int) < (zr.length : Int) := by omega
      subst eZ
      simp only [Nat.add_zero] at y0
      clear hz
      go_wp2
      go_ret
      exact ⟨rfl, HB6.out⟩
    · go_wp2_with fail
      refine (iCanHold_is w6 (some ⟨gt, 0, none⟩) 1 ct [(⟨lo, hi', du, ev, cr'⟩ : Tk)] z (by have h := Tks.take (tks_to HT.out HD6.out) (k := 1) (by omega); rw [HTK.out] at h; exact h) (by omega) (by omega) e0 (HE.out.below HB6.out) q HQ.out).mono ?_
      rintro e w7 ⟨rfl, hb⟩
      have hs7 := hb.size
      have HB7 := Lib.hid (show Below w.heap.size w w7 from bl_trans HB6.out hb)
      have HD7 := Lib.hid (show Below w1.heap.size w1 w7 from bl_trans HD6.out hb)
      have HX7 := Lib.hid (HX6.out.below hb)
      have HR7 := Lib.hid ((HR6.out.below hb).more hb.size)
      have HW7 := Lib.hid (HW6.out.below hb)
      have HS7 := Lib.hid ((HS6.out.below hb).more hb.size)
      clear hb
      cases q
      · have hz := F2.out rfl
        obtain ⟨bz, oz, eZ, hbz, y0⟩ := HR7.out.at_ 0 0 hz
        have hzl : 0 < zr.length := (List.getElem?_eq_some_iff.1 hz).1
        have hzn : ((zr.length : Int) == 0) = false := by rw [beq_eq_false_iff_ne]; omega
        have hzp : (0 : Int) < (zr.length : Int) := by omega
        subst eZ
        simp only [Nat.add_zero] at y0
        clear hz
        go_wp2
        go_ret
        exact ⟨rfl, HB7.out⟩
      · by_cases hz0 : zr.length = 0
        · have hzn : ((zr.length : Int) == 0) = true := by rw [beq_iff_eq]; omega
          go_wp2
          go_ret
          exact ⟨rfl, HB7.out⟩
        · obtain ⟨y, hy⟩ : ∃ y, zr[0]? = some y := ⟨zr[0]'(by omega), List.getElem?_eq_getElem _⟩
          obtain ⟨bz, oz, eZ, hbz, y0⟩ := HR7.out.at_ 0 y hy
          have hyp := F1.out rfl y (List.mem_of_getElem? hy)
          have hyd : decide (y > 0) = true := decide_eq_true hyp
          have hzn : ((zr.length : Int) == 0) = false := by rw [beq_eq_false_iff_ne]; omega
          have hzp : (0 : Int) < (zr.length : Int) := by omega
          subst eZ
          simp only [Nat.add_zero] at y0
          clear hy
          go_wp2
          go_ret
          exact ⟨rfl, HB7.out⟩

end Go.Proofs.YtgfnlfjaekkdfaaGreatDoor
