/- The walk of the law FnAdmitRefused. -/
import Derived.Test.YtgfnlfjaekkdfaaGreatDoorD8f
import Derived.Test.YtgfnlfjaekkdfaaGreatDoorPAc
import Derived.Test.YtgfnlfjaekkdfaaGreatDoorAa
import Derived.Test.YtgfnlfjaekkdfaaGreatDoorNB
import Derived.Test.YtgfnlfjaekkdfaaGreatDoorNA
namespace Go.Proofs.YtgfnlfjaekkdfaaGreatDoor
open Go.RowKit
set_option linter.unusedVariables false

set_option maxRecDepth 100000 in
set_option maxHeartbeats 4000000 in
theorem fnAdmitRefused_walk (w : World) (A : Option Addr) (n c : Nat) (f : Nat → Int) (h : Code w w.heap.size A n c f) (e0 : Addr) (he : EG w e0) :
    Calls Tryz.prog 7 #[.slice A n c] w fun e w' => e = .returned (.bool true) ∧ Below w.heap.size w w' := by
  have H := Lib.hid h
  have HE := Lib.hid he
  have hle := h.le
  have hmax := h.max
  unfold maxLen at hmax
  clear h he
  by_cases hn : 1048576 < n
  · go_enter Tryz.func7, Tryz.ntmps7
    go_wp2
    go_ret
    exact ⟨rfl, Below.refl _ _⟩
  go_enter Tryz.func7, Tryz.ntmps7
  go_wp2_with fail
  refine (dDrawAdmitAll_any _ A n c f H.out).mono ?_
  rintro e w1 ⟨At, ct, ts, z, rfl, hl, hzz, ho, hb⟩
  have HB1 := Lib.hid hb
  have HO := Lib.hid ho
  have HT := Lib.hid ho.reads.2
  have hct := own_le ho
  clear hb ho H
  have HD1 := Lib.hid (Below.refl w1.heap.size w1)
  have hs1 := HB1.out.size
  obtain ⟨b, hv⟩ : ∃ b, allB ts z = b := ⟨_, rfl⟩
  obtain ⟨xs, hxs⟩ : ∃ xs, xs = if b then (allA ts z ts.length).1 else [] := ⟨_, rfl⟩
  obtain ⟨zr, hzr⟩ : ∃ zr, zr = if b then (allA ts z ts.length).2 else [] := ⟨_, rfl⟩
  have HV := Lib.hid hv
  have HXS : Hid (xs = if b = true then (allA ts z ts.length).1 else []) := hxs
  have HZR : Hid (zr = if b = true then (allA ts z ts.length).2 else []) := hzr
  have hxl : xs.length ≤ 6 := by
    rw [hxs]; split
    · exact Nat.le_trans (all_len _ _ _ (Nat.le_refl _)).1 (by omega)
    · exact Nat.zero_le _
  have hrl : zr.length ≤ 11 := by
    rw [hzr]; split
    · exact Nat.le_trans (all_len _ _ _ (Nat.le_refl _)).2 hl
    · exact Nat.zero_le _
  clear hv hxs hzr
  go_wp2_with fail
  refine (iAll_is w1 At _ ct ts z (tks_to HT.out HD1.out) b HV.out (by omega) xs zr HXS.out HZR.out e0 (HE.out.below HB1.out)).mono ?_
  rintro e w2 ⟨Ax, cx, Ar, cr, rfl, ho, hoz, hb⟩
  have hs2 := hb.size
  have HB2 := Lib.hid (show Below w.heap.size w w2 from bl_trans HB1.out hb)
  have HD2 := Lib.hid (show Below w1.heap.size w1 w2 from bl_trans HD1.out hb)
  have HX2 := Lib.hid (ho)
  have HR2 := Lib.hid (hoz.reads)
  clear hb ho
  clear hoz
  go_wp2_with fail
  refine (sAll_is w2 At _ ct ts z (tks_to HT.out HD2.out) b HV.out (by omega) xs zr HXS.out HZR.out).mono ?_
  rintro e w3 ⟨Aw, cw, As, cs, rfl, ho, hoz, hb⟩
  have hs3 := hb.size
  have HB3 := Lib.hid (show Below w.heap.size w w3 from bl_trans HB2.out hb)
  have HD3 := Lib.hid (show Below w1.heap.size w1 w3 from bl_trans HD2.out hb)
  have HX3 := Lib.hid (HX2.out.below hb)
  have HR3 := Lib.hid ((HR2.out.below hb).more hb.size)
  have HW3 := Lib.hid (ho)
  have HS3 := Lib.hid (hoz.reads)
  clear hb ho
  clear hoz
  go_wp2_with fail
  refine (dmTasks_any w3 Ax Aw _ cx cw xs HX3.out.reads.2 HW3.out.reads.2 (by omega)).mono ?_
  rintro e w4 ⟨rfl, hb⟩
  have hs4 := hb.size
  have HB4 := Lib.hid (show Below w.heap.size w w4 from bl_trans HB3.out hb)
  have HD4 := Lib.hid (show Below w1.heap.size w1 w4 from bl_trans HD3.out hb)
  have HX4 := Lib.hid (HX3.out.below hb)
  have HR4 := Lib.hid ((HR3.out.below hb).more hb.size)
  have HW4 := Lib.hid (HW3.out.below hb)
  have HS4 := Lib.hid ((HS3.out.below hb).more hb.size)
  clear hb
  go_wp2_with fail
  refine (dmInts_any w4 Ar As _ cr cs zr HR4.out HS4.out (by omega)).mono ?_
  rintro e w5 ⟨rfl, hb⟩
  have hs5 := hb.size
  have HB5 := Lib.hid (show Below w.heap.size w w5 from bl_trans HB4.out hb)
  have HD5 := Lib.hid (show Below w1.heap.size w1 w5 from bl_trans HD4.out hb)
  have HX5 := Lib.hid (HX4.out.below hb)
  have HR5 := Lib.hid ((HR4.out.below hb).more hb.size)
  have HW5 := Lib.hid (HW4.out.below hb)
  have HS5 := Lib.hid ((HS4.out.below hb).more hb.size)
  clear hb
  cases b
  · go_wp2_with fail
    refine (dmTasks_any w5 Ax Aw _ cx cw xs HX5.out.reads.2 HW5.out.reads.2 (by omega)).mono ?_
    rintro e w6 ⟨rfl, hb⟩
    have hs6 := hb.size
    have HB6 := Lib.hid (show Below w.heap.size w w6 from bl_trans HB5.out hb)
    have HD6 := Lib.hid (show Below w1.heap.size w1 w6 from bl_trans HD5.out hb)
    have HX6 := Lib.hid (HX5.out.below hb)
    have HR6 := Lib.hid ((HR5.out.below hb).more hb.size)
    have HW6 := Lib.hid (HW5.out.below hb)
    have HS6 := Lib.hid ((HS5.out.below hb).more hb.size)
    clear hb
    go_wp2_with fail
    refine (dmInts_any w6 Ar As _ cr cs zr HR6.out HS6.out (by omega)).mono ?_
    rintro e w7 ⟨rfl, hb⟩
    have hs7 := hb.size
    have HB7 := Lib.hid (show Below w.heap.size w w7 from bl_trans HB6.out hb)
    have HD7 := Lib.hid (show Below w1.heap.size w1 w7 from bl_trans HD6.out hb)
    have HX7 := Lib.hid (HX6.out.below hb)
    have HR7 := Lib.hid ((HR6.out.below hb).more hb.size)
    have HW7 := Lib.hid (HW6.out.below hb)
    have HS7 := Lib.hid ((HS6.out.below hb).more hb.size)
    clear hb
    go_wp2
    go_ret
    exact ⟨rfl, HB7.out⟩
  · obtain ⟨_, hp⟩ := allB_pol HV.out
    obtain ⟨f1, f2, f3, f4⟩ := all_facts (ts := ts) hp ts.length (Nat.le_refl _)
    have hx5 := (all_len ts z ts.length (Nat.le_refl _)).1
    rw [show (allA ts z ts.length).1 = xs from HXS.out.symm] at hx5
    rw [show (allA ts z ts.length).2 = zr from HZR.out.symm] at f3 f4
    have F3 := Lib.hid f3
    have F4 := Lib.hid f4
    have hx5d : decide ((xs.length : Int) ≤ 5) = true := decide_eq_true (by omega)
    clear f1 f2 f3 f4 hp
    go_wp2
    go_loopw [11] (fun i wr => ∃ j : Nat, j ≤ zr.length ∧ i = .int .i64 j ∧ Hid (Below w5.heap.size w5 wr)) (fun i _ => zr.length - (intOf i).toNat)
    case atStart => exact ⟨0, Nat.zero_le _, rfl, Lib.hid (Below.refl _ _)⟩
    case round =>
      obtain ⟨j, hj, rfl, HRR⟩ := hrel
      by_cases hlt : j < zr.length
      · have hji : (j : Int) < (zr.length : Int) := by omega
        have hj0 : (0 : Int) ≤ (j : Int) := by omega
        obtain ⟨y, hy⟩ : ∃ y, zr[j]? = some y := ⟨_, List.getElem?_eq_getElem hlt⟩
        obtain ⟨bz, oz, rfl, hbz, a0⟩ := (HR5.out.below HRR.out).at_ j y hy
        have hyr := F3.out y (List.mem_of_getElem? hy)
        have y1 : decide (y < 0) = false := decide_eq_false (by omega)
        have y2 : decide (y ≥ (ts.length : Int)) = false := decide_eq_false (by omega)
        by_cases hj1 : j = 0
        · subst hj1
          have a0' : wr.cell? ⟨bz, oz, none⟩ = some (.int .i64 y) := by simpa using a0
          clear hy a0
          go_wp2
          go_region
          all_goals (
            go_wp2
            go_roundw
            case rel => exact ⟨0 + 1, by omega, by go_num, Lib.hid (bl_trans HRR.out (by repeat (first | exact Below.refl _ _ | refine Below.drew ?_)))⟩
            case measure => simp [intOf]; omega)
        · obtain ⟨p, rfl⟩ : ∃ p, j = p + 1 := ⟨j - 1, by omega⟩
          obtain ⟨x, hx⟩ : ∃ x, zr[p]? = some x := ⟨_, List.getElem?_eq_getElem (by omega)⟩
          obtain ⟨bz2, oz2, e, hbz2, a1⟩ := (HR5.out.below HRR.out).at_ p x hx
          injection e with e
          injection e with e1 e2
          subst e1 e2
          have hlt2 : x < y := by
            have h := List.pairwise_iff_getElem.1 F4.out p (p + 1) (by omega) hlt (by omega)
            obtain ⟨_, h1⟩ := List.getElem?_eq_some_iff.1 hx
            obtain ⟨_, h2⟩ := List.getElem?_eq_some_iff.1 hy
            rw [h1, h2] at h; exact h
          have y3 : decide (y ≤ x) = false := decide_eq_false (by omega)
          have y4 : decide (((p + 1 : Nat) : Int) > 0) = true := decide_eq_true (by omega)
          have hw1 : IntKind.i64.wrap (((p + 1 : Nat) : Int) - 1) = (p : Int) := by rw [IntWalk.i64_in _ (by omega)]; omega
          have hp0 : (0 : Int) ≤ (p : Int) := by omega
          have hp1 : (p : Int) < (zr.length : Int) := by omega
          clear hy hx hlt2
          go_wp2
          go_region
          all_goals (
            go_wp2
            go_roundw
            case rel => exact ⟨p + 1 + 1, by omega, by go_num, Lib.hid (bl_trans HRR.out (by repeat (first | exact Below.refl _ _ | refine Below.drew ?_)))⟩
            case measure => simp [intOf]; omega)
      · obtain rfl : j = zr.length := by omega
        go_wp2
        go_ret
        exact ⟨rfl, bl_trans HB5.out HRR.out⟩

end Go.Proofs.YtgfnlfjaekkdfaaGreatDoor
