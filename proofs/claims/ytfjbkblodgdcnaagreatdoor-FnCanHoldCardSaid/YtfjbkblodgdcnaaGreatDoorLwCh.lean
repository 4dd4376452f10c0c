/- The walk of the law FnCanHold. -/
import Derived.Test.YtfjbkblodgdcnaaGreatDoorDq
import Derived.Test.YtfjbkblodgdcnaaGreatDoorCh
import Derived.Test.YtfjbkblodgdcnaaGreatDoorNB
import Derived.Test.YtfjbkblodgdcnaaGreatDoorNA
namespace Go.Proofs.YtfjbkblodgdcnaaGreatDoor
open Go.RowKit
set_option linter.unusedVariables false

set_option maxRecDepth 100000 in
set_option maxHeartbeats 4000000 in
theorem fnCanHold_walk (w : World) (A : Option Addr) (n c : Nat) (f : Nat → Int) (h : Code w w.heap.size A n c f) (e0 : Addr) (he : EG w e0) :
    Calls Tryz.prog 6 #[.slice A n c] w fun e w' => e = .returned (.bool true) ∧ Below w.heap.size w w' := by
  have H := Lib.hid h
  have HE := Lib.hid he
  have hle := h.le
  have hmax := h.max
  unfold maxLen at hmax
  clear h he
  by_cases hn : 1048576 < n
  · go_enter Tryz.func6, Tryz.ntmps6
    go_wp2
    go_ret
    exact ⟨rfl, Below.refl _ _⟩
  go_enter Tryz.func6, Tryz.ntmps6
  go_wp2_with fail
  refine (dDrawCanHold_any _ A n c f H.out).mono ?_
  rintro e w1 ⟨At, ct, ts, z, rfl, hl, hzz, ho, hb⟩
  have HB1 := Lib.hid hb
  have HO := Lib.hid ho
  have HT := Lib.hid ho.reads.2
  have hct := own_le ho
  clear hb ho H
  have HD1 := Lib.hid (Below.refl w1.heap.size w1)
  have hs1 := HB1.out.size
  obtain ⟨b, hv⟩ : ∃ b, canB ts z = b := ⟨_, rfl⟩
  obtain ⟨r, hr⟩ : ∃ r, hBy ts z = r := ⟨_, rfl⟩
  have HV := Lib.hid hv
  have HR := Lib.hid hr
  have HC : Hid (r = true → b = true) := fun h => by rw [← hv]; exact can_holds (hr.trans h)
  clear hv hr
  go_wp2_with fail
  refine (iCanHold_is w1 At _ ct ts z (tks_to HT.out HD1.out) (by omega) hct e0 (HE.out.below HB1.out) b HV.out).mono ?_
  rintro e w2 ⟨rfl, hb⟩
  have hs2 := hb.size
  have HB2 := Lib.hid (show Below w.heap.size w w2 from bl_trans HB1.out hb)
  have HD2 := Lib.hid (show Below w1.heap.size w1 w2 from bl_trans HD1.out hb)
  clear hb
  go_wp2_with fail
  refine (sCanHold_is w2 At _ ct ts z (tks_to HT.out HD2.out) (by omega) b HV.out).mono ?_
  rintro e w3 ⟨rfl, hb⟩
  have hs3 := hb.size
  have HB3 := Lib.hid (show Below w.heap.size w w3 from bl_trans HB2.out hb)
  have HD3 := Lib.hid (show Below w1.heap.size w1 w3 from bl_trans HD2.out hb)
  clear hb
  go_wp2_with fail
  refine (iHoldsBy_is w3 At _ ct ts z (tks_to HT.out HD3.out) (by omega) hct e0 (HE.out.below HB3.out) r HR.out).mono ?_
  rintro e w4 ⟨rfl, hb⟩
  have hs4 := hb.size
  have HB4 := Lib.hid (show Below w.heap.size w w4 from bl_trans HB3.out hb)
  have HD4 := Lib.hid (show Below w1.heap.size w1 w4 from bl_trans HD3.out hb)
  clear hb
  cases b
  · obtain rfl : r = false := by cases r; rfl; exact absurd (HC.out rfl) (by decide)
    go_wp2
    go_ret
    exact ⟨rfl, HB4.out⟩
  · clear HC
    by_cases h0 : ts.length = 0
    · have h0i : ¬ (0 : Int) < (ts.length : Int) := by omega
      have h0e : ts = [] := List.eq_nil_of_length_eq_zero h0
      subst h0e
      clear h0 h0i
      cases r
      all_goals (
        go_wp2
        go_ret
        exact ⟨rfl, HB4.out⟩)
    have hpos : (0 : Int) < (ts.length : Int) := by omega
    by_cases hz0 : z = 0
    case neg =>
      have p0 : (z == 0) = false := by simpa using hz0
      cases r
      all_goals (
        go_wp2
        go_ret
        exact ⟨rfl, HB4.out⟩)
    case pos =>
      subst hz0
      have HV2 := Lib.hid (can_drop HV.out)
      obtain ⟨gg, hAt, hcap⟩ : ∃ gg, At = some ⟨gg, 0, none⟩ ∧ ts.length ≤ ct := by
        rcases HO.out.2 with ⟨e, h0'⟩ | ⟨gg, cap, cur, e, _, _, h1, h2, _⟩
        · exact absurd h0' h0
        · injection e with e1 e2 e3
          subst e3
          exact ⟨gg, e1, h1⟩
      subst hAt
      have j1 : (1 : Int) ≤ (ts.length : Int) := by omega
      have j3 : (ts.length : Int) ≤ (ct : Int) := by omega
      have j4 : (1 : Int) ≤ (ct : Int) := by omega
      have HCD := Lib.hid (fun (W : World) (nn oo cc : Nat) (hnn : nn = ts.length - 1) (ho : oo = 0 + 1 * 5) (hcc : nn ≤ cc) (hD : Below w1.heap.size w1 W) (hE : EG W e0) => iCanHold_is W (some ⟨gg, oo, none⟩) nn cc (ts.drop 1) 0 (by rw [hnn]; exact Tks.drop (k := 1) (tks_to HT.out hD) ho) (by omega) hcc e0 hE true HV2.out)
      by_cases hc1 : ct = 1
      · have HLL := Lib.hid (show ts.length = 1 by omega)
        have hx0 : ts.drop 1 = [] := List.drop_eq_nil_of_le (by have := HLL.out; omega)
        have HC3 := Lib.hid (fun (W : World) (nn oo cc : Nat) (hnn : nn = 0) (hE : EG W e0) => iCanHold_is W (some ⟨gg, oo, none⟩) nn cc (ts.drop 1) 0 (by rw [hnn, hx0]; exact ⟨rfl, fun i t h => by simp at h⟩) (by omega) (by omega) e0 hE true HV2.out)
        subst hc1
        clear HCD hx0
        cases r
        all_goals (
          go_wp2_with fail
          refine (HC3.out _ 0 0 0 rfl (HE.out.below HB4.out)).mono ?_
          rintro e w9 ⟨rfl, hb⟩
          have HB9 := Lib.hid (bl_trans HB4.out hb)
          clear hb
          go_wp2
          go_ret
          exact ⟨rfl, HB9.out⟩)
      · have nc1 : ¬ (1 : Int) = (ct : Int) := by omega
        have nc2 : ((1 : Int) == (ct : Int)) = false := by rw [beq_eq_false_iff_ne]; omega
        have nc3 : ¬ ct = 1 := hc1
        cases r
        all_goals (
          go_wp2_with fail
          refine (HCD.out _ _ _ _ (by omega) (by omega) (by omega) HD4.out (HE.out.below HB4.out)).mono ?_
          rintro e w9 ⟨rfl, hb⟩
          have HB9 := Lib.hid (bl_trans HB4.out hb)
          clear hb
          go_wp2
          go_ret
          exact ⟨rfl, HB9.out⟩)

end Go.Proofs.YtfjbkblodgdcnaaGreatDoor
