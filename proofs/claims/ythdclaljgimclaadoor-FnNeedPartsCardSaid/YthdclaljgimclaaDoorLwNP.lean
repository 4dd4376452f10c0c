/- The walk of the law FnNeedParts. -/
import Derived.Test.YthdclaljgimclaaDoorDt
import Derived.Test.YthdclaljgimclaaDoorQNe
import Derived.Test.YthdclaljgimclaaDoorSNe
import Derived.Deep.RegionHeld3
namespace Go.Proofs.YthdclaljgimclaaDoor
open Go.RowKit
set_option linter.unusedVariables false

set_option maxRecDepth 100000 in
set_option maxHeartbeats 8000000 in
theorem fnNeedParts_walk (w : World) (A : Option Addr) (n c : Nat) (f : Nat → Int) (h : Code w w.heap.size A n c f) (ht : TG w) :
    Calls Tryd.prog 5 #[.slice A n c] w fun e w' => e = .returned (.bool true) ∧ Below w.heap.size w w' := by
  have HTG0 := Lib.hid ht
  clear ht
  have H := Lib.hid h
  have hle := h.le
  have hmax := h.max
  unfold maxLen at hmax
  clear h
  by_cases hn : 1048576 < n
  · go_enter Tryd.func5, Tryd.ntmps5
    go_wp2
    go_ret
    exact ⟨rfl, Below.refl _ _⟩
  go_enter Tryd.func5, Tryd.ntmps5
  go_wp2_with fail
  refine (dDrawNeedOf_any _ A n c f H.out).mono ?_
  rintro e w1 ⟨gj, cj, js, z, rfl, hjl, hsj, z0, z1, hj, hb⟩
  have HB1 := Lib.hid hb
  have hs1 := HB1.out.size
  have HOJ1 := Lib.hid hj
  have HJ1 := Lib.hid hj.reads.2
  have hjc := hj.le
  clear hj hsj
  clear hb H
  have HTG1 := Lib.hid (HTG0.out.below HB1.out)
  have hgj := HOJ1.out.cells_
  obtain ⟨fl, hfl⟩ : ∃ fl, fmtJ js = fl := ⟨_, rfl⟩
  have HF := Lib.hid hfl
  clear hfl
  obtain ⟨r, hr⟩ : ∃ r, needJ js z = r := ⟨_, rfl⟩
  have HR := Lib.hid hr
  clear hr
  go_wp2_with fail
  refine (iNeed_is _ (some ⟨gj, 0, none⟩) js.length cj js (jbs_to HJ1.out (by repeat (first | with_reducible exact Below.refl _ _ | with_reducible refine Below.drew ?_ | with_reducible refine bl_drewN ?_ _ | with_reducible refine bl_alloc ?_ _))) z r HR.out).mono ?_
  rintro e w2 ⟨rfl, hb⟩
  have HS2 := Lib.hid (show Below w1.heap.size w1 w2 from bl_trans (by repeat (first | with_reducible exact Below.refl _ _ | with_reducible refine Below.drew ?_ | with_reducible refine bl_drewN ?_ _ | with_reducible refine bl_alloc ?_ _)) hb)
  have HB2 := Lib.hid (bl_trans HB1.out HS2.out)
  have hs2 := HB2.out.size
  have hq2 := HS2.out.size
  have HJ2 := Lib.hid (jbs_to HJ1.out HS2.out)
  clear hb
  have HTG2 := Lib.hid (HTG1.out.below HS2.out)
  go_wp2_with fail
  refine (sNeed_is _ (some ⟨gj, 0, none⟩) js.length cj js (jbs_to HJ2.out (by repeat (first | with_reducible exact Below.refl _ _ | with_reducible refine Below.drew ?_ | with_reducible refine bl_drewN ?_ _ | with_reducible refine bl_alloc ?_ _))) z r HR.out).mono ?_
  rintro e w3 ⟨rfl, hb⟩
  have HS3 := Lib.hid (show Below w2.heap.size w2 w3 from bl_trans (by repeat (first | with_reducible exact Below.refl _ _ | with_reducible refine Below.drew ?_ | with_reducible refine bl_drewN ?_ _ | with_reducible refine bl_alloc ?_ _)) hb)
  have HB3 := Lib.hid (bl_trans HB2.out HS3.out)
  have hs3 := HB3.out.size
  have hq3 := HS3.out.size
  have HJ3 := Lib.hid (jbs_to HJ2.out HS3.out)
  clear hb
  have HTG3 := Lib.hid (HTG2.out.below HS3.out)
  go_wp2_with fail
  refine (iFmtJ_to _ (some ⟨gj, 0, none⟩) js.length cj js (jbs_to HJ3.out (by repeat (first | with_reducible exact Below.refl _ _ | with_reducible refine Below.drew ?_ | with_reducible refine bl_drewN ?_ _ | with_reducible refine bl_alloc ?_ _))) (HTG3.out.below (by repeat (first | with_reducible exact Below.refl _ _ | with_reducible refine Below.drew ?_ | with_reducible refine bl_drewN ?_ _ | with_reducible refine bl_alloc ?_ _))) fl HF.out).mono ?_
  rintro e w4 ⟨rfl, hb⟩
  have HS4 := Lib.hid (show Below w3.heap.size w3 w4 from bl_trans (by repeat (first | with_reducible exact Below.refl _ _ | with_reducible refine Below.drew ?_ | with_reducible refine bl_drewN ?_ _ | with_reducible refine bl_alloc ?_ _)) hb)
  have HB4 := Lib.hid (bl_trans HB3.out HS4.out)
  have hs4 := HB4.out.size
  have hq4 := HS4.out.size
  have HJ4 := Lib.hid (jbs_to HJ3.out HS4.out)
  clear hb
  have HTG4 := Lib.hid (HTG3.out.below HS4.out)
  by_cases he : fl = []
  · subst he
    go_wp2_with fail
    refine (sNeed_is _ (some ⟨gj, 0, none⟩) js.length cj js (jbs_to HJ4.out (by repeat (first | with_reducible exact Below.refl _ _ | with_reducible refine Below.drew ?_ | with_reducible refine bl_drewN ?_ _ | with_reducible refine bl_alloc ?_ _))) z r HR.out).mono ?_
    rintro e w5 ⟨rfl, hb⟩
    have HS5 := Lib.hid (show Below w4.heap.size w4 w5 from bl_trans (by repeat (first | with_reducible exact Below.refl _ _ | with_reducible refine Below.drew ?_ | with_reducible refine bl_drewN ?_ _ | with_reducible refine bl_alloc ?_ _)) hb)
    have HB5 := Lib.hid (bl_trans HB4.out HS5.out)
    have hs5 := HB5.out.size
    have hq5 := HS5.out.size
    have HJ5 := Lib.hid (jbs_to HJ4.out HS5.out)
    clear hb
    have HTG5 := Lib.hid (HTG4.out.below HS5.out)
    go_wp2
    go_ret
    exact ⟨rfl, by repeat (first | with_reducible exact HB5.out | refine bl_drewN ?_ _ | refine Below.drew ?_ | refine bl_alloc ?_ _)⟩
  have hq : (fl == []) = false := by simpa using he
  obtain ⟨hw, _⟩ := fmt_some HF.out he
  have hj60 : js.length ≤ 60 := (wrsB_iff.1 hw).1
  have hj1 : 1 ≤ js.length := by
    rcases Nat.eq_zero_or_pos js.length with h | h
    · exfalso
      have h0 : js = [] := List.eq_nil_of_length_eq_zero h
      rw [h0] at HF
      exact he HF.out.symm
    · exact h
  obtain ⟨m, hm⟩ : ∃ m, js.length = m := ⟨_, rfl⟩
  obtain ⟨r1, hr1⟩ : ∃ r1, needJ (js.take (m / 2)) z = r1 := ⟨_, rfl⟩
  obtain ⟨r2, hr2⟩ : ∃ r2, needJ (js.drop (m / 2)) z = r2 := ⟨_, rfl⟩
  have hsum : r1 + r2 = r := by rw [← hr1, ← hr2, ← HR.out]; exact need_parts (m / 2) z hw
  have hrb : 0 ≤ r ∧ r ≤ 1200 := by
    rw [← HR.out]; unfold needJ; rw [hw]
    have := sumJ_bound (z := z) (wrsB_iff.1 hw).2
    rw [if_pos rfl]; omega
  have hmc : m ≤ cj := by omega
  have HL1 := Lib.hid (fun (W : World) (nn cc : Nat) (hnn : nn = m / 2) (hD : Below w4.heap.size w4 W) => iNeed_is W (some ⟨gj, 0, none⟩) nn cc (js.take (m / 2)) (by rw [hnn]; exact (jbs_to HJ4.out hD).take (by rw [hm]; omega)) z r1 hr1)
  have HL2 := Lib.hid (fun (W : World) (nn oo cc : Nat) (hnn : nn = m - m / 2) (ho : oo = 0 + m / 2 * 3) (hD : Below w4.heap.size w4 W) => iNeed_is W (some ⟨gj, oo, none⟩) nn cc (js.drop (m / 2)) (by have h := (jbs_to HJ4.out hD).drop (k := m / 2) ho; rw [hm, ← hnn] at h; exact h) z r2 hr2)
  have kw : IntKind.i64.wrap (r1 + r2) = r := by rw [hsum]; exact IntWalk.i64_in _ (by omega)
  rw [hm] at hj1 hj60 ⊢
  have HSUM := Lib.hid hsum
  have j1 : (0 : Int) ≤ (m : Int) / 2 := by omega
  have j2 : (m : Int) / 2 ≤ (m : Int) := by omega
  have j3 : (m : Int) ≤ (cj : Int) := by omega
  have j4 : (m : Int) / 2 ≤ (cj : Int) := by omega
  have j5 : ((m : Int) / 2 == (cj : Int)) = false := by rw [beq_eq_false_iff_ne]; omega
  have j6 : ¬ (m : Int) / 2 = (cj : Int) := by omega
  have j7 : ¬ m / 2 = cj := by omega
  clear hw he hr1 hr2 hsum hm hjc
  go_wp2
  go_region_held3 (fun _ => True) (exact True.intro)
    ((first
      | (go_at_call 18; (with_reducible refine (HL1.out _ _ _ ?_ ?_).mono ?_); (· (omega)); (· (repeat (first | with_reducible exact Below.refl _ _ | with_reducible refine Below.drew ?_ | with_reducible refine bl_drewN ?_ _))); rintro e w7 ⟨rfl, hb⟩; have HS7 := Lib.hid (show Below w4.heap.size w4 w7 from bl_trans (by repeat (first | with_reducible exact Below.refl _ _ | with_reducible refine Below.drew ?_ | with_reducible refine bl_drewN ?_ _ | with_reducible refine bl_alloc ?_ _)) hb); clear hb)
      | (go_at_call 18; (with_reducible refine (HL2.out _ _ _ _ ?_ ?_ ?_).mono ?_); (· (omega)); (· (omega)); (· (repeat (first | with_reducible exact HS7.out | with_reducible refine Below.drew ?_ | with_reducible refine bl_drewN ?_ _))); rintro e w8 ⟨rfl, hb⟩; have HS8 := Lib.hid (show Below w4.heap.size w4 w8 from bl_trans (by repeat (first | with_reducible exact HS7.out | with_reducible refine Below.drew ?_ | with_reducible refine bl_drewN ?_ _)) hb); clear hb)))
  have HB9 := Lib.hid (bl_trans HB4.out HS8.out)
  go_wp2
  go_ret
  exact ⟨by simp, by repeat (first | with_reducible exact HB9.out | refine bl_drewN ?_ _ | refine Below.drew ?_)⟩

end Go.Proofs.YthdclaljgimclaaDoor
