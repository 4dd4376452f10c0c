/- Contract of the reference's NeedOf. Nothing that was there is written. -/
import Derived.Test.YthdclaljgimclaaDoorSJa
import Derived.Test.YthdclaljgimclaaDoorM2
import Derived.LoopTactic
namespace Go.Proofs.YthdclaljgimclaaDoor
open Go.RowKit
set_option linter.unusedVariables false

theorem wrs_no {js : List Jb} {k : Nat} {j : Jb} (h : js[k]? = some j) (hw : wrB j = false) : wrsB js = false := by
  cases hx : wrsB js
  · rfl
  · rw [(wrsB_iff.1 hx).2 j (List.mem_of_getElem? h)] at hw; cases hw
theorem sumJ_take {js : List Jb} {k : Nat} {j : Jb} (z : Int) (h : js[k]? = some j) : sumJ z (js.take (k + 1)) = sumJ z (js.take k) + if j.ta = z then j.ne else 0 := by
  rw [List.take_add_one, h, Option.toList_some, sumJ_app, sumJ_one]
theorem sumJ_bound {js : List Jb} {z : Int} (h : ∀ j ∈ js, wrB j = true) : 0 ≤ sumJ z js ∧ sumJ z js ≤ 20 * js.length := by
  induction js with
  | nil => exact ⟨Int.le_refl _, Int.le_refl _⟩
  | cons j js ih =>
    have ih := ih fun k hk => h k (by simp [hk])
    have := wrB_iff.1 (h j (by simp))
    rw [sumJ_cons, List.length_cons]
    split <;> omega
set_option maxHeartbeats 2000000 in
theorem sNeed_is (w : World) (A : Option Addr) (n c : Nat) (js : List Jb) (h : Jbs w w.heap.size A n js) (z : Int) (r : Int) (hr : needJ js z = r) :
    Calls Tryd.prog 19 #[.slice A n c, .int .i64 z] w fun e w' => e = .returned (.int .i64 r) ∧ Below w.heap.size w w' := by
  have H := Lib.hid h
  have HL := Lib.hid h.len
  clear h
  by_cases h60 : 60 < n
  · obtain rfl : r = 0 := by rw [← hr]; unfold needJ; rw [if_neg]; intro hx; have := (wrsB_iff.1 hx).1; have := HL.out; omega
    have d1 : (60 : Int) < (n : Int) := by omega
    clear hr
    go_enter Tryd.func19, Tryd.ntmps19
    go_wp2
    go_ret
    exact ⟨rfl, Below.refl _ _⟩
  have d1 : ¬ (60 : Int) < (n : Int) := by omega
  have HR := Lib.hid hr
  clear hr
  go_enter Tryd.func19, Tryd.ntmps19
  go_wp2
  go_loopw [5, 6] (fun v i wr => ∃ k : Nat, k ≤ n ∧ i = .int .i64 k ∧ v = .int .i64 (sumJ z (js.take k)) ∧ Hid (∀ j ∈ js.take k, wrB j = true) ∧ Hid (Below w.heap.size w wr)) (fun _ i _ => n - (intOf i).toNat)
  case atStart => exact ⟨0, Nat.zero_le _, rfl, rfl, Lib.hid (by simp), Lib.hid (Below.refl _ _)⟩
  case round =>
    obtain ⟨k, hk, rfl, rfl, HW, HB⟩ := hrel
    by_cases hlt : k < n
    · have i2 : (k : Int) < (n : Int) := by omega
      obtain ⟨j, hj⟩ : ∃ j, js[k]? = some j := ⟨js[k]'(by rw [HL.out]; exact hlt), List.getElem?_eq_getElem _⟩
      obtain ⟨bb, o, rfl, hbl, c0, c1, c2⟩ := (H.out.below HB.out).at_ k j hj
      have HJ := Lib.hid hj
      have HV := Lib.hid (rfl : j.val = .agg #[.int .i64 j.ta, .int .i64 j.tm, .int .i64 j.ne])
      cases hw : wrB j
      · obtain rfl : r = 0 := by rw [← HR.out]; unfold needJ; rw [wrs_no hj hw]; rfl
        have HX := Lib.hid (fun W : World => sText_is W j false hw)
        clear hj hw
        unfold Jb.val at HX
        go_wp2_with fail
        refine (HX.out _).mono ?_
        rintro e w1 ⟨rfl, hb⟩
        have HB1 := Lib.hid (bl_trans HB.out hb)
        clear hb
        go_wp2
        go_ret
        exact ⟨rfl, HB1.out⟩
      have HX := Lib.hid (fun W : World => sText_is W j true hw)
      have hb0 := sumJ_bound (z := z) HW.out
      have hb1 := wrB_iff.1 hw
      have htl : (js.take k).length ≤ k := by rw [List.length_take]; omega
      have HW2 := Lib.hid (show ∀ u ∈ js.take (k + 1), wrB u = true by
        rw [List.take_add_one, hj]
        intro u hu
        rcases List.mem_append.1 hu with hu | hu
        · exact HW.out u hu
        · rw [show u = j by simpa using hu]; exact hw)
      have HS := Lib.hid (sumJ_take z hj)
      generalize sumJ z (js.take k) = v0 at *
      have hv : 0 ≤ v0 ∧ v0 ≤ 1200 := by omega
      clear hj hw hb0 htl
      unfold Jb.val at HX
      go_wp2_with fail
      refine (HX.out _).mono ?_
      rintro e w1 ⟨rfl, hb⟩
      have HB1 := Lib.hid (bl_trans HB.out hb)
      clear hb c0 c1 c2
      obtain ⟨bb', o', hA, hbl', c0, c1, c2⟩ := (H.out.below HB1.out).at_ k j HJ.out
      injection hA with hA
      injection hA with e1 e2
      subst e1 e2
      obtain ⟨ta, tm, ne⟩ := j
      dsimp only at c0 c1 c2 hb1
      by_cases ht : ta = z
      · have e1 : (ta == z) = true := by simp; exact ht
        have HS' := Lib.hid (show sumJ z (js.take (k + 1)) = v0 + ne by rw [HS.out, if_pos ht])
        clear HS ht
        have kw : IntKind.i64.wrap (v0 + ne) = v0 + ne := IntWalk.i64_in _ (by omega)
        go_wp2
        go_roundw
        case rel => exact ⟨k + 1, by omega, by go_num, by rw [HS'.out], HW2, HB1⟩
        case measure => simp [intOf]; omega
      · have e1 : (ta == z) = false := by simp; exact ht
        have HS' := Lib.hid (show sumJ z (js.take (k + 1)) = v0 by rw [HS.out, if_neg ht]; omega)
        clear HS ht
        go_wp2
        go_roundw
        case rel => exact ⟨k + 1, by omega, by go_num, by rw [HS'.out], HW2, HB1⟩
        case measure => simp [intOf]; omega
    · obtain rfl : k = n := by omega
      have hrr : sumJ z (js.take k) = r := by
        rw [← HR.out]
        have hall : js.take k = js := List.take_of_length_le (by rw [HL.out]; omega)
        have hw : wrsB js = true := wrsB_iff.2 ⟨by rw [HL.out]; omega, by have := HW.out; rw [hall] at this; exact this⟩
        rw [hall]; unfold needJ; rw [hw]; rfl
      rw [hrr]
      go_wp2
      go_ret
      exact ⟨rfl, HB.out⟩

end Go.Proofs.YthdclaljgimclaaDoor
