/- The walk of the law FnNeedOf. -/
import Derived.Test.YthdclaljgimclaaDoorDt
import Derived.Test.YthdclaljgimclaaDoorQNe
import Derived.Test.YthdclaljgimclaaDoorSNe
import Derived.LoopTactic
namespace Go.Proofs.YthdclaljgimclaaDoor
open Go.RowKit
set_option linter.unusedVariables false

def sumT (js : List Jb) : Nat → Int
  | 0 => 0
  | k + 1 => sumT js k + sumJ (k : Int) js
theorem sumT_bound {js : List Jb} (h : ∀ i : Int, 0 ≤ sumJ i js ∧ sumJ i js ≤ 1200) : ∀ k : Nat, 0 ≤ sumT js k ∧ sumT js k ≤ 1200 * k
  | 0 => ⟨Int.le_refl _, Int.le_refl _⟩
  | k + 1 => by
    have := sumT_bound h k
    have := h (k : Int)
    unfold sumT
    omega
theorem allJ_bound {js : List Jb} (h : ∀ j ∈ js, wrB j = true) : 0 ≤ allJ js ∧ allJ js ≤ 20 * js.length := by
  revert h
  refine snoc_ind (P := fun js => (∀ j ∈ js, wrB j = true) → 0 ≤ allJ js ∧ allJ js ≤ 20 * js.length) (fun _ => ⟨Int.le_refl _, Int.le_refl _⟩) (fun l j ih h => ?_) js
  have ih := ih fun k hk => h k (by simp [hk])
  have := wrB_iff.1 (h j (by simp))
  have e : allJ (l ++ [j]) = allJ l + j.ne := by unfold allJ; rw [List.foldl_append]; rfl
  rw [e, List.length_append, List.length_singleton]
  omega

set_option maxRecDepth 100000 in
set_option maxHeartbeats 8000000 in
theorem fnNeedOf_walk (w : World) (A : Option Addr) (n c : Nat) (f : Nat → Int) (h : Code w w.heap.size A n c f) (ht : TG w) :
    Calls Tryd.prog 4 #[.slice A n c] w fun e w' => e = .returned (.bool true) ∧ Below w.heap.size w w' := by
  have HTG0 := Lib.hid ht
  clear ht
  have H := Lib.hid h
  have hle := h.le
  have hmax := h.max
  unfold maxLen at hmax
  clear h
  by_cases hn : 1048576 < n
  · go_enter Tryd.func4, Tryd.ntmps4
    go_wp2
    go_ret
    exact ⟨rfl, Below.refl _ _⟩
  go_enter Tryd.func4, Tryd.ntmps4
  go_wp2_with fail
  refine (dDrawNeedOf_any _ A n c f H.out).mono ?_
  rintro e w1 ⟨gj, cj, js, z, rfl, hjl, hsj, z0, z1, hj, hb⟩
  have HB1 := Lib.hid hb
  have hs1 := HB1.out.size
  have HOJ1 := Lib.hid hj
  have HJ1 := Lib.hid hj.reads.2
  have hjc := hj.le
  clear hj hsj
  clear hb H
  have HTG1 := Lib.hid (HTG0.out.below HB1.out)
  have hgj := HOJ1.out.cells_
  obtain ⟨fl, hfl⟩ : ∃ fl, fmtJ js = fl := ⟨_, rfl⟩
  have HF := Lib.hid hfl
  clear hfl
  obtain ⟨r, hr⟩ : ∃ r, needJ js z = r := ⟨_, rfl⟩
  have HR := Lib.hid hr
  clear hr
  go_wp2_with fail
  refine (iNeed_is _ (some ⟨gj, 0, none⟩) js.length cj js (jbs_to HJ1.out (by repeat (first | with_reducible exact Below.refl _ _ | with_reducible refine Below.drew ?_ | with_reducible refine bl_drewN ?_ _ | with_reducible refine bl_alloc ?_ _))) z r HR.out).mono ?_
  rintro e w2 ⟨rfl, hb⟩
  have HS2 := Lib.hid (show Below w1.heap.size w1 w2 from bl_trans (by repeat (first | with_reducible exact Below.refl _ _ | with_reducible refine Below.drew ?_ | with_reducible refine bl_drewN ?_ _ | with_reducible refine bl_alloc ?_ _)) hb)
  have HB2 := Lib.hid (bl_trans HB1.out HS2.out)
  have hs2 := HB2.out.size
  have hq2 := HS2.out.size
  have HJ2 := Lib.hid (jbs_to HJ1.out HS2.out)
  clear hb
  have HTG2 := Lib.hid (HTG1.out.below HS2.out)
  go_wp2_with fail
  refine (sNeed_is _ (some ⟨gj, 0, none⟩) js.length cj js (jbs_to HJ2.out (by repeat (first | with_reducible exact Below.refl _ _ | with_reducible refine Below.drew ?_ | with_reducible refine bl_drewN ?_ _ | with_reducible refine bl_alloc ?_ _))) z r HR.out).mono ?_
  rintro e w3 ⟨rfl, hb⟩
  have HS3 := Lib.hid (show Below w2.heap.size w2 w3 from bl_trans (by repeat (first | with_reducible exact Below.refl _ _ | with_reducible refine Below.drew ?_ | with_reducible refine bl_drewN ?_ _ | with_reducible refine bl_alloc ?_ _)) hb)
  have HB3 := Lib.hid (bl_trans HB2.out HS3.out)
  have hs3 := HB3.out.size
  have hq3 := HS3.out.size
  have HJ3 := Lib.hid (jbs_to HJ2.out HS3.out)
  clear hb
  have HTG3 := Lib.hid (HTG2.out.below HS3.out)
  go_wp2_with fail
  refine (iFmtJ_to _ (some ⟨gj, 0, none⟩) js.length cj js (jbs_to HJ3.out (by repeat (first | with_reducible exact Below.refl _ _ | with_reducible refine Below.drew ?_ | with_reducible refine bl_drewN ?_ _ | with_reducible refine bl_alloc ?_ _))) (HTG3.out.below (by repeat (first | with_reducible exact Below.refl _ _ | with_reducible refine Below.drew ?_ | with_reducible refine bl_drewN ?_ _ | with_reducible refine bl_alloc ?_ _))) fl HF.out).mono ?_
  rintro e w4 ⟨rfl, hb⟩
  have HS4 := Lib.hid (show Below w3.heap.size w3 w4 from bl_trans (by repeat (first | with_reducible exact Below.refl _ _ | with_reducible refine Below.drew ?_ | with_reducible refine bl_drewN ?_ _ | with_reducible refine bl_alloc ?_ _)) hb)
  have HB4 := Lib.hid (bl_trans HB3.out HS4.out)
  have hs4 := HB4.out.size
  have hq4 := HS4.out.size
  have HJ4 := Lib.hid (jbs_to HJ3.out HS4.out)
  clear hb
  have HTG4 := Lib.hid (HTG3.out.below HS4.out)
  by_cases he : fl = []
  · subst he
    obtain rfl : r = 0 := by rw [← HR.out]; exact need_fmt HF.out z
    go_wp2_with fail
    refine (sNeed_is _ (some ⟨gj, 0, none⟩) js.length cj js (jbs_to HJ4.out (by repeat (first | with_reducible exact Below.refl _ _ | with_reducible refine Below.drew ?_ | with_reducible refine bl_drewN ?_ _ | with_reducible refine bl_alloc ?_ _))) z 0 HR.out).mono ?_
    rintro e w5 ⟨rfl, hb⟩
    have HS5 := Lib.hid (show Below w4.heap.size w4 w5 from bl_trans (by repeat (first | with_reducible exact Below.refl _ _ | with_reducible refine Below.drew ?_ | with_reducible refine bl_drewN ?_ _ | with_reducible refine bl_alloc ?_ _)) hb)
    have HB5 := Lib.hid (bl_trans HB4.out HS5.out)
    have hs5 := HB5.out.size
    have hq5 := HS5.out.size
    have HJ5 := Lib.hid (jbs_to HJ4.out HS5.out)
    clear hb
    have HTG5 := Lib.hid (HTG4.out.below HS5.out)
    go_wp2
    go_ret
    exact ⟨rfl, by repeat (first | with_reducible exact HB5.out | refine bl_drewN ?_ _ | refine Below.drew ?_ | refine bl_alloc ?_ _)⟩
  have hq : (fl == []) = false := by simpa using he
  obtain ⟨hw, _⟩ := fmt_some HF.out he
  have HW := Lib.hid hw
  have HALL := Lib.hid (needs_all (wrsB_iff.1 hw).2)
  have hr1 : 0 ≤ r ∧ r ≤ allJ js := by
    rw [← HR.out]; unfold needJ; rw [hw]; exact (needs_all (wrsB_iff.1 hw).2).2 z
  have hj60 : js.length ≤ 60 := (wrsB_iff.1 hw).1
  have HNJ := Lib.hid (show ∀ i : Int, needJ js i = sumJ i js from fun i => by unfold needJ; rw [hw]; rfl)
  have HSB := Lib.hid (show ∀ i : Int, 0 ≤ sumJ i js ∧ sumJ i js ≤ 1200 from fun i => by have := sumJ_bound (z := i) (wrsB_iff.1 hw).2; omega)
  clear hw he
  go_wp2
  go_loopw [6, 7] (fun v i wr => ∃ q : Nat, q ≤ 5 ∧ i = .int .i64 q ∧ v = .int .i64 (sumT js q) ∧ Hid (Below w4.heap.size w4 wr)) (fun _ i _ => 5 - (intOf i).toNat)
  case atStart => exact ⟨0, by omega, rfl, rfl, Lib.hid (Below.refl _ _)⟩
  case round =>
    obtain ⟨q, hq5, rfl, rfl, HS⟩ := hrel
    obtain ⟨w8, hw8⟩ : ∃ W, W = wr := ⟨_, rfl⟩
    subst hw8
    have hsb := sumT_bound HSB.out q
    by_cases hlt : q < 5
    · have q2 : (q : Int) < 5 := by omega
      have HNQ := Lib.hid (HNJ.out (q : Int))
      have hnq := HSB.out (q : Int)
      have HT := Lib.hid (show sumT js (q + 1) = sumT js q + sumJ (q : Int) js from rfl)
      generalize sumT js q = s0 at *
      generalize sumJ (q : Int) js = s1 at *
      have kw : IntKind.i64.wrap (s0 + s1) = s0 + s1 := IntWalk.i64_in _ (by omega)
      go_wp2_with fail
      refine (iNeed_is _ (some ⟨gj, 0, none⟩) js.length cj js (jbs_to HJ4.out (bl_trans HS.out (by repeat (first | with_reducible exact Below.refl _ _ | with_reducible refine Below.drew ?_ | with_reducible refine bl_drewN ?_ _ | with_reducible refine bl_alloc ?_ _)))) (q : Int) s1 HNQ.out).mono ?_
      rintro e w9 ⟨rfl, hb⟩
      have HS9 := Lib.hid (show Below w4.heap.size w4 w9 from bl_trans HS.out hb)
      clear hb
      go_wp2
      go_roundw
      case rel => exact ⟨q + 1, by omega, by go_num, by rw [HT.out], HS9⟩
      case measure => simp [intOf]; omega
    · obtain rfl : q = 5 := by omega
      have hsum : sumT js 5 = allJ js := by
        have := HALL.out.1
        have e : sumT js 5 = 0 + sumJ 0 js + sumJ 1 js + sumJ 2 js + sumJ 3 js + sumJ 4 js := rfl
        omega
      rw [hsum]
      have hab := allJ_bound (wrsB_iff.1 HW.out).2
      clear hsb hsum
      go_wp2
      go_loopw [8, 9] (fun v i wr => ∃ q : Nat, q ≤ js.length ∧ i = .int .i64 q ∧ v = .int .i64 (allJ (js.take q)) ∧ Hid (Below w4.heap.size w4 wr)) (fun _ i _ => js.length - (intOf i).toNat)
      case atStart => exact ⟨0, Nat.zero_le _, rfl, rfl, HS⟩
      case round =>
        obtain ⟨q, hql, rfl, rfl, HS2⟩ := hrel
        by_cases hlt : q < js.length
        · have q2 : (q : Int) < (js.length : Int) := by omega
          obtain ⟨j, hj⟩ : ∃ j, js[q]? = some j := ⟨js[q], List.getElem?_eq_getElem _⟩
          obtain ⟨_, a0, a1, a2⟩ := (jbs_to HJ4.out HS2.out).get hj
          have hne := wrB_iff.1 ((wrsB_iff.1 HW.out).2 j (List.mem_of_getElem? hj))
          have HT := Lib.hid (show allJ (js.take (q + 1)) = allJ (js.take q) + j.ne by rw [List.take_add_one, hj]; unfold allJ; rw [List.foldl_append]; rfl)
          have hb1 := allJ_bound (js := js.take q) (fun u hu => (wrsB_iff.1 HW.out).2 u (List.mem_of_mem_take hu))
          have hb2 : (js.take q).length ≤ 60 := by rw [List.length_take]; omega
          obtain ⟨ta, tm, ne⟩ := j
          dsimp only at a0 a1 a2 hne HT
          simp only [Nat.zero_add] at a0 a1 a2
          generalize allJ (js.take q) = s0 at *
          clear hj
          have kw : IntKind.i64.wrap (s0 + ne) = s0 + ne := IntWalk.i64_in _ (by omega)
          go_wp2
          go_roundw
          case rel => exact ⟨q + 1, by omega, by go_num, by rw [HT.out], HS2⟩
          case measure => simp [intOf]; omega
        · obtain rfl : q = js.length := by omega
          rw [List.take_length]
          have HB9 := Lib.hid (bl_trans HB4.out HS2.out)
          go_wp2
          go_ret
          exact ⟨by simp, HB9.out⟩

end Go.Proofs.YthdclaljgimclaaDoor
