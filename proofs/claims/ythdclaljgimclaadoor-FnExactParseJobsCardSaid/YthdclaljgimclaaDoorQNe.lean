/- Contracts of the program's haveText, NeedOf, DueAt and HighJobs. Nothing that was there is written. -/
import Derived.Test.YthdclaljgimclaaDoorQIs
import Derived.Test.YthdclaljgimclaaDoorSNe
import Derived.Test.YthdclaljgimclaaDoorM2
namespace Go.Proofs.YthdclaljgimclaaDoor
open Go.RowKit
set_option linter.unusedVariables false

set_option maxHeartbeats 2000000 in
theorem iHave_is (w : World) (A : Option Addr) (n c : Nat) (js : List Jb) (h : Jbs w w.heap.size A n js) (b : Bool) (hb : wrsB js = b) :
    Calls Tryd.prog 29 #[.slice A n c] w (BRes b w) := by
  have H := Lib.hid h
  have HL := Lib.hid h.len
  clear h
  by_cases h60 : 60 < n
  · obtain rfl : b = false := by rw [← hb]; exact no_of fun hx => by have := (wrsB_iff.1 hx).1; have := HL.out; omega
    have d1 : (60 : Int) < (n : Int) := by omega
    clear hb
    go_enter Tryd.func29, Tryd.ntmps29
    go_wp2
    go_ret
    exact ⟨rfl, Below.refl _ _⟩
  have d1 : ¬ (60 : Int) < (n : Int) := by omega
  have HR := Lib.hid hb
  clear hb
  go_enter Tryd.func29, Tryd.ntmps29
  go_wp2
  go_loopw [10] (fun i wr => ∃ k : Nat, k ≤ n ∧ i = .int .i64 k ∧ Hid (∀ j ∈ js.take k, wrB j = true) ∧ Hid (Below w.heap.size w wr)) (fun i _ => n - (intOf i).toNat)
  case atStart => exact ⟨0, Nat.zero_le _, rfl, Lib.hid (by simp), Lib.hid (Below.refl _ _)⟩
  case round =>
    obtain ⟨k, hk, rfl, HW, HB⟩ := hrel
    by_cases hlt : k < n
    · have i2 : (k : Int) < (n : Int) := by omega
      obtain ⟨j, hj⟩ : ∃ j, js[k]? = some j := ⟨js[k]'(by rw [HL.out]; exact hlt), List.getElem?_eq_getElem _⟩
      obtain ⟨bb, o, rfl, hbl, c0, c1, c2⟩ := (H.out.below HB.out).at_ k j hj
      have HJ := Lib.hid hj
      cases hw : wrB j
      · obtain rfl : b = false := by rw [← HR.out]; exact wrs_no hj hw
        have HX := Lib.hid (fun W : World => iWithin_is W j 5 20 false (by rw [inB_wr]; exact hw))
        clear hj hw
        obtain ⟨ta, tm, ne⟩ := j
        dsimp only at c0 c1 c2
        unfold Jb.val at HX
        have cJ := (Blk.new wr 35 #[.int .i64 ta, .int .i64 tm, .int .i64 ne]).cell
        go_wp2_with fail
        refine (HX.out _).mono ?_
        rintro e w1 ⟨rfl, hb⟩
        have HB1 := Lib.hid (bl_trans (bl_alloc HB.out _) hb)
        clear hb
        go_wp2
        go_ret
        exact ⟨rfl, HB1.out⟩
      · have HX := Lib.hid (fun W : World => iWithin_is W j 5 20 true (by rw [inB_wr]; exact hw))
        have HW2 := Lib.hid (show ∀ u ∈ js.take (k + 1), wrB u = true by
          rw [List.take_add_one, hj]
          intro u hu
          rcases List.mem_append.1 hu with hu | hu
          · exact HW.out u hu
          · rw [show u = j by simpa using hu]; exact hw)
        clear hj hw
        obtain ⟨ta, tm, ne⟩ := j
        dsimp only at c0 c1 c2
        unfold Jb.val at HX
        have cJ := (Blk.new wr 35 #[.int .i64 ta, .int .i64 tm, .int .i64 ne]).cell
        go_wp2_with fail
        refine (HX.out _).mono ?_
        rintro e w1 ⟨rfl, hb⟩
        have HB1 := Lib.hid (bl_trans (bl_alloc HB.out _) hb)
        clear hb
        go_wp2
        go_roundw
        case rel => exact ⟨k + 1, by omega, by go_num, HW2, HB1⟩
        case measure => simp [intOf]; omega
    · obtain rfl : k = n := by omega
      obtain rfl : true = b := by
        rw [← HR.out]
        have hall : js.take k = js := List.take_of_length_le (by rw [HL.out]; omega)
        exact (wrsB_iff.2 ⟨by rw [HL.out]; omega, by have := HW.out; rw [hall] at this; exact this⟩).symm
      go_wp2
      go_ret
      exact ⟨rfl, HB.out⟩

set_option maxHeartbeats 2000000 in
theorem iNeed_is (w : World) (A : Option Addr) (n c : Nat) (js : List Jb) (h : Jbs w w.heap.size A n js) (z : Int) (r : Int) (hr : needJ js z = r) :
    Calls Tryd.prog 18 #[.slice A n c, .int .i64 z] w fun e w' => e = .returned (.int .i64 r) ∧ Below w.heap.size w w' := by
  have H := Lib.hid h
  have HL := Lib.hid h.len
  clear h
  cases hw : wrsB js
  · obtain rfl : r = 0 := by rw [← hr]; unfold needJ; rw [hw]; rfl
    have HX := Lib.hid (iHave_is w A n c js H.out false hw)
    clear hw hr
    go_enter Tryd.func18, Tryd.ntmps18
    go_wp2_with fail
    refine HX.out.mono ?_
    rintro e w1 ⟨rfl, hb⟩
    go_wp2
    go_ret
    exact ⟨rfl, hb⟩
  obtain rfl : sumJ z js = r := by rw [← hr]; unfold needJ; rw [hw]; rfl
  have HX := Lib.hid (iHave_is w A n c js H.out true hw)
  have HW := Lib.hid (wrsB_iff.1 hw)
  have hn60 : n ≤ 60 := by have := (wrsB_iff.1 hw).1; rw [H.out.len] at this; exact this
  clear hw hr
  go_enter Tryd.func18, Tryd.ntmps18
  go_wp2_with fail
  refine HX.out.mono ?_
  rintro e w1 ⟨rfl, hb⟩
  have HB1 := Lib.hid hb
  clear hb HX
  go_wp2
  go_loopw [5, 13] (fun v i wr => ∃ k : Nat, k ≤ n ∧ i = .int .i64 k ∧ v = .int .i64 (sumJ z (js.take k)) ∧ Hid (Below w.heap.size w wr)) (fun _ i _ => n - (intOf i).toNat)
  case atStart => exact ⟨0, Nat.zero_le _, rfl, rfl, HB1⟩
  case round =>
    obtain ⟨k, hk, rfl, rfl, HB⟩ := hrel
    by_cases hlt : k < n
    · have i2 : (k : Int) < (n : Int) := by omega
      obtain ⟨j, hj⟩ : ∃ j, js[k]? = some j := ⟨js[k]'(by rw [HL.out]; exact hlt), List.getElem?_eq_getElem _⟩
      obtain ⟨bb, o, rfl, hbl, c0, c1, c2⟩ := (H.out.below HB.out).at_ k j hj
      have hb0 := sumJ_bound (z := z) (js := js.take k) (fun u hu => HW.out.2 u (List.mem_of_mem_take hu))
      have hb1 := wrB_iff.1 (HW.out.2 j (List.mem_of_getElem? hj))
      have htl : (js.take k).length ≤ k := by rw [List.length_take]; omega
      have HS := Lib.hid (sumJ_take z hj)
      generalize sumJ z (js.take k) = v0 at *
      have hv : 0 ≤ v0 ∧ v0 ≤ 1200 := by omega
      clear hj hb0 htl
      obtain ⟨ta, tm, ne⟩ := j
      dsimp only at c0 c1 c2 hb1
      have cJ := (Blk.new wr 35 #[.int .i64 ta, .int .i64 tm, .int .i64 ne]).cell
      by_cases ht : ta = z
      · have e1 : (ta == z) = true := by simp; exact ht
        have HS' := Lib.hid (show sumJ z (js.take (k + 1)) = v0 + ne by rw [HS.out, if_pos ht])
        clear HS ht
        have kw : IntKind.i64.wrap (v0 + ne) = v0 + ne := IntWalk.i64_in _ (by omega)
        go_wp2
        go_roundw
        case rel => exact ⟨k + 1, by omega, by go_num, by rw [HS'.out], Lib.hid (bl_alloc HB.out _)⟩
        case measure => simp [intOf]; omega
      · have e1 : (ta == z) = false := by simp; exact ht
        have HS' := Lib.hid (show sumJ z (js.take (k + 1)) = v0 by rw [HS.out, if_neg ht]; omega)
        clear HS ht
        go_wp2
        go_roundw
        case rel => exact ⟨k + 1, by omega, by go_num, by rw [HS'.out], Lib.hid (bl_alloc HB.out _)⟩
        case measure => simp [intOf]; omega
    · obtain rfl : k = n := by omega
      have hall : sumJ z (js.take k) = sumJ z js := by rw [List.take_of_length_le (by rw [HL.out]; omega)]
      rw [hall]
      go_wp2
      go_ret
      exact ⟨rfl, HB.out⟩

end Go.Proofs.YthdclaljgimclaaDoor
