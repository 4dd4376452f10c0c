/- The walk of the law FnNeedNone. -/
import Derived.Test.YthoaacgmpmdjnabM5
import Derived.Test.YthoaacgmpmdjnabM3
import Derived.Test.YthoaacgmpmdjnabM4
namespace Go.Proofs.Ythoaacgmpmdjnab
open Go.RowKit
set_option linter.unusedVariables false

set_option maxRecDepth 100000 in
set_option maxHeartbeats 8000000 in
theorem fnNeedNone_walk (w : World) (A : Option Addr) (n c : Nat) (f : Nat → Int) (h : Code w w.heap.size A n c f) :
    Calls Try.prog 4 #[.slice A n c] w fun e w' => e = .returned (.bool true) ∧ Below w.heap.size w w' := by
  have H := Lib.hid h
  have hle := h.le
  have hmax := h.max
  unfold maxLen at hmax
  clear h
  by_cases hn : 1048576 < n
  · go_enter Try.func4, Try.ntmps4
    go_wp2
    go_ret
    exact ⟨rfl, Below.refl _ _⟩
  go_enter Try.func4, Try.ntmps4
  go_wp2_with fail
  refine (dDrawNeedOf_any _ A n c f H.out).mono ?_
  rintro e w1 ⟨gj, cj, js, z, rfl, hjl, hsj, z0, z1, hj, hb⟩
  have HB1 := Lib.hid hb
  have hs1 := HB1.out.size
  have HOJ1 := Lib.hid hj
  have HJ1 := Lib.hid hj.reads.2
  have hjc := hj.le
  clear hj hsj
  clear hb H
  have hgj := HOJ1.out.cells_
  obtain ⟨r, hr⟩ : ∃ r, needJ js z = r := ⟨_, rfl⟩
  have HR := Lib.hid hr
  clear hr
  go_wp2_with fail
  refine (iNeed_is _ (some ⟨gj, 0, none⟩) js.length cj js (jbs_to HJ1.out (by repeat (first | with_reducible exact Below.refl _ _ | with_reducible refine Below.drew ?_ | with_reducible refine bl_drewN ?_ _ | with_reducible refine bl_alloc ?_ _))) z r HR.out).mono ?_
  rintro e w2 ⟨rfl, hb⟩
  have HS2 := Lib.hid (show Below w1.heap.size w1 w2 from bl_trans (by repeat (first | with_reducible exact Below.refl _ _ | with_reducible refine Below.drew ?_ | with_reducible refine bl_drewN ?_ _ | with_reducible refine bl_alloc ?_ _)) hb)
  have HB2 := Lib.hid (bl_trans HB1.out HS2.out)
  have hs2 := HB2.out.size
  have hq2 := HS2.out.size
  have HJ2 := Lib.hid (jbs_to HJ1.out HS2.out)
  clear hb
  go_wp2_with fail
  refine (sNeed_is _ (some ⟨gj, 0, none⟩) js.length cj js (jbs_to HJ2.out (by repeat (first | with_reducible exact Below.refl _ _ | with_reducible refine Below.drew ?_ | with_reducible refine bl_drewN ?_ _ | with_reducible refine bl_alloc ?_ _))) z r HR.out).mono ?_
  rintro e w3 ⟨rfl, hb⟩
  have HS3 := Lib.hid (show Below w2.heap.size w2 w3 from bl_trans (by repeat (first | with_reducible exact Below.refl _ _ | with_reducible refine Below.drew ?_ | with_reducible refine bl_drewN ?_ _ | with_reducible refine bl_alloc ?_ _)) hb)
  have HB3 := Lib.hid (bl_trans HB2.out HS3.out)
  have hs3 := HB3.out.size
  have hq3 := HS3.out.size
  have HJ3 := Lib.hid (jbs_to HJ2.out HS3.out)
  clear hb
  go_wp2
  go_loopw [6, 7] (fun s i wr => ∃ q : Nat, q ≤ js.length ∧ i = .int .i64 q ∧ s = .bool ((js.take q).any (fun a => decide (a.ta = z))) ∧ Hid (Below w3.heap.size w3 wr)) (fun _ i _ => js.length - (intOf i).toNat)
  case atStart => exact ⟨0, Nat.zero_le _, rfl, rfl, Lib.hid (Below.refl _ _)⟩
  case round =>
    obtain ⟨q, hq, rfl, rfl, HS⟩ := hrel
    obtain ⟨w9, hw9⟩ : ∃ W, W = wr := ⟨_, rfl⟩
    subst hw9
    obtain ⟨s, hs⟩ : ∃ s, (js.take q).any (fun a => decide (a.ta = z)) = s := ⟨_, rfl⟩
    have HSM := Lib.hid hs
    simp only [hs]
    clear hs
    by_cases hqm : q < js.length
    · skip
      have q1 : (q : Int) < (js.length : Int) := by omega
      have q0 : (0 : Int) ≤ (q : Int) := by omega
      obtain ⟨j, hj⟩ : ∃ j, js[q]? = some j := ⟨js[q], List.getElem?_eq_getElem _⟩
      obtain ⟨_, a0, a1, a2⟩ := (jbs_to HJ3.out HS.out).get hj
      have HTK := Lib.hid (show (js.take (q + 1)).any (fun a => decide (a.ta = z)) = (s || decide (j.ta = z)) by rw [List.take_add_one, hj, List.any_append, HSM.out]; simp)
      obtain ⟨ta, tm, ne⟩ := j
      dsimp only at a0 a1 a2 HTK
      simp only [Nat.zero_add] at a0 a1 a2
      clear hj
      cases s
      · by_cases hz : ta = z
        · have e1 : (ta == z) = true := by simp; exact hz
          have HN := Lib.hid (show (js.take (q + 1)).any (fun a => decide (a.ta = z)) = true by rw [HTK.out]; simp [hz])
          clear hz HTK
          go_wp2
          go_roundw
          case rel => exact ⟨q + 1, by omega, by go_num, by rw [HN.out], HS⟩
          case measure => simp [intOf]; omega
        · have e1 : (ta == z) = false := by simp; exact hz
          have HN := Lib.hid (show (js.take (q + 1)).any (fun a => decide (a.ta = z)) = false by rw [HTK.out]; simp [hz])
          clear hz HTK
          go_wp2
          go_roundw
          case rel => exact ⟨q + 1, by omega, by go_num, by rw [HN.out], HS⟩
          case measure => simp [intOf]; omega
      · have HN := Lib.hid (show (js.take (q + 1)).any (fun a => decide (a.ta = z)) = true by rw [HTK.out]; rfl)
        clear HTK
        go_wp2
        go_roundw
        case rel => exact ⟨q + 1, by omega, by go_num, by rw [HN.out], HS⟩
        case measure => simp [intOf]; omega
    · obtain rfl : q = js.length := by omega
      have HB9 := Lib.hid (bl_trans HB3.out HS.out)
      cases s
      · obtain rfl : r = 0 := by
          have h1 := HSM.out
          rw [List.take_length, List.any_eq_false] at h1
          rw [← HR.out]
          unfold needJ
          split
          · exact sumJ_none (fun j hj => by simpa using h1 j hj)
          · rfl
        go_wp2
        go_ret
        exact ⟨rfl, HB9.out⟩
      · go_wp2
        go_ret
        exact ⟨rfl, HB9.out⟩

end Go.Proofs.Ythoaacgmpmdjnab
