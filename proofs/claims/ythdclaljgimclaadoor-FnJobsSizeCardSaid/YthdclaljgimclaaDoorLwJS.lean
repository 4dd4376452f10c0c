/- The walk of the law FnJobsSize. -/
import Derived.Test.YthdclaljgimclaaDoorDt
import Derived.LoopTactic
namespace Go.Proofs.YthdclaljgimclaaDoor
open Go.RowKit
set_option linter.unusedVariables false

set_option maxRecDepth 100000 in
set_option maxHeartbeats 8000000 in
theorem fnJobsSize_walk (w : World) (A : Option Addr) (n c : Nat) (f : Nat → Int) (h : Code w w.heap.size A n c f) (ht : TG w) :
    Calls Tryd.prog 6 #[.slice A n c] w fun e w' => e = .returned (.bool true) ∧ Below w.heap.size w w' := by
  have HTG0 := Lib.hid ht
  clear ht
  have H := Lib.hid h
  have hle := h.le
  have hmax := h.max
  unfold maxLen at hmax
  clear h
  by_cases hn : 1048576 < n
  · go_enter Tryd.func6, Tryd.ntmps6
    go_wp2
    go_ret
    exact ⟨rfl, Below.refl _ _⟩
  go_enter Tryd.func6, Tryd.ntmps6
  go_wp2_with fail
  refine (dDrawFormatJobs_any _ A n c f H.out).mono ?_
  rintro e w1 ⟨gj, cj, js, rfl, hjl, hsj, hj, hb⟩
  have HB1 := Lib.hid hb
  have hs1 := HB1.out.size
  have HOJ1 := Lib.hid hj
  have HJ1 := Lib.hid hj.reads.2
  have hjc := hj.le
  clear hj hsj
  clear hb H
  have HTG1 := Lib.hid (HTG0.out.below HB1.out)
  have hgj := HOJ1.out.cells_
  obtain ⟨fl, hfl⟩ : ∃ fl, fmtJ js = fl := ⟨_, rfl⟩
  have HF := Lib.hid hfl
  have hlen : fl.length ≤ 720 := by rw [← hfl]; exact fmt_len js
  clear hfl
  go_wp2_with fail
  refine (iFmtJ_to _ (some ⟨gj, 0, none⟩) js.length cj js (jbs_to HJ1.out (by repeat (first | with_reducible exact Below.refl _ _ | with_reducible refine Below.drew ?_ | with_reducible refine bl_drewN ?_ _ | with_reducible refine bl_alloc ?_ _))) (HTG1.out.below (by repeat (first | with_reducible exact Below.refl _ _ | with_reducible refine Below.drew ?_ | with_reducible refine bl_drewN ?_ _ | with_reducible refine bl_alloc ?_ _))) fl HF.out).mono ?_
  rintro e w2 ⟨rfl, hb⟩
  have HS2 := Lib.hid (show Below w1.heap.size w1 w2 from bl_trans (by repeat (first | with_reducible exact Below.refl _ _ | with_reducible refine Below.drew ?_ | with_reducible refine bl_drewN ?_ _ | with_reducible refine bl_alloc ?_ _)) hb)
  have HB2 := Lib.hid (bl_trans HB1.out HS2.out)
  have hs2 := HB2.out.size
  have hq2 := HS2.out.size
  have HJ2 := Lib.hid (jbs_to HJ1.out HS2.out)
  clear hb
  have HTG2 := Lib.hid (HTG1.out.below HS2.out)
  go_wp2_with fail
  refine (sFmtJ_to _ (some ⟨gj, 0, none⟩) js.length cj js (jbs_to HJ2.out (by repeat (first | with_reducible exact Below.refl _ _ | with_reducible refine Below.drew ?_ | with_reducible refine bl_drewN ?_ _ | with_reducible refine bl_alloc ?_ _))) fl HF.out).mono ?_
  rintro e w3 ⟨rfl, hb⟩
  have HS3 := Lib.hid (show Below w2.heap.size w2 w3 from bl_trans (by repeat (first | with_reducible exact Below.refl _ _ | with_reducible refine Below.drew ?_ | with_reducible refine bl_drewN ?_ _ | with_reducible refine bl_alloc ?_ _)) hb)
  have HB3 := Lib.hid (bl_trans HB2.out HS3.out)
  have hs3 := HB3.out.size
  have hq3 := HS3.out.size
  have HJ3 := Lib.hid (jbs_to HJ2.out HS3.out)
  clear hb
  have HTG3 := Lib.hid (HTG2.out.below HS3.out)
  by_cases he : fl = []
  · subst he
    go_wp2_with fail
    refine (sFmtJ_to _ (some ⟨gj, 0, none⟩) js.length cj js (jbs_to HJ3.out (by repeat (first | with_reducible exact Below.refl _ _ | with_reducible refine Below.drew ?_ | with_reducible refine bl_drewN ?_ _ | with_reducible refine bl_alloc ?_ _))) [] HF.out).mono ?_
    rintro e w4 ⟨rfl, hb⟩
    have HS4 := Lib.hid (show Below w3.heap.size w3 w4 from bl_trans (by repeat (first | with_reducible exact Below.refl _ _ | with_reducible refine Below.drew ?_ | with_reducible refine bl_drewN ?_ _ | with_reducible refine bl_alloc ?_ _)) hb)
    have HB4 := Lib.hid (bl_trans HB3.out HS4.out)
    have hs4 := HB4.out.size
    have hq4 := HS4.out.size
    have HJ4 := Lib.hid (jbs_to HJ3.out HS4.out)
    clear hb
    have HTG4 := Lib.hid (HTG3.out.below HS4.out)
    go_wp2
    go_ret
    exact ⟨rfl, by repeat (first | with_reducible exact HB4.out | refine bl_drewN ?_ _ | refine Below.drew ?_ | refine bl_alloc ?_ _)⟩
  have hq : (fl == []) = false := by simpa using he
  obtain ⟨hw, htx⟩ := fmt_some HF.out he
  have HC := Lib.hid (show colons fl = js.length by rw [← htx]; exact colons_all (wrsB_iff.1 hw).2)
  clear hw htx he
  go_wp2
  go_loopw [5, 6] (fun v i wr => ∃ q : Nat, q ≤ fl.length ∧ i = .int .i64 q ∧ v = .int .i64 ((colons (fl.take q) : Nat) : Int) ∧ Hid (Below w.heap.size w wr)) (fun _ i _ => fl.length - (intOf i).toNat)
  case atStart => exact ⟨0, Nat.zero_le _, rfl, rfl, HB3⟩
  case round =>
    obtain ⟨q, hq, rfl, rfl, HB⟩ := hrel
    by_cases hlt : q < fl.length
    · obtain ⟨b, hb⟩ : ∃ b, fl[q]? = some b := ⟨fl[q], List.getElem?_eq_getElem hlt⟩
      have hx := byte_at hb (by simp [ByteArray.size]; omega)
      have HT := Lib.hid (show colons (fl.take (q + 1)) = colons (fl.take q) + if b == 58 then 1 else 0 by
        rw [List.take_add_one, hb, Option.toList_some, colons_app]
        congr 1
        unfold colons
        by_cases h : b = 58
        · subst h; rfl
        · simp [h])
      have hb256 : b.toNat < 256 := b.toNat_lt
      have hcq : colons (fl.take q) ≤ 720 := by
        unfold colons
        exact Nat.le_trans List.countP_le_length (by rw [List.length_take]; omega)
      have q2 : (q : Int) < (fl.length : Int) := by omega
      clear hb
      generalize colons (fl.take q) = cq at *
      by_cases h58 : b = 58
      · have e1 : ((b.toNat : Int) == 58) = true := by rw [h58]; rfl
        have HN := Lib.hid (show colons (fl.take (q + 1)) = cq + 1 by rw [HT.out, h58]; rfl)
        clear h58 HT
        go_wp2
        go_roundw
        case rel => exact ⟨q + 1, by omega, by go_num, congrArg (Value.int .i64) (by rw [HN.out]; omega), HB⟩
        case measure => simp [intOf]; omega
      · have e1 : ((b.toNat : Int) == 58) = false := beq_eq_false_iff_ne.2 (fun h => h58 (UInt8.toNat_inj.1 (show b.toNat = 58 by omega)))
        have HN := Lib.hid (show colons (fl.take (q + 1)) = cq by rw [HT.out]; simp [h58])
        clear h58 HT
        go_wp2
        go_roundw
        case rel => exact ⟨q + 1, by omega, by go_num, congrArg (Value.int .i64) (by rw [HN.out]), HB⟩
        case measure => simp [intOf]; omega
    · obtain rfl : q = fl.length := by omega
      rw [List.take_length, HC.out]
      go_wp2
      go_ret
      exact ⟨rfl, HB.out⟩

end Go.Proofs.YthdclaljgimclaaDoor
