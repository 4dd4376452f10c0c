/- The walk of the law FnAssignLast. -/
import Derived.Test.YtobkbbgllapcoacLwAL
import Derived.Test.YtobkbbgllapcoacMC
namespace Go.Proofs.Ytobkbbgllapcoac
open Go.RowKit
set_option linter.unusedVariables false

theorem assign_last {ts : List Tk} {o : List Nat} (h : assignOf ts = some o) (hne : ts ≠ []) : ∃ i, i < ts.length ∧ 0 < o.length ∧ o[o.length - 1]? = some i ∧ canL ts i = true ∧ ∀ j, i < j → j < ts.length → canL ts j = false := by
  unfold assignOf at h
  cases hs : setB ts
  · rw [hs] at h; cases h
  rw [if_pos hs] at h
  obtain ⟨m, hm⟩ : ∃ m, ts.length = m + 1 := ⟨ts.length - 1, by
    have : ts.length ≠ 0 := fun e => hne (List.eq_nil_of_length_eq_zero e)
    omega⟩
  rw [show asg ts ts.length (List.range ts.length) [] = asg ts (m + 1) (List.range ts.length) [] from by rw [hm]] at h
  unfold asg at h
  cases hp : pickL ts (List.range ts.length) with
  | none => rw [hp] at h; cases h
  | some i =>
    rw [hp] at h
    obtain ⟨h1, h2, h3⟩ := pick_some hp
    rw [put_range] at h2 h3
    rw [List.length_range] at h1 h3
    obtain ⟨p, rfl, _, _⟩ := asg_some ts (by rw [List.length_eraseIdx, if_pos (by rw [List.length_range]; exact h1), List.length_range, hm]; rfl) h
    refine ⟨i, h1, by simp, ?_, h2, h3⟩
    have hg : (List.range ts.length).getD i 0 = i := by rw [List.getD_eq_getElem?_getD, List.getElem?_range h1]; rfl
    rw [List.length_append, List.length_singleton, Nat.add_sub_cancel, List.getElem?_append_right (Nat.le_refl _), Nat.sub_self, hg]
    rfl

set_option maxRecDepth 100000 in
set_option maxHeartbeats 4000000 in
theorem fnAssignLast_walk (w : World) (A : Option Addr) (n c : Nat) (f : Nat → Int) (h : Code w w.heap.size A n c f) :
    Calls Try.prog 7 #[.slice A n c] w fun e w' => e = .returned (.bool true) ∧ Below w.heap.size w w' := by
  have H := Lib.hid h
  have hle := h.le
  have hmax := h.max
  unfold maxLen at hmax
  clear h
  by_cases hn : 1048576 < n
  · go_enter Try.func7, Try.ntmps7
    go_wp2
    go_ret
    exact ⟨rfl, Below.refl _ _⟩
  go_enter Try.func7, Try.ntmps7
  go_wp2_with fail
  refine (dDrawAssignOrder_any _ A n c f H.out).mono ?_
  rintro e w1 ⟨At, ct, ts, rfl, hl, ho, hb⟩
  have HB1 := Lib.hid hb
  have HO := Lib.hid ho
  have HT := Lib.hid ho.reads.2
  have hct := own_le ho
  clear hb ho H
  have HD1 := Lib.hid (Below.refl w1.heap.size w1)
  have hs1 := HB1.out.size
  obtain ⟨us, b, hu⟩ : ∃ us b, asgR (assignOf ts) = us ∧ (assignOf ts).isSome = b := ⟨_, _, rfl, rfl⟩
  have hul : us.length ≤ 5 := by rw [← hu.1]; exact assignOf_len ts
  have HU := Lib.hid hu
  clear hu
  go_wp2_with fail
  refine (iAssign_at _ At _ ct ts us b ?_ (by omega) HU.out).mono ?_
  · exact tks_to HT.out (by repeat (first | with_reducible exact HD1.out | with_reducible refine Below.drew ?_ | with_reducible refine bl_drewN ?_ _ | with_reducible refine bl_alloc ?_ _))
  rintro e w2 ⟨Ao, co, rfl, ho, hb⟩
  have hs2 := hb.size
  have HB2 := Lib.hid (show Below w.heap.size w w2 from bl_trans (by repeat (first | with_reducible exact HB1.out | with_reducible refine Below.drew ?_ | with_reducible refine bl_drewN ?_ _ | with_reducible refine bl_alloc ?_ _)) hb)
  have HD2 := Lib.hid (show Below w1.heap.size w1 w2 from bl_trans (by repeat (first | with_reducible exact HD1.out | with_reducible refine Below.drew ?_ | with_reducible refine bl_drewN ?_ _ | with_reducible refine bl_alloc ?_ _)) hb)
  have HZo2 := Lib.hid ho.reads
  clear hb ho
  go_wp2_with fail
  refine (sAssign_at _ At _ ct ts us b ?_ (by omega) HU.out).mono ?_
  · exact tks_to HT.out (by repeat (first | with_reducible exact HD2.out | with_reducible refine Below.drew ?_ | with_reducible refine bl_drewN ?_ _ | with_reducible refine bl_alloc ?_ _))
  rintro e w3 ⟨Aw, cw, rfl, ho, hb⟩
  have hs3 := hb.size
  have HB3 := Lib.hid (show Below w.heap.size w w3 from bl_trans (by repeat (first | with_reducible exact HB2.out | with_reducible refine Below.drew ?_ | with_reducible refine bl_drewN ?_ _ | with_reducible refine bl_alloc ?_ _)) hb)
  have HD3 := Lib.hid (show Below w1.heap.size w1 w3 from bl_trans (by repeat (first | with_reducible exact HD2.out | with_reducible refine Below.drew ?_ | with_reducible refine bl_drewN ?_ _ | with_reducible refine bl_alloc ?_ _)) hb)
  have HZw3 := Lib.hid ho.reads
  have HZo3 := Lib.hid ((HZo2.out.below (show Below w2.heap.size w2 w3 from hb)).more hb.size)
  clear hb ho
  go_wp2_with fail
  refine (dmInts_any w3 Ao Aw _ co cw us HZo3.out HZw3.out (by omega)).mono ?_
  rintro e w4 ⟨rfl, hb⟩
  have hs4 := hb.size
  have HB4 := Lib.hid (show Below w.heap.size w w4 from bl_trans HB3.out hb)
  have HD4 := Lib.hid (show Below w1.heap.size w1 w4 from bl_trans HD3.out hb)
  have HZw4 := Lib.hid ((HZw3.out.below hb).more hb.size)
  have HZo4 := Lib.hid ((HZo3.out.below hb).more hb.size)
  clear hb
  cases b
  · go_wp2_with fail
    refine (dmInts_any w4 Ao Aw _ co cw us HZo4.out HZw4.out (by omega)).mono ?_
    rintro e w5 ⟨rfl, hb⟩
    have HB5 := Lib.hid (bl_trans HB4.out hb)
    go_wp2
    go_ret
    exact ⟨rfl, HB5.out⟩
  by_cases h0 : ts.length = 0
  · have hnil : ts = [] := List.eq_nil_of_length_eq_zero h0
    subst hnil
    clear h0
    go_wp2_with fail
    refine (dmInts_any w4 Ao Aw _ co cw us HZo4.out HZw4.out (by omega)).mono ?_
    rintro e w5 ⟨rfl, hb⟩
    have HB5 := Lib.hid (bl_trans HB4.out hb)
    go_wp2
    go_ret
    exact ⟨rfl, HB5.out⟩
  have hne : ts ≠ [] := fun e => h0 (by rw [e]; rfl)
  obtain ⟨gg, rfl⟩ := own_some' HO.out hne
  obtain ⟨o, hoo⟩ := Option.isSome_iff_exists.1 HU.out.2
  obtain ⟨i, hi, ho0, hoi, hci, hno⟩ := assign_last hoo hne
  have hus : us = toZ o := by rw [← HU.out.1, hoo]; rfl
  have hul0 : us.length = o.length := by rw [hus, toZ_len]
  have huz : us[us.length - 1]? = some (i : Int) := by rw [hul0, hus]; exact toZ_get hoi
  obtain ⟨b2, o2, rfl, hbl2, c0⟩ := HZo4.out.at_ _ _ huz
  have hz0 : ¬ (ts.length : Int) = 0 := by omega
  have hz1 : ((ts.length : Int) == 0) = false := by rw [beq_eq_false_iff_ne]; exact hz0
  have HNO := Lib.hid hno
  have HCI : Hid ((decide ((0 : Int) ≤ (i : Int)) && canL ts (i : Int).toNat) = true) := by
    show _ = _
    rw [decide_eq_true (by omega), Bool.true_and]; exact hci
  have hm1 : (us.length : Int) - 1 = ((us.length - 1 : Nat) : Int) := by omega
  have i1 : ((us.length - 1 : Nat) : Int) < (us.length : Int) := by omega
  have i2 : (0 : Int) ≤ ((us.length - 1 : Nat) : Int) := by omega
  clear hno hci hoi hus hul0 huz hoo hne ho0
  go_wp2
  go_loopw [9] (fun x wr => ∃ j : Nat, i < j ∧ j ≤ ts.length ∧ x = .int .i64 j ∧ Below w4.heap.size w4 wr) (fun x _ => ts.length - (intOf x).toNat)
  case atStart => exact ⟨i + 1, by omega, by omega, by go_num, Below.refl _ _⟩
  case round =>
    obtain ⟨j, hij, hj, rfl, hb⟩ := hrel
    have HBr := Lib.hid (bl_trans HB4.out hb)
    have HDr := Lib.hid (bl_trans HD4.out hb)
    have HR := Lib.hid hb
    clear hb
    by_cases hlt : j < ts.length
    · have hlti : (j : Int) < (ts.length : Int) := by omega
      go_wp2_with fail
      refine (iCan_is _ (some ⟨gg, 0, none⟩) ts.length ct ts (j : Int) (tks_to HT.out HDr.out) (by omega) hct false (by rw [decide_eq_true (by omega), Bool.true_and]; exact HNO.out j hij hlt)).mono ?_
      rintro e w6 ⟨rfl, hb⟩
      have HR6 := Lib.hid (bl_trans HR.out hb)
      clear hb
      go_wp2
      go_roundw
      case rel => exact ⟨j + 1, by omega, by omega, by go_num, HR6.out⟩
      case measure => simp [intOf]; omega
    · have hlti : ¬ (j : Int) < (ts.length : Int) := by omega
      go_wp2_with fail
      refine (iCan_is _ (some ⟨gg, 0, none⟩) ts.length ct ts (i : Int) (tks_to HT.out HDr.out) (by omega) hct true HCI.out).mono ?_
      rintro e w6 ⟨rfl, hb⟩
      have HB6 := Lib.hid (bl_trans HBr.out hb)
      go_wp2
      go_ret
      exact ⟨rfl, HB6.out⟩

end Go.Proofs.Ytobkbbgllapcoac
