/- The walk of the law that one task holds. -/
import Derived.Test.YtobkbbgllapcoabLwK
import Derived.Test.YtobkbbgllapcoabDr3
import Derived.Test.YtobkbbgllapcoabHold
import Derived.Test.YtobkbbgllapcoabRespS
namespace Go.Proofs.Ytobkbbgllapcoab
open Go.RowKit
set_option linter.unusedVariables false

set_option maxRecDepth 100000 in
set_option maxHeartbeats 4000000 in
theorem fnBadOne_walk (w : World) (A : Option Addr) (n c : Nat) (f : Nat → Int) (h : Code w w.heap.size A n c f) :
    Calls Try.prog 4 #[.slice A n c] w fun e w' => e = .returned (.bool true) ∧ Below w.heap.size w w' := by
  have H := Lib.hid h
  have hle := h.le
  have hmax := h.max
  unfold maxLen at hmax
  clear h
  by_cases hn : 1048576 < n
  · go_enter Try.func4, Try.ntmps4
    go_wp2
    go_ret
    exact ⟨rfl, Below.refl _ _⟩
  go_enter Try.func4, Try.ntmps4
  go_wp2_with fail
  refine (dDrawFirstBad_any _ A n c f H.out).mono ?_
  rintro e w1 ⟨At, ct, ts, rfl, hl, ho, hb⟩
  have HB1 := Lib.hid hb
  have HO := Lib.hid ho
  have HT := Lib.hid ho.reads.2
  have hct := own_le ho
  clear hb ho H
  have HD1 := Lib.hid (Below.refl w1.heap.size w1)
  have hs1 := HB1.out.size
  obtain ⟨v, b, hv⟩ : ∃ v b, resN (fBad ts) = (v, b) := ⟨_, _, rfl⟩
  have HV := Lib.hid hv
  go_wp2_with fail
  refine (iFBad_is _ At _ ct ts ?_ (by omega) hct v b HV.out).mono ?_
  · exact tks_to HT.out (by repeat (first | with_reducible exact HD1.out | with_reducible refine Below.drew ?_ | with_reducible refine bl_drewN ?_ _ | with_reducible refine bl_alloc ?_ _))
  rintro e w2 ⟨rfl, hb⟩
  have hs2 := hb.size
  have HB2 := Lib.hid (show Below w.heap.size w w2 from bl_trans (by repeat (first | with_reducible exact HB1.out | with_reducible refine Below.drew ?_ | with_reducible refine bl_drewN ?_ _ | with_reducible refine bl_alloc ?_ _)) hb)
  have HD2 := Lib.hid (show Below w1.heap.size w1 w2 from bl_trans (by repeat (first | with_reducible exact HD1.out | with_reducible refine Below.drew ?_ | with_reducible refine bl_drewN ?_ _ | with_reducible refine bl_alloc ?_ _)) hb)
  clear hb
  go_wp2_with fail
  refine (sFBad_is _ At _ ct ts ?_ (by omega) v b HV.out).mono ?_
  · exact tks_to HT.out (by repeat (first | with_reducible exact HD2.out | with_reducible refine Below.drew ?_ | with_reducible refine bl_drewN ?_ _ | with_reducible refine bl_alloc ?_ _))
  rintro e w3 ⟨rfl, hb⟩
  have hs3 := hb.size
  have HB3 := Lib.hid (show Below w.heap.size w w3 from bl_trans (by repeat (first | with_reducible exact HB2.out | with_reducible refine Below.drew ?_ | with_reducible refine bl_drewN ?_ _ | with_reducible refine bl_alloc ?_ _)) hb)
  have HD3 := Lib.hid (show Below w1.heap.size w1 w3 from bl_trans (by repeat (first | with_reducible exact HD2.out | with_reducible refine Below.drew ?_ | with_reducible refine bl_drewN ?_ _ | with_reducible refine bl_alloc ?_ _)) hb)
  clear hb
  go_wp2_with fail
  refine (iSetValid_any _ At _ ct ts ?_ (by omega)).mono ?_
  · exact tks_to HT.out (by repeat (first | with_reducible exact HD3.out | with_reducible refine Below.drew ?_ | with_reducible refine bl_drewN ?_ _ | with_reducible refine bl_alloc ?_ _))
  rintro e w4 ⟨rfl, hb⟩
  have hs4 := hb.size
  have HB4 := Lib.hid (show Below w.heap.size w w4 from bl_trans (by repeat (first | with_reducible exact HB3.out | with_reducible refine Below.drew ?_ | with_reducible refine bl_drewN ?_ _ | with_reducible refine bl_alloc ?_ _)) hb)
  have HD4 := Lib.hid (show Below w1.heap.size w1 w4 from bl_trans (by repeat (first | with_reducible exact HD3.out | with_reducible refine Below.drew ?_ | with_reducible refine bl_drewN ?_ _ | with_reducible refine bl_alloc ?_ _)) hb)
  clear hb
  cases hs : setB ts
  · clear hv
    go_wp2
    go_ret
    exact ⟨rfl, by repeat (first | with_reducible exact HB4.out | refine bl_drewN ?_ _ | refine Below.drew ?_ | refine bl_alloc ?_ _)⟩
  have hlast : b = false ∨ (0 : Int) < (v : Int) := by
    cases hb : b
    · exact .inl rfl
    · subst hb
      refine .inr ?_
      have hf := res_true hv
      rcases Nat.eq_zero_or_pos v with rfl | h
      · obtain ⟨_, hk, hbad, _⟩ := fBad_at hf
        obtain ⟨t, ht⟩ := get_at (n := ts.length) rfl hk
        rw [first_both hs ht] at hbad; cases hbad
      · omega
  have HSET := Lib.hid hs
  have h5 := setB_len hs
  clear hv hs
  go_wp2
  go_loopw [8] (fun i wr => ∃ j : Nat, j ≤ ts.length ∧ i = .int .i64 j ∧ Below w4.heap.size w4 wr) (fun i _ => ts.length - (intOf i).toNat)
  case atStart => exact ⟨0, by omega, rfl, Below.refl _ _⟩
  case round =>
    obtain ⟨j, hj, rfl, hb⟩ := hrel
    have HD5 := Lib.hid (bl_trans HD4.out hb)
    have HB5 := Lib.hid (bl_trans HB4.out hb)
    have HW := Lib.hid hb
    clear hb
    by_cases hjk : j < ts.length
    · obtain ⟨t, ht⟩ := get_at (n := ts.length) rfl hjk
      obtain ⟨gg, oo, rfl, hgl, _⟩ := HT.out.at_ j _ ht
      have i1 : (j : Int) < (ts.length : Int) := by omega
      have i2 : (j : Int) + 1 ≤ (ct : Int) := by omega
      have i3 : (j : Int) + 1 ≤ (ts.length : Int) := by omega
      have i4 : ((j : Int) == (ct : Int)) = false := by rw [beq_eq_false_iff_ne]; omega
      have i5 : ¬ (j : Int) = (ct : Int) := by omega
      have i6 : ¬ j = ct := by omega
      have HONE : Hid (resN (fBad [t]) = (0, false)) := by show resN _ = _; rw [one_good (set_ok HSET.out (get_mem ht))]; rfl
      have hd1 : (ts.drop j).take 1 = [t] := by rw [drop_at' ht]; rfl
      have HD1' := Lib.hid hd1
      clear ht hd1
      go_wp2_with fail
      refine (iFBad_is _ (some ⟨gg, oo + j * 5, none⟩) 1 (ct - j) [t] ?_ (by omega) (by omega) 0 false HONE.out).mono ?_
      · rw [← HD1'.out]; exact Tks.take (Tks.drop (k := j) (tks_to HT.out HD5.out) rfl) (by omega)
      rintro e w6 ⟨rfl, hb⟩
      go_wp2
      go_roundw
      case rel => exact ⟨j + 1, by omega, by go_num, bl_trans HW.out hb⟩
      case measure => simp [intOf]; omega
    · have i1 : ¬ (j : Int) < (ts.length : Int) := by omega
      rcases hlast with rfl | h0
      · go_wp2
        go_ret
        exact ⟨rfl, HB5.out⟩
      · have h0n : 0 < v := by omega
        have h0d : decide (0 < v) = true := decide_eq_true h0n
        cases b
        · go_wp2
          go_ret
          exact ⟨rfl, HB5.out⟩
        · go_wp2
          go_ret
          exact ⟨rfl, HB5.out⟩

end Go.Proofs.Ytobkbbgllapcoab
