/- The walk of the law on responses with one task less. -/
import Derived.Test.YtobkbbgllapcoaaLwK
import Derived.Test.YtobkbbgllapcoaaDr3
import Derived.Test.YtobkbbgllapcoaaRHigh
import Derived.Test.YtobkbbgllapcoaaRespM
namespace Go.Proofs.Ytobkbbgllapcoaa
open Go.RowKit
set_option linter.unusedVariables false

set_option maxRecDepth 100000 in
set_option maxHeartbeats 4000000 in
theorem fnResponseMore_walk (w : World) (A : Option Addr) (n c : Nat) (f : Nat → Int) (h : Code w w.heap.size A n c f) :
    Calls Try.prog 13 #[.slice A n c] w fun e w' => e = .returned (.bool true) ∧ Below w.heap.size w w' := by
  have H := Lib.hid h
  have hle := h.le
  have hmax := h.max
  unfold maxLen at hmax
  clear h
  by_cases hn : 1048576 < n
  · go_enter Try.func13, Try.ntmps13
    go_wp2
    go_ret
    exact ⟨rfl, Below.refl _ _⟩
  go_enter Try.func13, Try.ntmps13
  go_wp2_with fail
  refine (dDrawResponseLow_any _ A n c f H.out).mono ?_
  rintro e w1 ⟨At, ct, ts, z, rfl, hl, z0, z1, ho, hb⟩
  have HB1 := Lib.hid hb
  have HO := Lib.hid ho
  have HT := Lib.hid ho.reads.2
  have hct := own_le ho
  clear hb ho H
  have HD1 := Lib.hid (Below.refl w1.heap.size w1)
  have hs1 := HB1.out.size
  obtain ⟨v, b, hv⟩ : ∃ v b, resN (atI (rLow ts) z) = (v, b) := ⟨_, _, rfl⟩
  have HV := Lib.hid hv
  go_wp2_with fail
  refine (iRLow_is _ At _ ct ts z ?_ (by omega) hct v b HV.out).mono ?_
  · exact tks_to HT.out (by repeat (first | with_reducible exact HD1.out | with_reducible refine Below.drew ?_ | with_reducible refine bl_drewN ?_ _ | with_reducible refine bl_alloc ?_ _))
  rintro e w2 ⟨rfl, hb⟩
  have hs2 := hb.size
  have HB2 := Lib.hid (show Below w.heap.size w w2 from bl_trans (by repeat (first | with_reducible exact HB1.out | with_reducible refine Below.drew ?_ | with_reducible refine bl_drewN ?_ _ | with_reducible refine bl_alloc ?_ _)) hb)
  have HD2 := Lib.hid (show Below w1.heap.size w1 w2 from bl_trans (by repeat (first | with_reducible exact HD1.out | with_reducible refine Below.drew ?_ | with_reducible refine bl_drewN ?_ _ | with_reducible refine bl_alloc ?_ _)) hb)
  clear hb
  go_wp2_with fail
  refine (sRLow_is _ At _ ct ts z ?_ (by omega) v b HV.out).mono ?_
  · exact tks_to HT.out (by repeat (first | with_reducible exact HD2.out | with_reducible refine Below.drew ?_ | with_reducible refine bl_drewN ?_ _ | with_reducible refine bl_alloc ?_ _))
  rintro e w3 ⟨rfl, hb⟩
  have hs3 := hb.size
  have HB3 := Lib.hid (show Below w.heap.size w w3 from bl_trans (by repeat (first | with_reducible exact HB2.out | with_reducible refine Below.drew ?_ | with_reducible refine bl_drewN ?_ _ | with_reducible refine bl_alloc ?_ _)) hb)
  have HD3 := Lib.hid (show Below w1.heap.size w1 w3 from bl_trans (by repeat (first | with_reducible exact HD2.out | with_reducible refine Below.drew ?_ | with_reducible refine bl_drewN ?_ _ | with_reducible refine bl_alloc ?_ _)) hb)
  clear hb
  cases b
  · obtain ⟨hno, rfl⟩ := res_false hv
    clear hno hv
    go_wp2
    go_ret
    exact ⟨rfl, by repeat (first | with_reducible exact HB3.out | refine bl_drewN ?_ _ | refine Below.drew ?_ | refine bl_alloc ?_ _)⟩
  obtain ⟨k, rfl, hr⟩ := at_some (res_true hv)
  obtain ⟨hset, t, ht, hf⟩ := rLow_some hr
  have hkl : k < ts.length := (List.getElem?_eq_some_iff.1 ht).1
  have h5 := setB_len hset
  by_cases hk0 : k = 0
  · subst hk0
    clear hv hr hf ht hset
    go_wp2
    go_ret
    exact ⟨rfl, by repeat (first | with_reducible exact HB3.out | refine bl_drewN ?_ _ | refine Below.drew ?_ | refine bl_alloc ?_ _)⟩
  obtain ⟨t0, ht0⟩ := get_at (n := ts.length) rfl (show 0 < ts.length by omega)
  obtain ⟨m, hm, hmv⟩ := resp_more hset ht0 (by omega) hr
  have hok0 := set_ok hset (get_mem ht0)
  obtain ⟨gg, oo, rfl, hgl, _⟩ := HT.out.at_ k _ ht
  obtain ⟨lo, hi, du, ev, cr, rfl, p1, p2, p3, p4, p5⟩ := task_nat hok0
  have hmv' : m + lo ≤ v := hmv
  have x1 := (resp_fix hf).2.2.1
  have hvb : v ≤ 20 := by have := ok_parts (set_ok hset (get_mem ht)); omega
  have HM : Hid (resN (atI (rLow (ts.drop 1)) (((k - 1 : Nat) : Int))) = (m, true)) := by show resN (atI _ _) = _; rw [at_nat, hm]; rfl
  have HTA := Lib.hid ht0
  clear hv hr hf ht ht0 hset hok0 hm hmv x1
  have i1 : (k : Int) - 1 = ((k - 1 : Nat) : Int) := by omega
  have i2 : ¬ (k : Int) = 0 := by omega
  have j1 : (1 : Int) ≤ (ts.length : Int) := by omega
  have j2 : (ts.length : Int) ≤ (ct : Int) := by omega
  have j3 : (1 : Int) ≤ (ct : Int) := by omega
  have j4 : ((1 : Int) == (ct : Int)) = false := by rw [beq_eq_false_iff_ne]; omega
  have j5 : ¬ (1 : Int) = (ct : Int) := by omega
  have j6 : ¬ 1 = ct := by omega
  have j7 : ¬ ct = 1 := by omega
  have CC := (Tks.get (tks_to HT.out HD3.out) HTA.out).2
  obtain ⟨c0, c1, c2, c3, c4⟩ := CC
  dsimp only at c0 c1 c2 c3 c4
  go_wp2_with fail
  refine (iRLow_is _ (some ⟨gg, oo + 1 * 5, none⟩) (ts.length - 1) (ct - 1) (ts.drop 1) ((k - 1 : Nat) : Int) ?_ (by omega) (by omega) m true HM.out).mono ?_
  · exact Tks.drop (k := 1) (tks_to HT.out (by repeat (first | with_reducible exact HD3.out | with_reducible refine Below.drew ?_ | with_reducible refine bl_drewN ?_ _ | with_reducible refine bl_alloc ?_ _))) rfl
  rintro e w4 ⟨rfl, hb⟩
  have hs4 := hb.size
  have HB4 := Lib.hid (show Below w.heap.size w w4 from bl_trans (by repeat (first | with_reducible exact HB3.out | with_reducible refine Below.drew ?_ | with_reducible refine bl_drewN ?_ _ | with_reducible refine bl_alloc ?_ _)) hb)
  have HD4 := Lib.hid (show Below w1.heap.size w1 w4 from bl_trans (by repeat (first | with_reducible exact HD3.out | with_reducible refine Below.drew ?_ | with_reducible refine bl_drewN ?_ _ | with_reducible refine bl_alloc ?_ _)) hb)
  clear hb
  have CC := (Tks.get (tks_to HT.out HD4.out) HTA.out).2
  simp only [Nat.zero_mul, Nat.add_zero] at CC
  obtain ⟨c0, c1, c2, c3, c4⟩ := CC
  dsimp only at c0 c1 c2 c3 c4
  have q1 : (m : Int) ≤ (v : Int) - (lo : Int) := by omega
  go_wp2
  go_ret
  exact ⟨rfl, by repeat (first | with_reducible exact HB4.out | refine bl_drewN ?_ _ | refine Below.drew ?_ | refine bl_alloc ?_ _)⟩

end Go.Proofs.Ytobkbbgllapcoaa
