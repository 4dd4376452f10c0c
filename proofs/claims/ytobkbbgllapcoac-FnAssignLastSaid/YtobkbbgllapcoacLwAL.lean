/- The walk of the law FnAssignLess. -/
import Derived.Test.YtobkbbgllapcoacMA
import Derived.Test.YtobkbbgllapcoacMB
import Derived.Test.YtobkbbgllapcoacLwX4z
import Derived.Test.YtobkbbgllapcoacMC
namespace Go.Proofs.Ytobkbbgllapcoac
open Go.RowKit
set_option linter.unusedVariables false

theorem own_some' {w : World} {B c : Nat} {A : Option Addr} {ts : List Tk} (h : Own w B (.slice A ts.length c) ts) (hne : ts ≠ []) : ∃ g, A = some ⟨g, 0, none⟩ := by
  rcases h.2 with ⟨e, h0⟩ | ⟨g, cap, cur, e, _, _, h1, h2, _⟩
  · exact absurd (List.eq_nil_of_length_eq_zero h0) hne
  · injection e with e1 e2 e3
    exact ⟨g, e1⟩
theorem assign_drop {ts : List Tk} (h : (assignOf ts).isSome = true) : (assignOf (ts.drop 1)).isSome = true := by
  obtain ⟨o, ho⟩ := Option.isSome_iff_exists.1 h
  have hs := (assign_some ho).1
  have hc := (assign_iff hs).1 h
  have hs' : setB (ts.drop 1) = true := set_sub hs (List.drop_sublist 1 ts)
  refine (assign_iff hs').2 ?_
  cases ts with
  | nil => exact hc
  | cons t ts => exact can_less hc
theorem assign_ord {ts : List Tk} (h : (assignOf ts).isSome = true) : (setB ts && ordB (asgR (assignOf ts)) ts.length) = true := by
  obtain ⟨o, ho⟩ := Option.isSome_iff_exists.1 h
  obtain ⟨h1, h2, _⟩ := assign_some ho
  rw [ho, h1, Bool.true_and]
  show ordB (toZ o) _ = true
  rw [ordB_iff]
  refine ⟨by rw [toZ_len, h2.length_eq, List.length_range], fun z hz => ?_, ?_⟩
  · obtain ⟨i, hi, rfl⟩ := List.mem_map.1 hz
    have := List.mem_range.1 (h2.mem_iff.1 hi)
    exact ⟨Int.natCast_nonneg i, by show (i : Int) < _; omega⟩
  · have hn : o.Nodup := h2.nodup_iff.2 (nodup_range _)
    exact List.pairwise_map.2 (hn.imp fun hab e => hab (by injection e))

set_option maxRecDepth 100000 in
set_option maxHeartbeats 4000000 in
theorem fnAssignLess_walk (w : World) (A : Option Addr) (n c : Nat) (f : Nat → Int) (h : Code w w.heap.size A n c f) :
    Calls Try.prog 6 #[.slice A n c] w fun e w' => e = .returned (.bool true) ∧ Below w.heap.size w w' := by
  have H := Lib.hid h
  have hle := h.le
  have hmax := h.max
  unfold maxLen at hmax
  clear h
  by_cases hn : 1048576 < n
  · go_enter Try.func6, Try.ntmps6
    go_wp2
    go_ret
    exact ⟨rfl, Below.refl _ _⟩
  go_enter Try.func6, Try.ntmps6
  go_wp2_with fail
  refine (dDrawAssignOrder_any _ A n c f H.out).mono ?_
  rintro e w1 ⟨At, ct, ts, rfl, hl, ho, hb⟩
  have HB1 := Lib.hid hb
  have HO := Lib.hid ho
  have HT := Lib.hid ho.reads.2
  have hct := own_le ho
  clear hb ho H
  have HD1 := Lib.hid (Below.refl w1.heap.size w1)
  have hs1 := HB1.out.size
  obtain ⟨us, b, hu⟩ : ∃ us b, asgR (assignOf ts) = us ∧ (assignOf ts).isSome = b := ⟨_, _, rfl, rfl⟩
  have hul : us.length ≤ 5 := by rw [← hu.1]; exact assignOf_len ts
  have HU := Lib.hid hu
  clear hu
  go_wp2_with fail
  refine (iAssign_at _ At _ ct ts us b ?_ (by omega) HU.out).mono ?_
  · exact tks_to HT.out (by repeat (first | with_reducible exact HD1.out | with_reducible refine Below.drew ?_ | with_reducible refine bl_drewN ?_ _ | with_reducible refine bl_alloc ?_ _))
  rintro e w2 ⟨Ao, co, rfl, ho, hb⟩
  have hs2 := hb.size
  have HB2 := Lib.hid (show Below w.heap.size w w2 from bl_trans (by repeat (first | with_reducible exact HB1.out | with_reducible refine Below.drew ?_ | with_reducible refine bl_drewN ?_ _ | with_reducible refine bl_alloc ?_ _)) hb)
  have HD2 := Lib.hid (show Below w1.heap.size w1 w2 from bl_trans (by repeat (first | with_reducible exact HD1.out | with_reducible refine Below.drew ?_ | with_reducible refine bl_drewN ?_ _ | with_reducible refine bl_alloc ?_ _)) hb)
  have HZo2 := Lib.hid ho.reads
  clear hb ho
  go_wp2_with fail
  refine (sAssign_at _ At _ ct ts us b ?_ (by omega) HU.out).mono ?_
  · exact tks_to HT.out (by repeat (first | with_reducible exact HD2.out | with_reducible refine Below.drew ?_ | with_reducible refine bl_drewN ?_ _ | with_reducible refine bl_alloc ?_ _))
  rintro e w3 ⟨Aw, cw, rfl, ho, hb⟩
  have hs3 := hb.size
  have HB3 := Lib.hid (show Below w.heap.size w w3 from bl_trans (by repeat (first | with_reducible exact HB2.out | with_reducible refine Below.drew ?_ | with_reducible refine bl_drewN ?_ _ | with_reducible refine bl_alloc ?_ _)) hb)
  have HD3 := Lib.hid (show Below w1.heap.size w1 w3 from bl_trans (by repeat (first | with_reducible exact HD2.out | with_reducible refine Below.drew ?_ | with_reducible refine bl_drewN ?_ _ | with_reducible refine bl_alloc ?_ _)) hb)
  have HZw3 := Lib.hid ho.reads
  have HZo3 := Lib.hid ((HZo2.out.below (show Below w2.heap.size w2 w3 from hb)).more hb.size)
  clear hb ho
  go_wp2_with fail
  refine (dmInts_any w3 Ao Aw _ co cw us HZo3.out HZw3.out (by omega)).mono ?_
  rintro e w4 ⟨rfl, hb⟩
  have hs4 := hb.size
  have HB4 := Lib.hid (show Below w.heap.size w w4 from bl_trans HB3.out hb)
  have HD4 := Lib.hid (show Below w1.heap.size w1 w4 from bl_trans HD3.out hb)
  have HZw4 := Lib.hid ((HZw3.out.below hb).more hb.size)
  have HZo4 := Lib.hid ((HZo3.out.below hb).more hb.size)
  clear hb
  cases b
  · go_wp2_with fail
    refine (dmInts_any w4 Ao Aw _ co cw us HZo4.out HZw4.out (by omega)).mono ?_
    rintro e w5 ⟨rfl, hb⟩
    have HB5 := Lib.hid (bl_trans HB4.out hb)
    go_wp2
    go_ret
    exact ⟨rfl, HB5.out⟩
  by_cases h0 : ts.length = 0
  · have hnil : ts = [] := List.eq_nil_of_length_eq_zero h0
    subst hnil
    clear h0
    go_wp2_with fail
    refine (dmInts_any w4 Ao Aw _ co cw us HZo4.out HZw4.out (by omega)).mono ?_
    rintro e w5 ⟨rfl, hb⟩
    have HB5 := Lib.hid (bl_trans HB4.out hb)
    go_wp2
    go_ret
    exact ⟨rfl, HB5.out⟩
  have hne : ts ≠ [] := fun e => h0 (by rw [e]; rfl)
  obtain ⟨gg, rfl⟩ := own_some' HO.out hne
  have hlp : 0 < ts.length := by omega
  have HDR := Lib.hid (assign_drop HU.out.2)
  have HOR := Lib.hid (assign_ord HU.out.2)
  obtain ⟨xs, hxs⟩ : ∃ xs, ts.drop 1 = xs := ⟨_, rfl⟩
  have hxl : xs.length = ts.length - 1 := by rw [← hxs, List.length_drop]
  obtain ⟨vs, hvs⟩ : ∃ vs, asgR (assignOf xs) = vs := ⟨_, rfl⟩
  have HV : Hid (asgR (assignOf xs) = vs ∧ (assignOf xs).isSome = true) := ⟨hvs, by rw [← hxs]; exact HDR.out⟩
  have HXS := Lib.hid hxs
  have HXL := Lib.hid hxl
  have i1 : (1 : Int) ≤ (ts.length : Int) := by omega
  have i2 : (1 : Int) ≤ (ct : Int) := by omega
  clear hvs hxs hxl hne
  have HOR2 : Hid ((setB ts && ordB us ts.length) = true) := by show _ = _; rw [← HU.out.1]; exact HOR.out
  by_cases hc1 : ct = 1
  · have hl1 : ts.length = 1 := by omega
    have HL1 := Lib.hid hl1
    have hx0 : xs = [] := List.eq_nil_of_length_eq_zero (by have := HXL.out; omega)
    subst hc1
    go_wp2_with fail
    refine (iAssign_at w4 (some ⟨gg, 0, none⟩) 0 0 xs vs true (by rw [hx0]; exact ⟨rfl, fun i t h => by simp at h⟩) (by omega) HV.out).mono ?_
    rintro e w5 ⟨Ay, cy, rfl, ho, hb⟩
    have HB5 := Lib.hid (bl_trans HB4.out hb)
    have HD5 := Lib.hid (bl_trans HD4.out hb)
    have HZo5 := Lib.hid ((HZo4.out.below hb).more hb.size)
    clear hb ho
    go_wp2_with fail
    refine (iOrdValid_is w5 (some ⟨gg, 0, none⟩) 1 1 ts Ao us.length co us (by have := tks_to HT.out HD5.out; rwa [HL1.out] at this) (by omega) HZo5.out true HOR2.out).mono ?_
    rintro e w6 ⟨rfl, hb⟩
    have HB6 := Lib.hid (bl_trans HB5.out hb)
    go_wp2
    go_ret
    exact ⟨rfl, HB6.out⟩
  have j1 : ¬ (1 : Int) = (ct : Int) := by omega
  have j2 : ((1 : Int) == (ct : Int)) = false := by rw [beq_eq_false_iff_ne]; exact j1
  have j3 : ¬ ct = 1 := hc1
  go_wp2_with fail
  refine (iAssign_at w4 (some ⟨gg, 5, none⟩) (ts.length - 1) (ct - 1) xs vs true (by rw [← HXS.out]; exact Tks.drop (k := 1) (tks_to HT.out HD4.out) rfl) (by omega) HV.out).mono ?_
  rintro e w5 ⟨Ay, cy, rfl, ho, hb⟩
  have HB5 := Lib.hid (bl_trans HB4.out hb)
  have HD5 := Lib.hid (bl_trans HD4.out hb)
  have HZo5 := Lib.hid ((HZo4.out.below hb).more hb.size)
  clear hb ho
  go_wp2_with fail
  refine (iOrdValid_is w5 (some ⟨gg, 0, none⟩) ts.length ct ts Ao us.length co us (tks_to HT.out HD5.out) (by omega) HZo5.out true HOR2.out).mono ?_
  rintro e w6 ⟨rfl, hb⟩
  have HB6 := Lib.hid (bl_trans HB5.out hb)
  go_wp2
  go_ret
  exact ⟨rfl, HB6.out⟩

end Go.Proofs.Ytobkbbgllapcoac
