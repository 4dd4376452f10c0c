/- The walk of the law FnCanLow. -/
import Derived.Deep.RegionLaw
import Derived.Test.YtobkbbgllapcoacLwX4c
import Derived.Test.YtobkbbgllapcoacMB
import Derived.Test.YtobkbbgllapcoacMC
namespace Go.Proofs.Ytobkbbgllapcoac
open Go.RowKit
set_option linter.unusedVariables false

theorem can_both {ts : List Tk} {k : Nat} {t : Tk} (h : canL ts k = true) (ht : ts[k]? = some t) : setB ts = true ∧ setB (endOf ts k t) = true ∧ (endOf ts k t).length = ts.length ∧ ∃ v, resN (atI (rLow (endOf ts k t)) ((ts.length - 1 : Nat) : Int)) = (v, true) := by
  have hs : setB ts = true := by
    cases hs : setB ts
    · rw [can_bad _ hs] at h; cases h
    · rfl
  have hse : setB (endOf ts k t) = true := by rw [set_perm (end_perm ht)]; exact hs
  obtain ⟨h1, h2, h3⟩ := end_last ht
  refine ⟨hs, hse, h3, ?_⟩
  rw [can_end hs ht] at h
  rw [at_nat]
  have hb := both_is hse h1
  rw [h] at hb
  unfold bothL at hb
  have hr := rLow_at hse h1
  cases hx : respOf ((endOf ts k t).take (ts.length - 1)) t.lo.toNat t.du.toNat with
  | none => rw [hx] at hb; cases hb
  | some v =>
    rw [hx] at hr
    exact ⟨v, by rw [hr]; rfl⟩

set_option maxRecDepth 100000 in
set_option maxHeartbeats 4000000 in
theorem fnCanLow_walk (w : World) (A : Option Addr) (n c : Nat) (f : Nat → Int) (h : Code w w.heap.size A n c f) :
    Calls Try.prog 11 #[.slice A n c] w fun e w' => e = .returned (.bool true) ∧ Below w.heap.size w w' := by
  have H := Lib.hid h
  have hle := h.le
  have hmax := h.max
  unfold maxLen at hmax
  clear h
  by_cases hn : 1048576 < n
  · go_enter Try.func11, Try.ntmps11
    go_wp2
    go_ret
    exact ⟨rfl, Below.refl _ _⟩
  go_enter Try.func11, Try.ntmps11
  go_wp2_with fail
  refine (dDrawCanBeLast_any _ A n c f H.out).mono ?_
  rintro e w1 ⟨At, ct, ts, z, rfl, hl, z0, z1, ho, hb⟩
  have HB1 := Lib.hid hb
  have HO := Lib.hid ho
  have HT := Lib.hid ho.reads.2
  have hct := own_le ho
  clear hb ho H
  have HD1 := Lib.hid (Below.refl w1.heap.size w1)
  have hs1 := HB1.out.size
  obtain ⟨b, hb⟩ : ∃ b, (decide (0 ≤ z) && canL ts z.toNat) = b := ⟨_, rfl⟩
  have HV := Lib.hid hb
  clear hb
  go_wp2_with fail
  refine (iCan_is w1 At _ ct ts z (tks_to HT.out HD1.out) (by omega) hct b HV.out).mono ?_
  rintro e w2 ⟨rfl, hb⟩
  have hs2 := hb.size
  have HB2 := Lib.hid (show Below w.heap.size w w2 from bl_trans HB1.out hb)
  have HD2 := Lib.hid (show Below w1.heap.size w1 w2 from bl_trans HD1.out hb)
  clear hb
  go_wp2_with fail
  refine (sCan_is w2 At _ ct ts z (tks_to HT.out HD2.out) (by omega) hct b HV.out).mono ?_
  rintro e w3 ⟨rfl, hb⟩
  have hs3 := hb.size
  have HB3 := Lib.hid (show Below w.heap.size w w3 from bl_trans HB2.out hb)
  have HD3 := Lib.hid (show Below w1.heap.size w1 w3 from bl_trans HD2.out hb)
  clear hb
  cases b
  · go_wp2_with fail
    refine (sCan_is w3 At _ ct ts z (tks_to HT.out HD3.out) (by omega) hct false HV.out).mono ?_
    rintro e w4 ⟨rfl, hb⟩
    have hs4 := hb.size
    have HB4 := Lib.hid (show Below w.heap.size w w4 from bl_trans HB3.out hb)
    have HD4 := Lib.hid (show Below w1.heap.size w1 w4 from bl_trans HD3.out hb)
    clear hb
    go_wp2
    go_ret
    exact ⟨rfl, HB4.out⟩
  obtain ⟨i0, hi, hz0, hz1, hz2⟩ := info_parts info_task
  have hvv := HV.out
  rw [Bool.and_eq_true, decide_eq_true_iff] at hvv
  obtain ⟨k, rfl⟩ := Int.eq_ofNat_of_zero_le hvv.1
  have hcl : canL ts k = true := hvv.2
  have hk : k < ts.length := by
    rcases Nat.lt_or_ge k ts.length with h | h
    · exact h
    · rw [can_past (List.getElem?_eq_none h)] at hcl; cases hcl
  obtain ⟨t, ht⟩ := get_at (ts := ts) rfl hk
  obtain ⟨bb, oo, rfl, hbl, _⟩ := HT.out.at_ k _ ht
  obtain ⟨hs, hse, hle', v, hrv⟩ := can_both hcl ht
  have HT3 : Hid (Tks w3 w3.heap.size (some ⟨bb, oo, none⟩) ts.length ts) := (tks_to HT.out HD3.out)
  have hb3 : bb < w3.heap.size := by have := HD3.out.size; omega
  have h5 : ts.length ≤ 5 := setB_len hs
  obtain ⟨es, hes⟩ : ∃ es, es = ts.take k ++ ts.drop (k + 1) := ⟨_, rfl⟩
  obtain ⟨us, hus⟩ : ∃ us, us = endOf ts k t := ⟨_, rfl⟩
  have HUS : Hid (us = es ++ [t]) := by show _ = _; rw [hus, hes]; unfold endOf; rw [List.eraseIdx_eq_take_drop_succ]
  rw [← hus] at hse hle' hrv
  have hel : es.length ≤ 10 := by rw [hes, List.length_append, List.length_take, List.length_drop]; omega
  rw [← hle'] at hrv
  have HRV := Lib.hid hrv
  have HSU := Lib.hid hse
  have HES := Lib.hid hes
  have HTT := Lib.hid ht
  have hul : us.length ≤ 5 := by omega
  have hu1 : (us.length : Int) - 1 = ((us.length - 1 : Nat) : Int) := by omega
  have i1 : (k : Int) ≤ (ct : Int) := by omega
  have i2 : (k : Int) + 1 ≤ (ts.length : Int) := by omega
  have i3 : (k : Int) + 1 ≤ (ct : Int) := by omega
  have i4 : (ts.length : Int) ≤ (ct : Int) := by omega
  have i5 : (0 : Int) ≤ (k : Int) + 1 := by omega
  have i6 : (k : Int) < (ts.length : Int) := by omega
  have kw : IntKind.i64.wrap ((k : Int) + 1) = (k : Int) + 1 := IntWalk.i64_in _ (by omega)
  have kn : ((k : Int) + 1).toNat = k + 1 := by omega
  obtain ⟨nn, hnn⟩ : ∃ nn, ts.length = nn := ⟨_, rfl⟩
  rw [hnn] at i2 i4 i6 HT3 hk hct h5 ⊢
  have HTL := Lib.hid hnn
  clear hvv hcl ht hs hse hle' hrv hes hus hnn
  obtain ⟨lo, hi', du, ev, cr⟩ := t
  by_cases hkc : k + 1 = ct
  · subst hkc
    obtain rfl : nn = k + 1 := by omega
    have i7 : (k : Int) ≤ (k : Int) + 1 := by omega
    go_wp2
    go_region_law (first | (refine step_append_own rfl (.tmp 34) (.tmp 37) 23 rfl w3.heap.size 34 i0 _ 5 40 Try.underlying23 hi hz0 hz1 hz2 rfl (by decide) _ 0 [] rfl (Own.empty _) ⟨bb, oo, none⟩ k (k + 1) ((ts.take k).flatMap Tk.cells) rfl (by rw [cells_length, List.length_take, HTL.out]; rw [Nat.min_eq_left (by omega)]) (Tks.cells (Tks.take (HT3.out.below (by repeat (first | with_reducible exact Below.refl w3.heap.size w3 | with_reducible refine Below.drew ?_ | with_reducible refine bl_alloc ?_ _))) (by omega))) (cells_one _) (by unfold maxLen; omega) (by omega) (by simp) ?_; intro v1 w14 hown1 hgrow1 _; have HO1 := Lib.hid (show Own w14 w3.heap.size v1 (ts.take k) from by unfold Own; rw [List.length_take, HTL.out, Nat.min_eq_left (by omega)]; simpa using hown1); have HBA1 := Lib.hid (show Below w3.heap.size w3 w14 from (by repeat (first | with_reducible exact Below.refl w3.heap.size w3 | with_reducible refine Below.drew ?_ | with_reducible refine bl_alloc ?_ _) : Below w3.heap.size w3 _).grown hgrow1 (by simp) (fun q e => Nat.le_of_eq (Option.some.inj e))); have HS1 := HBA1.out.size; clear hown1 hgrow1) | (refine step_append_own rfl (.tmp 38) (.tmp 42) 23 rfl w3.heap.size 34 i0 _ 5 40 Try.underlying23 hi hz0 hz1 hz2 rfl (by decide) v1 (ts.take k).length ((ts.take k).flatMap Tk.cells) rfl HO1.out ⟨bb, oo, none⟩ 0 0 [] rfl rfl (fun j u hu => by simp at hu) (fun u hu => by simp at hu) (by unfold maxLen; rw [List.length_take]; omega) (by rw [List.length_take]; omega) HS1 ?_; intro v2 w15 hown2 hgrow2 _; have HBA2 := Lib.hid (show Below w3.heap.size w3 w15 from HBA1.out.grown hgrow2 HS1 (fun q e => (World.ownsRow.lt HO1.out q e).1)); have HO2 := Lib.hid (show Own w15 w3.heap.size v2 es from by rw [HES.out, List.drop_eq_nil_of_le (by rw [HTL.out]; exact Nat.le_refl _), List.append_nil]; unfold Own; simpa using hown2); clear hown2 hgrow2))
    obtain ⟨A2, c2, rfl⟩ := HO2.out.form
    have hbb2 : bb < w15.heap.size := by have := HBA2.out.size; omega
    have C1 := Tks.get (HT3.out.below HBA2.out) HTT.out
    obtain ⟨c0, c1, c2', c3, c4⟩ := C1.2
    dsimp only at c0 c1 c2' c3 c4
    clear C1
    go_wp2_with (at_builtin; refine wpList_append_own _ rfl (.tmp 44) (.tmp 49) 23 rfl w3.heap.size 34 i0 _ 5 40 Try.underlying23 hi hz0 hz1 hz2 rfl (by decide) _ es.length (es.flatMap Tk.cells) rfl (HO2.out.alloc _) ⟨w15.heap.size, 0, none⟩ 1 1 (Tk.cells ⟨lo, hi', du, ev, cr⟩) rfl rfl (cell_new5 _ ⟨lo, hi', du, ev, cr⟩ _) (by intro u hu; exact cells_one [⟨lo, hi', du, ev, cr⟩] u (by simpa using hu)) (by unfold maxLen; omega) (by omega) (by have := HBA2.out.size; simp; omega) ?_; intro v3 w16 hown3 hgrow3 _; have HO3 := Lib.hid (show Own w16 w3.heap.size v3 us from by rw [HUS.out]; exact Own.snoc hown3); have HBA3 := Lib.hid ((bl_alloc HBA2.out _).grown hgrow3 (by have := HBA2.out.size; simp; omega) (fun k e => (World.ownsRow.lt HO2.out k e).1)); obtain ⟨A3, c3', rfl⟩ := HO3.out.form; clear hown3 hgrow3)
    refine (iRLow_is w16 A3 _ c3' us ((us.length - 1 : Nat) : Int) HO3.out.reads.2 (by omega) (own_le HO3.out) v true HRV.out).mono ?_
    rintro e w17 ⟨rfl, hb⟩
    have HBA4 := Lib.hid (bl_trans HBA3.out hb)
    have HUR := Lib.hid ((HO3.out.below hb).reads.2)
    clear hb
    go_wp2_with fail
    refine (iSetValid_any w17 A3 _ c3' us HUR.out (by omega)).mono ?_
    rintro e w18 ⟨rfl, hb⟩
    rw [HSU.out]
    have HBB := Lib.hid (bl_trans HB3.out (bl_trans HBA4.out hb))
    clear hb
    go_wp2
    go_ret
    exact ⟨rfl, HBB.out⟩
  have j1 : ((k : Int) + 1 == (ct : Int)) = false := by rw [beq_eq_false_iff_ne]; omega
  have j2 : ¬ (k : Int) + 1 = (ct : Int) := by omega
  have j4 : ¬ ct = k + 1 := by omega
  go_wp2
  go_region_law (first | (refine step_append_own rfl (.tmp 34) (.tmp 37) 23 rfl w3.heap.size 34 i0 _ 5 40 Try.underlying23 hi hz0 hz1 hz2 rfl (by decide) _ 0 [] rfl (Own.empty _) ⟨bb, oo, none⟩ k ct ((ts.take k).flatMap Tk.cells) rfl (by rw [cells_length, List.length_take, HTL.out]; rw [Nat.min_eq_left (by omega)]) (Tks.cells (Tks.take (HT3.out.below (by repeat (first | with_reducible exact Below.refl w3.heap.size w3 | with_reducible refine Below.drew ?_ | with_reducible refine bl_alloc ?_ _))) (by omega))) (cells_one _) (by unfold maxLen; omega) (by omega) (by simp) ?_; intro v1 w14 hown1 hgrow1 _; have HO1 := Lib.hid (show Own w14 w3.heap.size v1 (ts.take k) from by unfold Own; rw [List.length_take, HTL.out, Nat.min_eq_left (by omega)]; simpa using hown1); have HBA1 := Lib.hid (show Below w3.heap.size w3 w14 from (by repeat (first | with_reducible exact Below.refl w3.heap.size w3 | with_reducible refine Below.drew ?_ | with_reducible refine bl_alloc ?_ _) : Below w3.heap.size w3 _).grown hgrow1 (by simp) (fun q e => Nat.le_of_eq (Option.some.inj e))); have HS1 := HBA1.out.size; clear hown1 hgrow1) | (refine step_append_own rfl (.tmp 38) (.tmp 42) 23 rfl w3.heap.size 34 i0 _ 5 40 Try.underlying23 hi hz0 hz1 hz2 rfl (by decide) v1 (ts.take k).length ((ts.take k).flatMap Tk.cells) rfl HO1.out ⟨bb, oo + (k + 1) * 5, none⟩ (nn - (k + 1)) (ct - (k + 1)) ((ts.drop (k + 1)).flatMap Tk.cells) rfl (by rw [cells_length, List.length_drop, HTL.out]) (Tks.cells (Tks.drop (k := k + 1) (HT3.out.below HBA1.out) rfl)) (cells_one _) (by unfold maxLen; rw [List.length_take]; omega) (by rw [List.length_take]; omega) HS1 ?_; intro v2 w15 hown2 hgrow2 _; have HBA2 := Lib.hid (show Below w3.heap.size w3 w15 from HBA1.out.grown hgrow2 HS1 (fun q e => (World.ownsRow.lt HO1.out q e).1)); have HO2 := Lib.hid (show Own w15 w3.heap.size v2 es from by rw [HES.out]; unfold Own; rw [List.length_append, List.length_drop, HTL.out, List.flatMap_append]; exact hown2); clear hown2 hgrow2))
  obtain ⟨A2, c2, rfl⟩ := HO2.out.form
  have hbb2 : bb < w15.heap.size := by have := HBA2.out.size; omega
  have C1 := Tks.get (HT3.out.below HBA2.out) HTT.out
  obtain ⟨c0, c1, c2', c3, c4⟩ := C1.2
  dsimp only at c0 c1 c2' c3 c4
  clear C1
  go_wp2_with (at_builtin; refine wpList_append_own _ rfl (.tmp 44) (.tmp 49) 23 rfl w3.heap.size 34 i0 _ 5 40 Try.underlying23 hi hz0 hz1 hz2 rfl (by decide) _ es.length (es.flatMap Tk.cells) rfl (HO2.out.alloc _) ⟨w15.heap.size, 0, none⟩ 1 1 (Tk.cells ⟨lo, hi', du, ev, cr⟩) rfl rfl (cell_new5 _ ⟨lo, hi', du, ev, cr⟩ _) (by intro u hu; exact cells_one [⟨lo, hi', du, ev, cr⟩] u (by simpa using hu)) (by unfold maxLen; omega) (by omega) (by have := HBA2.out.size; simp; omega) ?_; intro v3 w16 hown3 hgrow3 _; have HO3 := Lib.hid (show Own w16 w3.heap.size v3 us from by rw [HUS.out]; exact Own.snoc hown3); have HBA3 := Lib.hid ((bl_alloc HBA2.out _).grown hgrow3 (by have := HBA2.out.size; simp; omega) (fun k e => (World.ownsRow.lt HO2.out k e).1)); obtain ⟨A3, c3', rfl⟩ := HO3.out.form; clear hown3 hgrow3)
  refine (iRLow_is w16 A3 _ c3' us ((us.length - 1 : Nat) : Int) HO3.out.reads.2 (by omega) (own_le HO3.out) v true HRV.out).mono ?_
  rintro e w17 ⟨rfl, hb⟩
  have HBA4 := Lib.hid (bl_trans HBA3.out hb)
  have HUR := Lib.hid ((HO3.out.below hb).reads.2)
  clear hb
  go_wp2_with fail
  refine (iSetValid_any w17 A3 _ c3' us HUR.out (by omega)).mono ?_
  rintro e w18 ⟨rfl, hb⟩
  rw [HSU.out]
  have HBB := Lib.hid (bl_trans HB3.out (bl_trans HBA4.out hb))
  clear hb
  go_wp2
  go_ret
  exact ⟨rfl, HBB.out⟩

end Go.Proofs.Ytobkbbgllapcoac
