/- The walk of the law FnAdmitTask. -/
import Derived.Test.YtfjbkblodgdcnaaGreatDoorD8e
import Derived.Test.YtfjbkblodgdcnaaGreatDoorSAd
import Derived.Test.YtfjbkblodgdcnaaGreatDoorPAd
import Derived.Test.YtfjbkblodgdcnaaGreatDoorNC
import Derived.Test.YtfjbkblodgdcnaaGreatDoorNB
import Derived.Test.YtfjbkblodgdcnaaGreatDoorNA
import Derived.Deep.RegionLaw
namespace Go.Proofs.YtfjbkblodgdcnaaGreatDoor
open Go.RowKit
set_option linter.unusedVariables false

theorem iHyperOf_m (w : World) (A : Option Addr) (n c : Nat) (ts : List Tk) (m : Nat) (hm : hyperOf ts = m) (h : Tks w w.heap.size A n ts) (hn : n ≤ 1048576) :
    Calls Tryz.prog 13 #[.slice A n c] w (NumRes m w) := by subst hm; exact iHyperOf_any w A n c ts h hn

set_option maxRecDepth 100000 in
set_option maxHeartbeats 4000000 in
theorem fnAdmitTask_walk (w : World) (A : Option Addr) (n c : Nat) (f : Nat → Int) (h : Code w w.heap.size A n c f) (e0 : Addr) (he : EG w e0) :
    Calls Tryz.prog 3 #[.slice A n c] w fun e w' => e = .returned (.bool true) ∧ Below w.heap.size w w' := by
  have H := Lib.hid h
  have HE := Lib.hid he
  have hle := h.le
  have hmax := h.max
  unfold maxLen at hmax
  clear h he
  by_cases hn : 1048576 < n
  · go_enter Tryz.func3, Tryz.ntmps3
    go_wp2
    go_ret
    exact ⟨rfl, Below.refl _ _⟩
  go_enter Tryz.func3, Tryz.ntmps3
  go_wp2_with fail
  refine (dDrawAdmitTask_any _ A n c f H.out).mono ?_
  rintro e w0 ⟨At, ct, ts, lo, hi', du, ev, cr, z, rfl, hl, ho, hb⟩
  have hct := own_le ho
  obtain ⟨w1, hw1⟩ : ∃ w1, w0.alloc (.cells #[.int .i64 lo, .int .i64 hi', .int .i64 du, .int .i64 ev, .bool cr] 25) = w1 := ⟨_, rfl⟩
  have hb1 : Below w.heap.size w w1 := by rw [← hw1]; exact bl_alloc hb _
  have ho1 : Own w1 w.heap.size (.slice At ts.length ct) ts := by rw [← hw1]; exact ho.alloc _
  have bq : Blk w1 w0.heap.size 25 #[.int .i64 lo, .int .i64 hi', .int .i64 du, .int .i64 ev, .bool cr] := by rw [← hw1]; exact Blk.new w0 _ _
  have HB1 := Lib.hid hb1
  have HO := Lib.hid ho1
  have HT := Lib.hid ho1.reads.2
  have HQ1 := Lib.hid bq
  clear hb ho hb1 ho1 bq H
  have HD1 := Lib.hid (Below.refl w1.heap.size w1)
  have hs1 := HB1.out.size
  obtain ⟨b, hv⟩ : ∃ b, admB ts ⟨lo, hi', du, ev, cr⟩ z = b := ⟨_, rfl⟩
  obtain ⟨xs, hxs⟩ : ∃ xs, xs = admL ts ⟨lo, hi', du, ev, cr⟩ z := ⟨_, rfl⟩
  have HV := Lib.hid hv
  have HXS := Lib.hid hxs
  have hxl : xs.length ≤ 5 := by rw [hxs]; exact adm_len5
  clear hv hxs
  have cT1 := HQ1.out.cell
  go_wp2_with fail
  refine (iAdmit_is w1 At _ ct ts ⟨lo, hi', du, ev, cr⟩ z xs b (tks_to HT.out HD1.out) (by omega) hct e0 (HE.out.below HB1.out) HV.out HXS.out).mono ?_
  rintro e w2 ⟨Ax, cx, rfl, ho, hb⟩
  have hs2 := hb.size
  have HB2 := Lib.hid (show Below w.heap.size w w2 from bl_trans HB1.out hb)
  have HD2 := Lib.hid (show Below w1.heap.size w1 w2 from bl_trans HD1.out hb)
  have HQ2 := Lib.hid (HQ1.out.below hb HQ1.out.lt)
  have HX2 := Lib.hid (ho)
  clear hb ho
  clear cT1
  clear hw1
  have cT2 := HQ2.out.cell
  go_wp2_with fail
  refine (sAdmit_is w2 At _ ct ts ⟨lo, hi', du, ev, cr⟩ z xs b (tks_to HT.out HD2.out) (by omega) HV.out HXS.out).mono ?_
  rintro e w3 ⟨Aw, cw, rfl, ho, hb⟩
  have hs3 := hb.size
  have HB3 := Lib.hid (show Below w.heap.size w w3 from bl_trans HB2.out hb)
  have HD3 := Lib.hid (show Below w1.heap.size w1 w3 from bl_trans HD2.out hb)
  have HQ3 := Lib.hid (HQ2.out.below hb HQ2.out.lt)
  have HX3 := Lib.hid (HX2.out.below hb)
  have HW3 := Lib.hid (ho)
  clear hb ho
  clear cT2
  go_wp2_with fail
  refine (dmTasks_any w3 Ax Aw _ cx cw xs HX3.out.reads.2 HW3.out.reads.2 (by omega)).mono ?_
  rintro e w4 ⟨rfl, hb⟩
  have hs4 := hb.size
  have HB4 := Lib.hid (show Below w.heap.size w w4 from bl_trans HB3.out hb)
  have HD4 := Lib.hid (show Below w1.heap.size w1 w4 from bl_trans HD3.out hb)
  have HQ4 := Lib.hid (HQ3.out.below hb HQ3.out.lt)
  have HX4 := Lib.hid (HX3.out.below hb)
  have HW4 := Lib.hid (HW3.out.below hb)
  clear hb
  cases b
  · go_wp2_with fail
    refine (dmTasks_any w4 Ax Aw _ cx cw xs HX4.out.reads.2 HW4.out.reads.2 (by omega)).mono ?_
    rintro e w5 ⟨rfl, hb⟩
    have hs5 := hb.size
    have HB5 := Lib.hid (show Below w.heap.size w w5 from bl_trans HB4.out hb)
    have HD5 := Lib.hid (show Below w1.heap.size w1 w5 from bl_trans HD4.out hb)
    have HQ5 := Lib.hid (HQ4.out.below hb HQ4.out.lt)
    have HX5 := Lib.hid (HX4.out.below hb)
    have HW5 := Lib.hid (HW4.out.below hb)
    clear hb
    go_wp2
    go_ret
    exact ⟨rfl, HB5.out⟩
  · obtain ⟨i0, hi, hz0, hz1, hz2⟩ := info_parts info_task
    obtain ⟨f1, f2, f3, f4⟩ := adm_facts HV.out
    rw [← HXS.out] at f2 f3
    have hlx : xs.length = ts.length + 1 := by rw [f3.length_eq, List.length_append]; rfl
    obtain ⟨m, hm1⟩ : ∃ m, hyperOf xs = m := ⟨_, rfl⟩
    have hm2 : hyperOf (ts ++ [(⟨lo, hi', du, ev, cr⟩ : Tk)]) = m := by rw [← hyper_perm f3]; exact hm1
    obtain ⟨p, q, hp1⟩ : ∃ p q, highOf xs = (p, q) := ⟨_, _, rfl⟩
    have hp2 : highOf (ts ++ [(⟨lo, hi', du, ev, cr⟩ : Tk)]) = (p, q) := by rw [← highOf_perm f3 (by rw [setB_perm f3]; exact f4)]; exact hp1
    have F2 := Lib.hid f2
    have HLX := Lib.hid hlx
    have HM1 := Lib.hid hm1
    have HM2 := Lib.hid hm2
    have HP1 := Lib.hid hp1
    have HP2 := Lib.hid hp2
    clear f1 f2 f3 f4 hlx hm1 hm2 hp1 hp2
    have cT := HQ4.out.cell
    have cTA := fun (o : Obj) => (HQ4.out.alloc o).cell
    rcases HO.out.2 with ⟨eA, h0⟩ | ⟨gg, cap, cur, eA, _⟩
    · injection eA with e1 e2 e3
      subst e1 e3
      obtain rfl : ts = [] := List.eq_nil_of_length_eq_zero h0
      clear h0 e2
      go_wp2
      go_region_law (refine step_append_own rfl (.tmp 57) (.tmp 59) 23 rfl w4.heap.size 25 i0 _ 5 40 Tryz.underlying23 hi hz0 hz1 hz2 rfl (by decide) _ 0 [] rfl (by first | exact own_more (Own.empty _) (by first | exact Nat.le_refl _ | (simp; done) | (simp; omega)) | exact own_more ((Own.empty _).alloc _) (by first | exact Nat.le_refl _ | (simp; done) | (simp; omega)) | (have h := Own.empty (w4.alloc (.cells #[.int .i64 lo, .int .i64 hi', .int .i64 du, .int .i64 ev, .bool cr] 25)); simp only [World.size_alloc] at h; exact own_more h (Nat.le_succ _))) ⟨_, 0, none⟩ 1 1 (Tk.cells ⟨lo, hi', du, ev, cr⟩) rfl rfl (by first | exact cell_new5_at _ ⟨lo, hi', du, ev, cr⟩ _ _ rfl | (refine blk_cells (ty := 25) ⟨lo, hi', du, ev, cr⟩ ?_; (first | exact Blk.new _ _ _ | exact (Blk.new _ _ _).alloc _ | (have h := Blk.new (w4.alloc (.cells #[] 25)) 25 #[.int .i64 lo, .int .i64 hi', .int .i64 du, .int .i64 ev, .bool cr]; simp only [World.size_alloc] at h; exact h)))) (by intro u hu; exact cells_one [⟨lo, hi', du, ev, cr⟩] u (by simpa using hu)) (by unfold maxLen; omega) (by omega) (by first | exact Nat.le_refl _ | (simp; done) | (simp; omega)) ?_; intro v2 w5 hown2 hgrow2 _; have HB2 := Lib.hid (show Below w4.heap.size w4 w5 from (by repeat (first | exact Below.refl _ _ | with_reducible refine Below.drew ?_ | with_reducible refine bl_alloc ?_ _) : Below w4.heap.size w4 _).grown hgrow2 (by first | exact Nat.le_refl _ | (simp; done) | (simp; omega)) (fun q e => by have e2 := Option.some.inj e; simp at e2; omega)); have HO2 := Lib.hid (show Own w5 w4.heap.size v2 (([] : List Tk) ++ [⟨lo, hi', du, ev, cr⟩]) from  Own.snoc hown2); clear hown2 hgrow2)
      all_goals (
        have HB5 := Lib.hid (bl_trans HB4.out HB2.out)
        have HD5 := Lib.hid (bl_trans HD4.out HB2.out)
        have HX5 := Lib.hid (HX4.out.below HB2.out)
        obtain ⟨all, hall⟩ : ∃ all, all = ([] : List Tk) ++ [(⟨lo, hi', du, ev, cr⟩ : Tk)] := ⟨_, rfl⟩
        rw [← hall] at HO2 HM2 HP2
        have hal : all.length ≤ 100 := by rw [hall, List.length_append]; simp only [List.length_cons, List.length_nil]; omega
        obtain ⟨Ay, cy, rfl⟩ := HO2.out.form
        have HY5 := Lib.hid HO2.out
        clear hall cT cTA
        (try clear cT4)
        have hw : IntKind.i64.wrap ((([] : List Tk).length : Int) + 1) = (([] : List Tk).length : Int) + 1 := IntWalk.i64_in _ (by omega)
        have hle1 : ((xs.length : Int) == 1) = true := by have := HLX.out; rw [beq_iff_eq]; simp at this; omega
        have hle : ((xs.length : Int) == (([] : List Tk).length : Int) + 1) = true := by have := HLX.out; rw [beq_iff_eq]; omega
        go_wp2_with fail
        refine (iHoldsBy_is w5 Ax _ cx xs z HX5.out.reads.2 (by omega) (own_le HX5.out) e0 (HE.out.below HB5.out) true F2.out).mono ?_
        rintro e w6 ⟨rfl, hb⟩
        have hs6 := hb.size
        have HB6 := Lib.hid (show Below w.heap.size w w6 from bl_trans HB5.out hb)
        have HD6 := Lib.hid (show Below w1.heap.size w1 w6 from bl_trans HD5.out hb)
        have HX6 := Lib.hid (HX5.out.below hb)
        have HY6 := Lib.hid (HY5.out.below hb)
        clear hb
        go_wp2_with fail
        refine (iHyperOf_m w6 Ax _ cx xs m HM1.out HX6.out.reads.2 (by omega)).mono ?_
        rintro e w7 ⟨rfl, hb⟩
        have hs7 := hb.size
        have HB7 := Lib.hid (show Below w.heap.size w w7 from bl_trans HB6.out hb)
        have HD7 := Lib.hid (show Below w1.heap.size w1 w7 from bl_trans HD6.out hb)
        have HX7 := Lib.hid (HX6.out.below hb)
        have HY7 := Lib.hid (HY6.out.below hb)
        clear hb
        go_wp2_with fail
        refine (iHyperOf_m w7 Ay _ cy all m HM2.out HY7.out.reads.2 (by omega)).mono ?_
        rintro e w8 ⟨rfl, hb⟩
        have hs8 := hb.size
        have HB8 := Lib.hid (show Below w.heap.size w w8 from bl_trans HB7.out hb)
        have HD8 := Lib.hid (show Below w1.heap.size w1 w8 from bl_trans HD7.out hb)
        have HX8 := Lib.hid (HX7.out.below hb)
        have HY8 := Lib.hid (HY7.out.below hb)
        clear hb
        go_wp2_with fail
        refine (iHigh_is w8 Ax _ cx xs HX8.out.reads.2 (by omega) e0 (HE.out.below HB8.out) p q HP1.out).mono ?_
        rintro e w9 ⟨rfl, hb⟩
        have hs9 := hb.size
        have HB9 := Lib.hid (show Below w.heap.size w w9 from bl_trans HB8.out hb)
        have HD9 := Lib.hid (show Below w1.heap.size w1 w9 from bl_trans HD8.out hb)
        have HX9 := Lib.hid (HX8.out.below hb)
        have HY9 := Lib.hid (HY8.out.below hb)
        clear hb
        go_wp2_with fail
        refine (iHigh_is w9 Ay _ cy all HY9.out.reads.2 (by omega) e0 (HE.out.below HB9.out) p q HP2.out).mono ?_
        rintro e w10 ⟨rfl, hb⟩
        have hs10 := hb.size
        have HB10 := Lib.hid (show Below w.heap.size w w10 from bl_trans HB9.out hb)
        have HD10 := Lib.hid (show Below w1.heap.size w1 w10 from bl_trans HD9.out hb)
        have HX10 := Lib.hid (HX9.out.below hb)
        have HY10 := Lib.hid (HY9.out.below hb)
        clear hb
        go_wp2
        go_ret
        exact ⟨rfl, HB10.out⟩)
    · injection eA with e1 e2 e3
      subst e1 e3
      clear e2
      have hnews : ∀ (W : World), Below w4.heap.size w4 W → ∀ j u, (ts.flatMap Tk.cells)[j]? = some u → W.cell? ((⟨gg, 0, none⟩ : Addr).add j) = some u := fun W hW j u hu => Tks.cells ((tks_to HT.out HD4.out).below hW) j u hu
      have HCE := Lib.hid hnews
      clear hnews
      go_wp2
      go_region_law (first | (refine step_append_own rfl (.tmp 55) (.tmp 56) 23 rfl w4.heap.size 25 i0 _ 5 40 Tryz.underlying23 hi hz0 hz1 hz2 rfl (by decide) _ 0 [] rfl (by first | exact own_more (Own.empty _) (by first | exact Nat.le_refl _ | (simp; done) | (simp; omega)) | exact own_more ((Own.empty _).alloc _) (by first | exact Nat.le_refl _ | (simp; done) | (simp; omega)) | (have h := Own.empty (w4.alloc (.cells #[.int .i64 lo, .int .i64 hi', .int .i64 du, .int .i64 ev, .bool cr] 25)); simp only [World.size_alloc] at h; exact own_more h (Nat.le_succ _))) ⟨gg, 0, none⟩ ts.length ct (ts.flatMap Tk.cells) rfl (by rw [cells_length]) (HCE.out _ (by repeat (first | exact Below.refl _ _ | with_reducible refine Below.drew ?_ | with_reducible refine bl_alloc ?_ _))) (cells_one _) (by unfold maxLen; omega) (by omega) (by first | exact Nat.le_refl _ | (simp; done) | (simp; omega)) ?_; intro v1 wp4 hown1 hgrow1 _; have HO1 := Lib.hid (show Own wp4 w4.heap.size v1 ts from by unfold Own; simpa using hown1); have HB1 := Lib.hid (show Below w4.heap.size w4 wp4 from (by repeat (first | exact Below.refl _ _ | with_reducible refine Below.drew ?_ | with_reducible refine bl_alloc ?_ _) : Below w4.heap.size w4 _).grown hgrow1 (by first | exact Nat.le_refl _ | (simp; done) | (simp; omega)) (fun q e => by have e2 := Option.some.inj e; simp at e2; omega)); have HNX := Lib.hid (fun (X : Nat) hX hne => Blk.grown (g := X) (t := 25) (cs := #[.int .i64 lo, .int .i64 hi', .int .i64 du, .int .i64 ev, .bool cr]) hX hgrow1 hne); have HS1 := HB1.out.size; have cT4 := (HQ4.out.below HB1.out HQ4.out.lt).cell; clear hown1 hgrow1) | (refine step_append_own rfl (.tmp 57) (.tmp 59) 23 rfl w4.heap.size 25 i0 _ 5 40 Tryz.underlying23 hi hz0 hz1 hz2 rfl (by decide) v1 ts.length (ts.flatMap Tk.cells) rfl (by first | exact HO1.out | exact HO1.out.alloc _) ⟨_, 0, none⟩ 1 1 (Tk.cells ⟨lo, hi', du, ev, cr⟩) rfl rfl (by first | exact cell_new5_at _ ⟨lo, hi', du, ev, cr⟩ _ _ rfl | (refine blk_cells (ty := 25) ⟨lo, hi', du, ev, cr⟩ (HNX.out _ ?_ ?_); (first | exact Blk.new _ _ _ | exact (Blk.new _ _ _).alloc _ | (have h := Blk.new (w4.alloc (.cells #[] 25)) 25 #[.int .i64 lo, .int .i64 hi', .int .i64 du, .int .i64 ev, .bool cr]; simp only [World.size_alloc] at h; exact h)); (intro e; have e2 := Option.some.inj e; simp at e2; try omega))) (by intro u hu; exact cells_one [⟨lo, hi', du, ev, cr⟩] u (by simpa using hu)) (by unfold maxLen; omega) (by omega) (by first | exact HS1 | (simp; omega)) ?_; intro v2 w5 hown2 hgrow2 _; have HB2 := Lib.hid (show Below w4.heap.size w4 w5 from (by first | exact HB1.out | exact bl_alloc HB1.out _ : Below w4.heap.size w4 _).grown hgrow2 (by first | exact HS1 | (simp; omega)) (fun q e => (World.ownsRow.lt HO1.out q e).1)); have HO2 := Lib.hid (show Own w5 w4.heap.size v2 (ts ++ [⟨lo, hi', du, ev, cr⟩]) from Own.snoc hown2); clear hown2 hgrow2))
      all_goals (
        have HB5 := Lib.hid (bl_trans HB4.out HB2.out)
        have HD5 := Lib.hid (bl_trans HD4.out HB2.out)
        have HX5 := Lib.hid (HX4.out.below HB2.out)
        obtain ⟨all, hall⟩ : ∃ all, all = ts ++ [(⟨lo, hi', du, ev, cr⟩ : Tk)] := ⟨_, rfl⟩
        rw [← hall] at HO2 HM2 HP2
        have hal : all.length ≤ 100 := by rw [hall, List.length_append]; simp only [List.length_cons, List.length_nil]; omega
        obtain ⟨Ay, cy, rfl⟩ := HO2.out.form
        have HY5 := Lib.hid HO2.out
        clear hall cT cTA
        (try clear cT4)
        have hw : IntKind.i64.wrap ((ts.length : Int) + 1) = (ts.length : Int) + 1 := IntWalk.i64_in _ (by omega)
        have hle : ((xs.length : Int) == (ts.length : Int) + 1) = true := by have := HLX.out; rw [beq_iff_eq]; omega
        go_wp2_with fail
        refine (iHoldsBy_is w5 Ax _ cx xs z HX5.out.reads.2 (by omega) (own_le HX5.out) e0 (HE.out.below HB5.out) true F2.out).mono ?_
        rintro e w6 ⟨rfl, hb⟩
        have hs6 := hb.size
        have HB6 := Lib.hid (show Below w.heap.size w w6 from bl_trans HB5.out hb)
        have HD6 := Lib.hid (show Below w1.heap.size w1 w6 from bl_trans HD5.out hb)
        have HX6 := Lib.hid (HX5.out.below hb)
        have HY6 := Lib.hid (HY5.out.below hb)
        clear hb
        go_wp2_with fail
        refine (iHyperOf_m w6 Ax _ cx xs m HM1.out HX6.out.reads.2 (by omega)).mono ?_
        rintro e w7 ⟨rfl, hb⟩
        have hs7 := hb.size
        have HB7 := Lib.hid (show Below w.heap.size w w7 from bl_trans HB6.out hb)
        have HD7 := Lib.hid (show Below w1.heap.size w1 w7 from bl_trans HD6.out hb)
        have HX7 := Lib.hid (HX6.out.below hb)
        have HY7 := Lib.hid (HY6.out.below hb)
        clear hb
        go_wp2_with fail
        refine (iHyperOf_m w7 Ay _ cy all m HM2.out HY7.out.reads.2 (by omega)).mono ?_
        rintro e w8 ⟨rfl, hb⟩
        have hs8 := hb.size
        have HB8 := Lib.hid (show Below w.heap.size w w8 from bl_trans HB7.out hb)
        have HD8 := Lib.hid (show Below w1.heap.size w1 w8 from bl_trans HD7.out hb)
        have HX8 := Lib.hid (HX7.out.below hb)
        have HY8 := Lib.hid (HY7.out.below hb)
        clear hb
        go_wp2_with fail
        refine (iHigh_is w8 Ax _ cx xs HX8.out.reads.2 (by omega) e0 (HE.out.below HB8.out) p q HP1.out).mono ?_
        rintro e w9 ⟨rfl, hb⟩
        have hs9 := hb.size
        have HB9 := Lib.hid (show Below w.heap.size w w9 from bl_trans HB8.out hb)
        have HD9 := Lib.hid (show Below w1.heap.size w1 w9 from bl_trans HD8.out hb)
        have HX9 := Lib.hid (HX8.out.below hb)
        have HY9 := Lib.hid (HY8.out.below hb)
        clear hb
        go_wp2_with fail
        refine (iHigh_is w9 Ay _ cy all HY9.out.reads.2 (by omega) e0 (HE.out.below HB9.out) p q HP2.out).mono ?_
        rintro e w10 ⟨rfl, hb⟩
        have hs10 := hb.size
        have HB10 := Lib.hid (show Below w.heap.size w w10 from bl_trans HB9.out hb)
        have HD10 := Lib.hid (show Below w1.heap.size w1 w10 from bl_trans HD9.out hb)
        have HX10 := Lib.hid (HX9.out.below hb)
        have HY10 := Lib.hid (HY9.out.below hb)
        clear hb
        go_wp2
        go_ret
        exact ⟨rfl, HB10.out⟩)

end Go.Proofs.YtfjbkblodgdcnaaGreatDoor
