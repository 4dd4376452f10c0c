import Derived.Deep.RegionLaw
import Derived.Maps.AppendAt
import Derived.Test.YtgponahmkjohiabGreatDoorT1Pk19
import Derived.Test.YtgponahmkjohiabGreatDoorT1Pk20
namespace Go.Proofs.YtgponahmkjohiabGreatDoor
open Go.RowKit
set_option linter.unusedVariables false
theorem blk_cells {w : World} {X : Nat} {ty : TypeId} (t : Tk) (h : Blk w X ty #[.int .i64 t.lo, .int .i64 t.hi, .int .i64 t.du, .int .i64 t.ev, .bool t.cr]) : ∀ j u, t.cells[j]? = some u → w.cell? ((⟨X, 0, none⟩ : Addr).add j) = some u := by
  intro j u hj
  have ea : (⟨X, 0, none⟩ : Addr).add j = ⟨X, j, none⟩ := by unfold Addr.add; split <;> simp_all
  rw [ea, h.cell j, ← hj]
  simp [Tk.cells]
set_option maxRecDepth 100000 in
set_option maxHeartbeats 4000000 in
theorem sAdmit_is (w : World) (A : Option Addr) (n c : Nat) (ts : List Tk) (t : Tk) (pol : Int) (us : List Tk) (b : Bool) (h : Tks w w.heap.size A n ts) (hn : n ≤ 1048576) (hb : admB ts t pol = b) (hu : us = admL ts t pol) :
    Calls Tryz.prog 144 #[.slice A n c, .agg #[.int .i64 t.lo, .int .i64 t.hi, .int .i64 t.du, .int .i64 t.ev, .bool t.cr], .int .i64 pol] w (LsRes2 us b w) := by
  obtain ⟨i0, hi, hz0, hz1, hz2⟩ := info_parts info_task
  have H := Lib.hid h
  have HL := Lib.hid h.len
  have HBB := Lib.hid hb
  have HU := Lib.hid hu
  clear h hb hu
  obtain ⟨lo, hi', du, ev, cr⟩ := t
  dsimp only
  obtain ⟨W0, hW0⟩ : ∃ W0, w.alloc (.cells #[.int .i64 lo, .int .i64 hi', .int .i64 du, .int .i64 ev, .bool cr] 43) = W0 := ⟨_, rfl⟩
  have HW0 := Lib.hid hW0
  have hb0 : Below w.heap.size w W0 := by rw [← hW0]; exact bl_alloc (Below.refl _ _) _
  have hs0 : W0.heap.size = w.heap.size + 1 := by rw [← hW0]; simp
  have bT : Blk W0 w.heap.size 43 #[.int .i64 lo, .int .i64 hi', .int .i64 du, .int .i64 ev, .bool cr] := by rw [← hW0]; exact Blk.new w _ _
  have HB0 := Lib.hid hb0
  have BT := Lib.hid bT
  have HS0 := Lib.hid hs0
  clear hb0 bT hs0
  rcases A with _ | aa
  · have hts : ts = [] := by
      rcases ts with _ | ⟨j, js⟩
      · rfl
      · obtain ⟨b', o', e, _⟩ := H.out.at_ 0 j rfl
        cases e
    have hn0 : n = 0 := by rw [← HL.out, hts]; rfl
    subst hn0
    have HTS := Lib.hid hts
    clear hts
    go_enter Tryz.func144, Tryz.ntmps144
    go_wp2
    clear hW0 HW0
    have cT := BT.out.cell
    have cTA := fun (o : Obj) => (BT.out.alloc o).cell
    go_region_law (refine step_append_own rfl (.tmp 13) (.tmp 15) 23 rfl W0.heap.size 43 i0 _ 5 40 Tryz.underlying23 hi hz0 hz1 hz2 rfl (by decide) _ 0 [] rfl (by first | exact own_more (Own.empty _) (by first | exact Nat.le_refl _ | (simp; done) | (simp; omega)) | exact own_more ((Own.empty _).alloc _) (by first | exact Nat.le_refl _ | (simp; done) | (simp; omega)) | (have h := Own.empty (W0.alloc (.cells #[.int .i64 lo, .int .i64 hi', .int .i64 du, .int .i64 ev, .bool cr] 43)); simp only [World.size_alloc] at h; exact own_more h (Nat.le_succ _))) ⟨_, 0, none⟩ 1 1 (Tk.cells ⟨lo, hi', du, ev, cr⟩) rfl rfl (by first | exact cell_new5_at _ ⟨lo, hi', du, ev, cr⟩ _ _ rfl | (refine blk_cells (ty := 43) ⟨lo, hi', du, ev, cr⟩ ?_; (first | exact Blk.new _ _ _ | exact (Blk.new _ _ _).alloc _ | (have h := Blk.new (W0.alloc (.cells #[] 43)) 43 #[.int .i64 lo, .int .i64 hi', .int .i64 du, .int .i64 ev, .bool cr]; simp only [World.size_alloc] at h; exact h)))) (by intro u hu; exact cells_one [⟨lo, hi', du, ev, cr⟩] u (by simpa using hu)) (by unfold maxLen; omega) (by omega) (by first | exact Nat.le_refl _ | (simp; done) | (simp; omega)) ?_; intro v2 w5 hown2 hgrow2 _; have HB2 := Lib.hid (show Below W0.heap.size W0 w5 from (by repeat (first | exact Below.refl _ _ | with_reducible refine Below.drew ?_ | with_reducible refine bl_alloc ?_ _) : Below W0.heap.size W0 _).grown hgrow2 (by first | exact Nat.le_refl _ | (simp; done) | (simp; omega)) (fun q e => by have e2 := Option.some.inj e; simp at e2; omega)); have HO2 := Lib.hid (show Own w5 W0.heap.size v2 (ts ++ [⟨lo, hi', du, ev, cr⟩]) from by rw [HTS.out]; exact Own.snoc hown2); clear hown2 hgrow2)
    all_goals (
      obtain ⟨all, hall⟩ : ∃ all, all = ts ++ [(⟨lo, hi', du, ev, cr⟩ : Tk)] := ⟨_, rfl⟩
      rw [← hall] at HO2
      obtain ⟨Ax, cx, rfl⟩ := HO2.out.form
      have HALL := Lib.hid hall
      have hal : all.length = 0 + 1 := by rw [hall, List.length_append, HL.out]; rfl
      have HAL := Lib.hid hal
      have HB5 := Lib.hid (show Below w.heap.size w w5 from HB0.out.trans (HB2.out.mono HB0.out.size))
      have HBX := HB5
      clear hall hal cT cTA
      have hbb := HBB.out
      have huu := HU.out
      cases hh : hBy ts pol
      · obtain rfl : b = false := by rw [← hbb]; exact adm_no hh
        obtain rfl : us = [] := by rw [huu]; exact adm_nil hbb
        have HH := Lib.hid hh
        clear hbb huu hh HBX
        go_wp2_with (go_at_call 29; refine (sHoldsBy_is w5 _ 0 c ts pol ((H.out.below HB5.out).more HB5.out.size) hn false HH.out).mono ?_; rintro e w6 ⟨rfl, hb6⟩; have HBX := Lib.hid (bl_trans HB5.out hb6); clear hb6)
        go_ret2
        exact ⟨_, _, rfl, own_more (Own.empty _) HBX.out.size, bl_alloc HBX.out _⟩
      have HH := Lib.hid hh
      have hpol := hBy_pol hh
      have h5n : (0 : Nat) ≤ 5 := by have := setB_len (hBy_set hh); rw [HL.out] at this; exact this
      cases hs : setB all
      · obtain rfl : b = false := by rw [← hbb]; exact adm_bad (by rw [← HALL.out]; exact hs)
        obtain rfl : us = [] := by rw [huu]; exact adm_nil hbb
        have HS := Lib.hid hs
        clear hbb huu hh hs hpol HBX
        go_wp2_with (first
          | (go_at_call 29; refine (sHoldsBy_is w5 _ 0 c ts pol ((H.out.below HB5.out).more HB5.out.size) hn true HH.out).mono ?_; rintro e w6 ⟨rfl, hb6⟩; have HB6 := Lib.hid (bl_trans HB5.out hb6); have HO6 := Lib.hid (HO2.out.below hb6); clear hb6)
          | (go_at_call 99; refine (sSetValid_any w6 Ax _ cx all HO6.out.reads.2 (by have := HAL.out; omega)).mono ?_; rintro e w7 ⟨rfl, hb7⟩; rw [HS.out]; have HBX := Lib.hid (bl_trans HB6.out hb7); clear hb7))
        go_ret2
        exact ⟨_, _, rfl, own_more (Own.empty _) HBX.out.size, bl_alloc HBX.out _⟩
      have HS := Lib.hid hs
      rcases hpol with rfl | rfl
      · cases ho : assignOf all with
        | none =>
          obtain ⟨hbf, huf⟩ := adm_place_none (t := ⟨lo, hi', du, ev, cr⟩) hh (by rw [← HALL.out]; exact ho)
          obtain rfl : b = false := by rw [← hbb]; exact hbf
          obtain rfl : us = [] := by rw [huu]; exact huf
          have HOO := Lib.hid ho
          clear hbb huu hh hs ho hbf huf HBX
          go_wp2_with (first
            | (go_at_call 29; refine (sHoldsBy_is w5 _ 0 c ts 0 ((H.out.below HB5.out).more HB5.out.size) hn true HH.out).mono ?_; rintro e w6 ⟨rfl, hb6⟩; have HB6 := Lib.hid (bl_trans HB5.out hb6); have HO6 := Lib.hid (HO2.out.below hb6); clear hb6)
            | (go_at_call 99; refine (sSetValid_any w6 Ax _ cx all HO6.out.reads.2 (by have := HAL.out; omega)).mono ?_; rintro e w7 ⟨rfl, hb7⟩; rw [HS.out]; have HB7 := Lib.hid (bl_trans HB6.out hb7); have HO7 := Lib.hid (HO6.out.below hb7); clear hb7)
            | (go_at_call 156; refine (sAssign_is w7 Ax _ cx all HO7.out.reads.2 (by have := HAL.out; omega) none HOO.out).mono ?_; rintro e w8 ⟨A8, c8, rfl, ho8, hb8⟩; have HBX := Lib.hid (bl_trans HB7.out hb8); clear hb8 ho8))
          go_ret2
          exact ⟨_, _, rfl, own_more (Own.empty _) HBX.out.size, bl_alloc HBX.out _⟩
        | some o =>
          obtain ⟨hbf, huf⟩ := adm_place_some (t := ⟨lo, hi', du, ev, cr⟩) hh (by rw [← HALL.out]; exact ho)
          obtain rfl : b = true := by rw [← hbb]; exact hbf
          obtain rfl : us = putN all o := by rw [huu, HALL.out]; exact huf
          obtain ⟨_, hper, _⟩ := assign_some ho
          have HIN : Hid (InL all o) := Lib.hid (fun i hi => List.mem_range.1 (hper.mem_iff.1 hi))
          have hol : o.length ≤ 100 := by rw [hper.length_eq, List.length_range]; have := setB_len hs; omega
          have HOO := Lib.hid ho
          clear hbb huu hh hs ho hbf huf hper HBX
          go_wp2_with (first
            | (go_at_call 29; refine (sHoldsBy_is w5 _ 0 c ts 0 ((H.out.below HB5.out).more HB5.out.size) hn true HH.out).mono ?_; rintro e w6 ⟨rfl, hb6⟩; have HB6 := Lib.hid (bl_trans HB5.out hb6); have HO6 := Lib.hid (HO2.out.below hb6); clear hb6)
            | (go_at_call 99; refine (sSetValid_any w6 Ax _ cx all HO6.out.reads.2 (by have := HAL.out; omega)).mono ?_; rintro e w7 ⟨rfl, hb7⟩; rw [HS.out]; have HB7 := Lib.hid (bl_trans HB6.out hb7); have HO7 := Lib.hid (HO6.out.below hb7); clear hb7)
            | (go_at_call 156; refine (sAssign_is w7 Ax _ cx all HO7.out.reads.2 (by have := HAL.out; omega) (some o) HOO.out).mono ?_; rintro e w8 ⟨A8, c8, rfl, ho8, hb8⟩; have HB8 := Lib.hid (bl_trans HB7.out hb8); have HO8 := Lib.hid (HO7.out.below hb8); have HZ8 := Lib.hid (show Zs w8 w8.heap.size A8 _ (toZ o) from ho8.reads); clear hb8 ho8)
            | (go_at_call 157; refine (sPut_is w8 Ax _ cx all A8 _ c8 o HO8.out.reads.2 HZ8.out HIN.out hol).mono ?_; rintro e w9 ⟨A9, c9, rfl, ho9, hb9⟩; have HB9 := Lib.hid (bl_trans HB8.out hb9); have HO9 := Lib.hid (own_more ho9 HB8.out.size); clear hb9 ho9))
          go_ret2
          exact ⟨A9, c9, rfl, HO9.out, HB9.out⟩
      · obtain ⟨r, hr⟩ : ∃ r, virtV all = r := ⟨_, rfl⟩
        have HR := Lib.hid hr
        have hbr : b = r := by rw [← hbb, ← hr, HALL.out]; exact adm_due hh (by decide)
        subst hbr
        have huu2 : us = if b then all else [] := by
          cases b
          · rw [huu]; exact adm_nil hbb
          · rw [huu]
            have hb2 : hBy (ts ++ [(⟨lo, hi', du, ev, cr⟩ : Tk)]) 1 = true := by rw [← HALL.out]; exact hr
            rw [(adm_due_some hh (by decide) hb2).2, ← HALL.out]; rfl
        clear hbb huu hh hs hr HBX
        cases b
        · obtain rfl : us = [] := huu2
          go_wp2_with (first
            | (go_at_call 29; refine (sHoldsBy_is w5 _ 0 c ts 1 ((H.out.below HB5.out).more HB5.out.size) hn true HH.out).mono ?_; rintro e w6 ⟨rfl, hb6⟩; have HB6 := Lib.hid (bl_trans HB5.out hb6); have HO6 := Lib.hid (HO2.out.below hb6); clear hb6)
            | (go_at_call 99; refine (sSetValid_any w6 Ax _ cx all HO6.out.reads.2 (by have := HAL.out; omega)).mono ?_; rintro e w7 ⟨rfl, hb7⟩; rw [HS.out]; have HB7 := Lib.hid (bl_trans HB6.out hb7); have HO7 := Lib.hid (HO6.out.below hb7); clear hb7)
            | (go_at_call 75; refine (sVirt_is w7 Ax _ cx all HO7.out.reads.2 (by have := HAL.out; omega) false HR.out).mono ?_; rintro e w8 ⟨rfl, hb8⟩; have HBX := Lib.hid (bl_trans HB7.out hb8); clear hb8))
          go_ret2
          exact ⟨_, _, rfl, own_more (Own.empty _) HBX.out.size, bl_alloc HBX.out _⟩
        · obtain rfl : us = all := huu2
          go_wp2_with (first
            | (go_at_call 29; refine (sHoldsBy_is w5 _ 0 c ts 1 ((H.out.below HB5.out).more HB5.out.size) hn true HH.out).mono ?_; rintro e w6 ⟨rfl, hb6⟩; have HB6 := Lib.hid (bl_trans HB5.out hb6); have HO6 := Lib.hid (HO2.out.below hb6); clear hb6)
            | (go_at_call 99; refine (sSetValid_any w6 Ax _ cx us HO6.out.reads.2 (by have := HAL.out; omega)).mono ?_; rintro e w7 ⟨rfl, hb7⟩; rw [HS.out]; have HB7 := Lib.hid (bl_trans HB6.out hb7); have HO7 := Lib.hid (HO6.out.below hb7); clear hb7)
            | (go_at_call 75; refine (sVirt_is w7 Ax _ cx us HO7.out.reads.2 (by have := HAL.out; omega) true HR.out).mono ?_; rintro e w8 ⟨rfl, hb8⟩; have HB8 := Lib.hid (bl_trans HB7.out hb8); have HO8 := Lib.hid (HO7.out.below hb8); clear hb8))
          go_ret2
          exact ⟨Ax, cx, rfl, own_more HO8.out HB0.out.size, HB8.out⟩)
  have hnews : ∀ (W : World), Below w.heap.size w W → ∀ j u, (ts.flatMap Tk.cells)[j]? = some u → W.cell? (aa.add j) = some u := by
    intro W hW j u hu
    rcases ts with _ | ⟨j0, js0⟩
    · simp at hu
    · obtain ⟨b', o', e, _⟩ := H.out.at_ 0 j0 rfl
      injection e with e
      subst e
      exact Tks.cells (H.out.below hW) j u hu
  have HCE := Lib.hid hnews
  clear hnews
  go_enter Tryz.func144, Tryz.ntmps144
  go_wp2
  clear hW0 HW0
  have cT := BT.out.cell
  have cTA := fun (o : Obj) => (BT.out.alloc o).cell
  go_region_law (first | (refine step_append_own rfl (.tmp 11) (.tmp 12) 23 rfl W0.heap.size 43 i0 _ 5 40 Tryz.underlying23 hi hz0 hz1 hz2 rfl (by decide) _ 0 [] rfl (by first | exact own_more (Own.empty _) (by first | exact Nat.le_refl _ | (simp; done) | (simp; omega)) | exact own_more ((Own.empty _).alloc _) (by first | exact Nat.le_refl _ | (simp; done) | (simp; omega)) | (have h := Own.empty (W0.alloc (.cells #[.int .i64 lo, .int .i64 hi', .int .i64 du, .int .i64 ev, .bool cr] 43)); simp only [World.size_alloc] at h; exact own_more h (Nat.le_succ _))) aa n c (ts.flatMap Tk.cells) rfl (by rw [cells_length, HL.out]) (HCE.out _ (by repeat (first | exact HB0.out | with_reducible refine Below.drew ?_ | with_reducible refine bl_alloc ?_ _))) (cells_one _) (by unfold maxLen; omega) (by omega) (by first | exact Nat.le_refl _ | (simp; done) | (simp; omega)) ?_; intro v1 w4 hown1 hgrow1 _; have HO1 := Lib.hid (show Own w4 W0.heap.size v1 ts from by unfold Own; rw [HL.out]; simpa using hown1); have HB1 := Lib.hid (show Below W0.heap.size W0 w4 from (by repeat (first | exact Below.refl _ _ | with_reducible refine Below.drew ?_ | with_reducible refine bl_alloc ?_ _) : Below W0.heap.size W0 _).grown hgrow1 (by first | exact Nat.le_refl _ | (simp; done) | (simp; omega)) (fun q e => by have e2 := Option.some.inj e; simp at e2; omega)); have HNX := Lib.hid (fun (X : Nat) hX hne => Blk.grown (g := X) (t := 43) (cs := #[.int .i64 lo, .int .i64 hi', .int .i64 du, .int .i64 ev, .bool cr]) hX hgrow1 hne); have HS1 := HB1.out.size; have cT4 := (BT.out.below HB1.out (by have := HS0.out; omega)).cell; clear hown1 hgrow1) | (refine step_append_own rfl (.tmp 13) (.tmp 15) 23 rfl W0.heap.size 43 i0 _ 5 40 Tryz.underlying23 hi hz0 hz1 hz2 rfl (by decide) v1 ts.length (ts.flatMap Tk.cells) rfl (by first | exact HO1.out | exact HO1.out.alloc _) ⟨_, 0, none⟩ 1 1 (Tk.cells ⟨lo, hi', du, ev, cr⟩) rfl rfl (by first | exact cell_new5_at _ ⟨lo, hi', du, ev, cr⟩ _ _ rfl | (refine blk_cells (ty := 43) ⟨lo, hi', du, ev, cr⟩ (HNX.out _ ?_ ?_); (first | exact Blk.new _ _ _ | exact (Blk.new _ _ _).alloc _ | (have h := Blk.new (W0.alloc (.cells #[] 43)) 43 #[.int .i64 lo, .int .i64 hi', .int .i64 du, .int .i64 ev, .bool cr]; simp only [World.size_alloc] at h; exact h)); (intro e; have e2 := Option.some.inj e; simp at e2; try omega))) (by intro u hu; exact cells_one [⟨lo, hi', du, ev, cr⟩] u (by simpa using hu)) (by have := HL.out; unfold maxLen; omega) (by have := HL.out; omega) (by first | exact HS1 | (simp; omega)) ?_; intro v2 w5 hown2 hgrow2 _; have HB2 := Lib.hid (show Below W0.heap.size W0 w5 from (by first | exact HB1.out | exact bl_alloc HB1.out _ : Below W0.heap.size W0 _).grown hgrow2 (by first | exact HS1 | (simp; omega)) (fun q e => (World.ownsRow.lt HO1.out q e).1)); have HO2 := Lib.hid (show Own w5 W0.heap.size v2 (ts ++ [⟨lo, hi', du, ev, cr⟩]) from Own.snoc hown2); clear hown2 hgrow2))
  all_goals (
    obtain ⟨all, hall⟩ : ∃ all, all = ts ++ [(⟨lo, hi', du, ev, cr⟩ : Tk)] := ⟨_, rfl⟩
    rw [← hall] at HO2
    obtain ⟨Ax, cx, rfl⟩ := HO2.out.form
    have HALL := Lib.hid hall
    have hal : all.length = n + 1 := by rw [hall, List.length_append, HL.out]; rfl
    have HAL := Lib.hid hal
    have HB5 := Lib.hid (show Below w.heap.size w w5 from HB0.out.trans (HB2.out.mono HB0.out.size))
    have HBX := HB5
    clear hall hal cT cTA HNX
    (try clear cT4)
    have hbb := HBB.out
    have huu := HU.out
    cases hh : hBy ts pol
    · obtain rfl : b = false := by rw [← hbb]; exact adm_no hh
      obtain rfl : us = [] := by rw [huu]; exact adm_nil hbb
      have HH := Lib.hid hh
      clear hbb huu hh HBX
      go_wp2_with (go_at_call 29; refine (sHoldsBy_is w5 _ n c ts pol ((H.out.below HB5.out).more HB5.out.size) hn false HH.out).mono ?_; rintro e w6 ⟨rfl, hb6⟩; have HBX := Lib.hid (bl_trans HB5.out hb6); clear hb6)
      go_ret2
      exact ⟨_, _, rfl, own_more (Own.empty _) HBX.out.size, bl_alloc HBX.out _⟩
    have HH := Lib.hid hh
    have hpol := hBy_pol hh
    have h5n : n ≤ 5 := by have := setB_len (hBy_set hh); rw [HL.out] at this; exact this
    cases hs : setB all
    · obtain rfl : b = false := by rw [← hbb]; exact adm_bad (by rw [← HALL.out]; exact hs)
      obtain rfl : us = [] := by rw [huu]; exact adm_nil hbb
      have HS := Lib.hid hs
      clear hbb huu hh hs hpol HBX
      go_wp2_with (first
        | (go_at_call 29; refine (sHoldsBy_is w5 _ n c ts pol ((H.out.below HB5.out).more HB5.out.size) hn true HH.out).mono ?_; rintro e w6 ⟨rfl, hb6⟩; have HB6 := Lib.hid (bl_trans HB5.out hb6); have HO6 := Lib.hid (HO2.out.below hb6); clear hb6)
        | (go_at_call 99; refine (sSetValid_any w6 Ax _ cx all HO6.out.reads.2 (by have := HAL.out; omega)).mono ?_; rintro e w7 ⟨rfl, hb7⟩; rw [HS.out]; have HBX := Lib.hid (bl_trans HB6.out hb7); clear hb7))
      go_ret2
      exact ⟨_, _, rfl, own_more (Own.empty _) HBX.out.size, bl_alloc HBX.out _⟩
    have HS := Lib.hid hs
    rcases hpol with rfl | rfl
    · cases ho : assignOf all with
      | none =>
        obtain ⟨hbf, huf⟩ := adm_place_none (t := ⟨lo, hi', du, ev, cr⟩) hh (by rw [← HALL.out]; exact ho)
        obtain rfl : b = false := by rw [← hbb]; exact hbf
        obtain rfl : us = [] := by rw [huu]; exact huf
        have HOO := Lib.hid ho
        clear hbb huu hh hs ho hbf huf HBX
        go_wp2_with (first
          | (go_at_call 29; refine (sHoldsBy_is w5 _ n c ts 0 ((H.out.below HB5.out).more HB5.out.size) hn true HH.out).mono ?_; rintro e w6 ⟨rfl, hb6⟩; have HB6 := Lib.hid (bl_trans HB5.out hb6); have HO6 := Lib.hid (HO2.out.below hb6); clear hb6)
          | (go_at_call 99; refine (sSetValid_any w6 Ax _ cx all HO6.out.reads.2 (by have := HAL.out; omega)).mono ?_; rintro e w7 ⟨rfl, hb7⟩; rw [HS.out]; have HB7 := Lib.hid (bl_trans HB6.out hb7); have HO7 := Lib.hid (HO6.out.below hb7); clear hb7)
          | (go_at_call 156; refine (sAssign_is w7 Ax _ cx all HO7.out.reads.2 (by have := HAL.out; omega) none HOO.out).mono ?_; rintro e w8 ⟨A8, c8, rfl, ho8, hb8⟩; have HBX := Lib.hid (bl_trans HB7.out hb8); clear hb8 ho8))
        go_ret2
        exact ⟨_, _, rfl, own_more (Own.empty _) HBX.out.size, bl_alloc HBX.out _⟩
      | some o =>
        obtain ⟨hbf, huf⟩ := adm_place_some (t := ⟨lo, hi', du, ev, cr⟩) hh (by rw [← HALL.out]; exact ho)
        obtain rfl : b = true := by rw [← hbb]; exact hbf
        obtain rfl : us = putN all o := by rw [huu, HALL.out]; exact huf
        obtain ⟨_, hper, _⟩ := assign_some ho
        have HIN : Hid (InL all o) := Lib.hid (fun i hi => List.mem_range.1 (hper.mem_iff.1 hi))
        have hol : o.length ≤ 100 := by rw [hper.length_eq, List.length_range]; have := setB_len hs; omega
        have HOO := Lib.hid ho
        clear hbb huu hh hs ho hbf huf hper HBX
        go_wp2_with (first
          | (go_at_call 29; refine (sHoldsBy_is w5 _ n c ts 0 ((H.out.below HB5.out).more HB5.out.size) hn true HH.out).mono ?_; rintro e w6 ⟨rfl, hb6⟩; have HB6 := Lib.hid (bl_trans HB5.out hb6); have HO6 := Lib.hid (HO2.out.below hb6); clear hb6)
          | (go_at_call 99; refine (sSetValid_any w6 Ax _ cx all HO6.out.reads.2 (by have := HAL.out; omega)).mono ?_; rintro e w7 ⟨rfl, hb7⟩; rw [HS.out]; have HB7 := Lib.hid (bl_trans HB6.out hb7); have HO7 := Lib.hid (HO6.out.below hb7); clear hb7)
          | (go_at_call 156; refine (sAssign_is w7 Ax _ cx all HO7.out.reads.2 (by have := HAL.out; omega) (some o) HOO.out).mono ?_; rintro e w8 ⟨A8, c8, rfl, ho8, hb8⟩; have HB8 := Lib.hid (bl_trans HB7.out hb8); have HO8 := Lib.hid (HO7.out.below hb8); have HZ8 := Lib.hid (show Zs w8 w8.heap.size A8 _ (toZ o) from ho8.reads); clear hb8 ho8)
          | (go_at_call 157; refine (sPut_is w8 Ax _ cx all A8 _ c8 o HO8.out.reads.2 HZ8.out HIN.out hol).mono ?_; rintro e w9 ⟨A9, c9, rfl, ho9, hb9⟩; have HB9 := Lib.hid (bl_trans HB8.out hb9); have HO9 := Lib.hid (own_more ho9 HB8.out.size); clear hb9 ho9))
        go_ret2
        exact ⟨A9, c9, rfl, HO9.out, HB9.out⟩
    · obtain ⟨r, hr⟩ : ∃ r, virtV all = r := ⟨_, rfl⟩
      have HR := Lib.hid hr
      have hbr : b = r := by rw [← hbb, ← hr, HALL.out]; exact adm_due hh (by decide)
      subst hbr
      have huu2 : us = if b then all else [] := by
        cases b
        · rw [huu]; exact adm_nil hbb
        · rw [huu]
          have hb2 : hBy (ts ++ [(⟨lo, hi', du, ev, cr⟩ : Tk)]) 1 = true := by rw [← HALL.out]; exact hr
          rw [(adm_due_some hh (by decide) hb2).2, ← HALL.out]; rfl
      clear hbb huu hh hs hr HBX
      cases b
      · obtain rfl : us = [] := huu2
        go_wp2_with (first
          | (go_at_call 29; refine (sHoldsBy_is w5 _ n c ts 1 ((H.out.below HB5.out).more HB5.out.size) hn true HH.out).mono ?_; rintro e w6 ⟨rfl, hb6⟩; have HB6 := Lib.hid (bl_trans HB5.out hb6); have HO6 := Lib.hid (HO2.out.below hb6); clear hb6)
          | (go_at_call 99; refine (sSetValid_any w6 Ax _ cx all HO6.out.reads.2 (by have := HAL.out; omega)).mono ?_; rintro e w7 ⟨rfl, hb7⟩; rw [HS.out]; have HB7 := Lib.hid (bl_trans HB6.out hb7); have HO7 := Lib.hid (HO6.out.below hb7); clear hb7)
          | (go_at_call 75; refine (sVirt_is w7 Ax _ cx all HO7.out.reads.2 (by have := HAL.out; omega) false HR.out).mono ?_; rintro e w8 ⟨rfl, hb8⟩; have HBX := Lib.hid (bl_trans HB7.out hb8); clear hb8))
        go_ret2
        exact ⟨_, _, rfl, own_more (Own.empty _) HBX.out.size, bl_alloc HBX.out _⟩
      · obtain rfl : us = all := huu2
        go_wp2_with (first
          | (go_at_call 29; refine (sHoldsBy_is w5 _ n c ts 1 ((H.out.below HB5.out).more HB5.out.size) hn true HH.out).mono ?_; rintro e w6 ⟨rfl, hb6⟩; have HB6 := Lib.hid (bl_trans HB5.out hb6); have HO6 := Lib.hid (HO2.out.below hb6); clear hb6)
          | (go_at_call 99; refine (sSetValid_any w6 Ax _ cx us HO6.out.reads.2 (by have := HAL.out; omega)).mono ?_; rintro e w7 ⟨rfl, hb7⟩; rw [HS.out]; have HB7 := Lib.hid (bl_trans HB6.out hb7); have HO7 := Lib.hid (HO6.out.below hb7); clear hb7)
          | (go_at_call 75; refine (sVirt_is w7 Ax _ cx us HO7.out.reads.2 (by have := HAL.out; omega) true HR.out).mono ?_; rintro e w8 ⟨rfl, hb8⟩; have HB8 := Lib.hid (bl_trans HB7.out hb8); have HO8 := Lib.hid (HO7.out.below hb8); clear hb8))
        go_ret2
        exact ⟨Ax, cx, rfl, own_more HO8.out HB0.out.size, HB8.out⟩)
end Go.Proofs.YtgponahmkjohiabGreatDoor

namespace Go.Proofs.YtgponahmkjohiabGreatDoor
open Go.RowKit
set_option linter.unusedVariables false
/-- The tasks that are admitted, and the places of those that are refused, among the first k. -/
def allA (us : List Tk) (pol : Int) : Nat → List Tk × List Int
  | 0 => ([], [])
  | k + 1 =>
    match us[k]? with
    | some t => if admB (allA us pol k).1 t pol then (admL (allA us pol k).1 t pol, (allA us pol k).2) else ((allA us pol k).1, (allA us pol k).2 ++ [(k : Int)])
    | none => allA us pol k
def allB (us : List Tk) (pol : Int) : Bool := decide (us.length ≤ 20) && (decide (pol = 0) || decide (pol = 1))
theorem all_yes {us : List Tk} {pol : Int} {k : Nat} {t : Tk} (ht : us[k]? = some t) (h : admB (allA us pol k).1 t pol = true) : allA us pol (k + 1) = (admL (allA us pol k).1 t pol, (allA us pol k).2) := by
  show (match us[k]? with | some t => _ | none => _) = _
  rw [ht]
  show (if _ then _ else _) = _
  rw [if_pos h]
theorem all_no {us : List Tk} {pol : Int} {k : Nat} {t : Tk} (ht : us[k]? = some t) (h : admB (allA us pol k).1 t pol = false) : allA us pol (k + 1) = ((allA us pol k).1, (allA us pol k).2 ++ [(k : Int)]) := by
  show (match us[k]? with | some t => _ | none => _) = _
  rw [ht]
  show (if _ then _ else _) = _
  rw [if_neg (by rw [h]; decide)]
theorem all_len (us : List Tk) (pol : Int) : ∀ k, k ≤ us.length → (allA us pol k).1.length ≤ 5 ∧ (allA us pol k).2.length ≤ k
  | 0, _ => ⟨Nat.zero_le _, Nat.zero_le _⟩
  | k + 1, hk => by
    obtain ⟨t, ht⟩ : ∃ t, us[k]? = some t := ⟨_, List.getElem?_eq_getElem (by omega)⟩
    obtain ⟨h1, h2⟩ := all_len us pol k (by omega)
    cases h : admB (allA us pol k).1 t pol
    · rw [all_no ht h]
      refine ⟨h1, ?_⟩
      rw [List.length_append]
      exact Nat.succ_le_succ h2
    · rw [all_yes ht h]
      exact ⟨adm_len5, by dsimp only; omega⟩
theorem cell_one_a (w : World) (z : Int) (ty : TypeId) (g : Nat) (hg : g = w.heap.size) : ∀ j u, ([Value.int .i64 z])[j]? = some u → (w.alloc (.cells #[.int .i64 z] ty)).cell? ((⟨g, 0, none⟩ : Addr).add j) = some u := by
  subst hg
  intro j u hj
  have ea : (⟨w.heap.size, 0, none⟩ : Addr).add j = ⟨w.heap.size, j, none⟩ := by unfold Addr.add; split <;> simp_all
  rw [ea, (Blk.new w ty _).cell j, ← hj]
  simp
theorem own_e2 (w : World) : Own ((w.alloc (.cells #[] 3)).alloc (.cells #[] 43)) w.heap.size (.slice (some ⟨w.heap.size + 1, 0, none⟩) 0 0) [] := by
  have h := Own.empty (w.alloc (.cells #[] 3))
  simp only [World.size_alloc] at h
  exact own_more h (Nat.le_succ _)
theorem Own.kept_two {w w' : World} {B : Nat} {v u : Value} {o : Obj} {ts : List Tk} (h : Own w B v ts) (hg : (w.alloc o).grownBy w' u.ownBlock) (hv : ∀ k, v.ownBlock = some k → u.ownBlock = some k → False) : Own w' B v ts := by
  refine World.ownsRow.kept (h.alloc o) hg ?_
  rcases he : v.ownBlock with _ | k
  · exact .inl rfl
  · right
    intro e
    exact hv k he e.symm
/-- Tasks, places, and whether there are any. -/
def AllRes (us : List Tk) (zs : List Int) (b : Bool) (w : World) (e : Ending) (w' : World) : Prop :=
  ∃ (A : Option Addr) (c : Nat) (A2 : Option Addr) (c2 : Nat), e = .returned (.tuple #[.slice A us.length c, .slice A2 zs.length c2, .bool b]) ∧ Own w' w.heap.size (.slice A us.length c) us ∧ OwnZ w' w.heap.size (.slice A2 zs.length c2) zs ∧ Below w.heap.size w w'
set_option maxRecDepth 100000 in
set_option maxHeartbeats 4000000 in
theorem sAll_is (w : World) (A : Option Addr) (n c : Nat) (ts : List Tk) (pol : Int) (h : Tks w w.heap.size A n ts) (b : Bool) (hb : allB ts pol = b) (hn : n ≤ 1048576) (us : List Tk) (zr : List Int) (hu : us = if b then (allA ts pol ts.length).1 else []) (hv : zr = if b then (allA ts pol ts.length).2 else []) :
    Calls Tryz.prog 110 #[.slice A n c, .int .i64 pol] w (AllRes us zr b w) := by
  obtain ⟨i0, hi, hz0, hz1, hz2⟩ := info_parts info_int
  have H := Lib.hid h
  have HL := Lib.hid h.len
  clear h
  by_cases h20 : 20 < n
  · obtain rfl : b = false := by rw [← hb]; unfold allB; rw [decide_eq_false (by rw [HL.out]; omega)]; rfl
    obtain rfl : us = [] := by rw [hu]; rfl
    obtain rfl : zr = [] := by rw [hv]; rfl
    have k1 : (20 : Int) < (n : Int) := by omega
    clear hb hu hv
    go_enter Tryz.func110, Tryz.ntmps110
    go_wp2
    go_ret3
    exact ⟨_, _, _, _, rfl, own_e2 w, (OwnZ.empty _).alloc _, bl_alloc (bl_alloc (Below.refl _ _) _) _⟩
  have k1 : ¬ (20 : Int) < (n : Int) := by omega
  by_cases hp0 : pol = 0
  case neg =>
    by_cases hp1 : pol = 1
    case neg =>
      obtain rfl : b = false := by rw [← hb]; unfold allB; rw [decide_eq_false hp0, decide_eq_false hp1]; simp
      obtain rfl : us = [] := by rw [hu]; rfl
      obtain rfl : zr = [] := by rw [hv]; rfl
      have m0 : (pol != 0) = true := by simpa using hp0
      have m1 : (pol != 1) = true := by simpa using hp1
      clear hb hu hv
      go_enter Tryz.func110, Tryz.ntmps110
      go_wp2
      go_ret3
      exact ⟨_, _, _, _, rfl, own_e2 w, (OwnZ.empty _).alloc _, bl_alloc (bl_alloc (Below.refl _ _) _) _⟩
    case pos =>
      subst hp1
      obtain rfl : b = true := by rw [← hb]; unfold allB; rw [decide_eq_true (show ts.length ≤ 20 by rw [HL.out]; omega)]; rfl
      have HU : Hid (us = (allA ts 1 ts.length).1) := by show _ = _; rw [hu]; rfl
      have HVV : Hid (zr = (allA ts 1 ts.length).2) := by show _ = _; rw [hv]; rfl
      clear hb hp0 hu hv
      go_enter Tryz.func110, Tryz.ntmps110
      go_wp2
      go_loopw [7, 8, 9] (fun u v i wr => ∃ (k : Nat) (xs : List Tk) (zs : List Int), k ≤ n ∧ i = .int .i64 k ∧ xs.length ≤ 5 ∧ zs.length ≤ k ∧ Hid (allA ts 1 k = (xs, zs)) ∧ OwnZ wr w.heap.size u zs ∧ Own wr w.heap.size v xs ∧ Hid (∀ x, v.ownBlock = some x → u.ownBlock = some x → False) ∧ Below w.heap.size w wr) (fun _ _ i _ => n - (intOf i).toNat)
      case atStart => exact ⟨0, [], [], Nat.zero_le _, rfl, Nat.zero_le _, Nat.zero_le _, Lib.hid rfl, (OwnZ.empty _).alloc _, own_e2 w, Lib.hid (fun x e e2 => by have h1 : w.heap.size + 1 = x := Option.some.inj e; have h2 : w.heap.size = x := Option.some.inj e2; omega), bl_alloc (bl_alloc (Below.refl _ _) _) _⟩
      case round =>
        obtain ⟨k, xs, zs, hk, rfl, hxl, hzl, HA, hoz, ho, HNE, hb⟩ := hrel
        obtain ⟨Ao, co, rfl⟩ := ho.form
        obtain ⟨Az, cz, rfl⟩ := hoz.form
        have HO := Lib.hid ho
        have HZ := Lib.hid hoz
        have HB := Lib.hid hb
        clear ho hoz hb
        by_cases hlt : k < n
        · obtain ⟨t, ht⟩ : ∃ t, ts[k]? = some t := ⟨ts[k]'(by rw [HL.out]; exact hlt), List.getElem?_eq_getElem _⟩
          obtain ⟨bb, o, rfl, hbl, c0, c1, c2, c3, c4⟩ := (H.out.below HB.out).at_ k t ht
          have HT := Lib.hid ht
          have hAL := all_len ts 1 (k + 1) (by rw [HL.out]; omega)
          have q1 : (0 : Int) ≤ (k : Int) := by omega
          have q2 : (k : Int) < (n : Int) := by omega
          have hsz : w.heap.size ≤ wr.heap.size := HB.out.size
          obtain ⟨r, hr⟩ : ∃ r, admB xs t 1 = r := ⟨_, rfl⟩
          have HR := Lib.hid hr
          have hl5 : (admL xs t 1).length ≤ 5 := adm_len5
          obtain ⟨ys, hys⟩ : ∃ ys, ys = admL xs t 1 := ⟨_, rfl⟩
          have HYS := Lib.hid hys
          rw [← hys] at hl5
          clear ht hr hys hAL
          go_wp2_with fail
          refine (sAdmit_is wr Ao _ co xs t 1 ys r HO.out.reads.2 (by omega) HR.out HYS.out).mono ?_
          rintro e w5 ⟨A5, c5, rfl, ho5, hb5⟩
          have HB5 := Lib.hid (bl_trans HB.out hb5)
          have HO5 := Lib.hid (own_more ho5 hsz)
          have HX5 := Lib.hid (HO.out.below hb5)
          have HZ5 := Lib.hid (HZ.out.below hb5)
          have HZL := Lib.hid (fun x e => (World.ownsRow.lt HZ.out x e).2)
          have HOG := Lib.hid (fun x e => (World.ownsRow.lt ho5 x e).1)
          have HXL := Lib.hid (fun x e => (World.ownsRow.lt HX5.out x e).2)
          have hsz5 : w.heap.size ≤ w5.heap.size := HB5.out.size
          clear ho5 hb5
          cases r
          · have HN := Lib.hid (all_no (pol := 1) HT.out (by rw [HA.out]; exact HR.out))
            have b1 : zs.length + 1 ≤ maxLen := by unfold maxLen; omega
            have b2 : (zs.length + 1) * 8 ≤ 140737488355328 := by omega
            go_wp2_with (at_builtin; refine wpList_append_own_at _ rfl (.tmp 45) (.tmp 47) 27 rfl w.heap.size 3 i0 _ 1 8 Tryz.underlying27 hi hz0 hz1 hz2 rfl (by decide) _ zs.length (zs.map (Value.int .i64)) rfl (HZ5.out.alloc _) ⟨w5.heap.size, 0, none⟩ 1 1 [Value.int .i64 (k : Int)] rfl rfl (cell_one_a _ _ _ _ rfl) (by intro u hu; rw [List.mem_singleton.1 hu]; rfl) b1 b2 (by simp; omega) ?_; intro v' w7 hown' hgrow _ hor)
            have HZ7 := Lib.hid (show OwnZ w7 w.heap.size v' (zs ++ [(k : Int)]) from OwnZ.snoc hown')
            have HB7 := Lib.hid ((bl_alloc HB5.out _).grown hgrow (by simp; omega) (fun x e => (World.ownsRow.lt HZ5.out x e).1))
            have HX7 := Lib.hid (HX5.out.kept_two hgrow (fun x e e2 => HNE.out x e e2))
            have HNE7 : Hid (∀ x, (Value.slice Ao xs.length co).ownBlock = some x → v'.ownBlock = some x → False) := Lib.hid (fun x e e2 => by
              rcases hor with h1 | h1
              · rw [h1] at e2; exact HNE.out x e e2
              · rw [h1] at e2
                have h2 := Option.some.inj e2
                have h3 := HXL.out x e
                simp at h2
                omega)
            clear hown' hgrow b1 b2 hor
            go_wp2
            go_roundw
            case rel => exact ⟨k + 1, xs, zs ++ [(k : Int)], by omega, by go_num, hxl, by rw [List.length_append]; show zs.length + 1 ≤ k + 1; omega, Lib.hid (by rw [HN.out, HA.out]), HZ7.out, HX7.out, HNE7, HB7.out⟩
            case measure => simp [intOf]; omega
          · have HN := Lib.hid (all_yes (pol := 1) HT.out (by rw [HA.out]; exact HR.out))
            go_wp2
            go_roundw
            case rel => exact ⟨k + 1, ys, zs, by omega, by go_num, hl5, by omega, Lib.hid (by rw [HN.out, HA.out, HYS.out]), HZ5.out, HO5.out, Lib.hid (fun x e e2 => by have h1 := HOG.out x e; have h2 := HZL.out x e2; omega), HB5.out⟩
            case measure => simp [intOf]; omega
        · obtain rfl : k = n := by omega
          have hx : (allA ts 1 ts.length).1 = xs ∧ (allA ts 1 ts.length).2 = zs := by rw [HL.out, HA.out]; exact ⟨rfl, rfl⟩
          go_wp2
          go_ret3
          obtain rfl : us = xs := by rw [HU.out]; exact hx.1
          obtain rfl : zr = zs := by rw [HVV.out]; exact hx.2
          exact ⟨Ao, co, Az, cz, rfl, HO.out, HZ.out, HB.out⟩
  case pos =>
    subst hp0
    obtain rfl : b = true := by rw [← hb]; unfold allB; rw [decide_eq_true (show ts.length ≤ 20 by rw [HL.out]; omega)]; rfl
    have HU : Hid (us = (allA ts 0 ts.length).1) := by show _ = _; rw [hu]; rfl
    have HVV : Hid (zr = (allA ts 0 ts.length).2) := by show _ = _; rw [hv]; rfl
    clear hb hu hv
    go_enter Tryz.func110, Tryz.ntmps110
    go_wp2
    go_loopw [7, 8, 9] (fun u v i wr => ∃ (k : Nat) (xs : List Tk) (zs : List Int), k ≤ n ∧ i = .int .i64 k ∧ xs.length ≤ 5 ∧ zs.length ≤ k ∧ Hid (allA ts 0 k = (xs, zs)) ∧ OwnZ wr w.heap.size u zs ∧ Own wr w.heap.size v xs ∧ Hid (∀ x, v.ownBlock = some x → u.ownBlock = some x → False) ∧ Below w.heap.size w wr) (fun _ _ i _ => n - (intOf i).toNat)
    case atStart => exact ⟨0, [], [], Nat.zero_le _, rfl, Nat.zero_le _, Nat.zero_le _, Lib.hid rfl, (OwnZ.empty _).alloc _, own_e2 w, Lib.hid (fun x e e2 => by have h1 : w.heap.size + 1 = x := Option.some.inj e; have h2 : w.heap.size = x := Option.some.inj e2; omega), bl_alloc (bl_alloc (Below.refl _ _) _) _⟩
    case round =>
      obtain ⟨k, xs, zs, hk, rfl, hxl, hzl, HA, hoz, ho, HNE, hb⟩ := hrel
      obtain ⟨Ao, co, rfl⟩ := ho.form
      obtain ⟨Az, cz, rfl⟩ := hoz.form
      have HO := Lib.hid ho
      have HZ := Lib.hid hoz
      have HB := Lib.hid hb
      clear ho hoz hb
      by_cases hlt : k < n
      · obtain ⟨t, ht⟩ : ∃ t, ts[k]? = some t := ⟨ts[k]'(by rw [HL.out]; exact hlt), List.getElem?_eq_getElem _⟩
        obtain ⟨bb, o, rfl, hbl, c0, c1, c2, c3, c4⟩ := (H.out.below HB.out).at_ k t ht
        have HT := Lib.hid ht
        have hAL := all_len ts 0 (k + 1) (by rw [HL.out]; omega)
        have q1 : (0 : Int) ≤ (k : Int) := by omega
        have q2 : (k : Int) < (n : Int) := by omega
        have hsz : w.heap.size ≤ wr.heap.size := HB.out.size
        obtain ⟨r, hr⟩ : ∃ r, admB xs t 0 = r := ⟨_, rfl⟩
        have HR := Lib.hid hr
        have hl5 : (admL xs t 0).length ≤ 5 := adm_len5
        obtain ⟨ys, hys⟩ : ∃ ys, ys = admL xs t 0 := ⟨_, rfl⟩
        have HYS := Lib.hid hys
        rw [← hys] at hl5
        clear ht hr hys hAL
        go_wp2_with fail
        refine (sAdmit_is wr Ao _ co xs t 0 ys r HO.out.reads.2 (by omega) HR.out HYS.out).mono ?_
        rintro e w5 ⟨A5, c5, rfl, ho5, hb5⟩
        have HB5 := Lib.hid (bl_trans HB.out hb5)
        have HO5 := Lib.hid (own_more ho5 hsz)
        have HX5 := Lib.hid (HO.out.below hb5)
        have HZ5 := Lib.hid (HZ.out.below hb5)
        have HZL := Lib.hid (fun x e => (World.ownsRow.lt HZ.out x e).2)
        have HOG := Lib.hid (fun x e => (World.ownsRow.lt ho5 x e).1)
        have HXL := Lib.hid (fun x e => (World.ownsRow.lt HX5.out x e).2)
        have hsz5 : w.heap.size ≤ w5.heap.size := HB5.out.size
        clear ho5 hb5
        cases r
        · have HN := Lib.hid (all_no (pol := 0) HT.out (by rw [HA.out]; exact HR.out))
          have b1 : zs.length + 1 ≤ maxLen := by unfold maxLen; omega
          have b2 : (zs.length + 1) * 8 ≤ 140737488355328 := by omega
          go_wp2_with (at_builtin; refine wpList_append_own_at _ rfl (.tmp 45) (.tmp 47) 27 rfl w.heap.size 3 i0 _ 1 8 Tryz.underlying27 hi hz0 hz1 hz2 rfl (by decide) _ zs.length (zs.map (Value.int .i64)) rfl (HZ5.out.alloc _) ⟨w5.heap.size, 0, none⟩ 1 1 [Value.int .i64 (k : Int)] rfl rfl (cell_one_a _ _ _ _ rfl) (by intro u hu; rw [List.mem_singleton.1 hu]; rfl) b1 b2 (by simp; omega) ?_; intro v' w7 hown' hgrow _ hor)
          have HZ7 := Lib.hid (show OwnZ w7 w.heap.size v' (zs ++ [(k : Int)]) from OwnZ.snoc hown')
          have HB7 := Lib.hid ((bl_alloc HB5.out _).grown hgrow (by simp; omega) (fun x e => (World.ownsRow.lt HZ5.out x e).1))
          have HX7 := Lib.hid (HX5.out.kept_two hgrow (fun x e e2 => HNE.out x e e2))
          have HNE7 : Hid (∀ x, (Value.slice Ao xs.length co).ownBlock = some x → v'.ownBlock = some x → False) := Lib.hid (fun x e e2 => by
            rcases hor with h1 | h1
            · rw [h1] at e2; exact HNE.out x e e2
            · rw [h1] at e2
              have h2 := Option.some.inj e2
              have h3 := HXL.out x e
              simp at h2
              omega)
          clear hown' hgrow b1 b2 hor
          go_wp2
          go_roundw
          case rel => exact ⟨k + 1, xs, zs ++ [(k : Int)], by omega, by go_num, hxl, by rw [List.length_append]; show zs.length + 1 ≤ k + 1; omega, Lib.hid (by rw [HN.out, HA.out]), HZ7.out, HX7.out, HNE7, HB7.out⟩
          case measure => simp [intOf]; omega
        · have HN := Lib.hid (all_yes (pol := 0) HT.out (by rw [HA.out]; exact HR.out))
          go_wp2
          go_roundw
          case rel => exact ⟨k + 1, ys, zs, by omega, by go_num, hl5, by omega, Lib.hid (by rw [HN.out, HA.out, HYS.out]), HZ5.out, HO5.out, Lib.hid (fun x e e2 => by have h1 := HOG.out x e; have h2 := HZL.out x e2; omega), HB5.out⟩
          case measure => simp [intOf]; omega
      · obtain rfl : k = n := by omega
        have hx : (allA ts 0 ts.length).1 = xs ∧ (allA ts 0 ts.length).2 = zs := by rw [HL.out, HA.out]; exact ⟨rfl, rfl⟩
        go_wp2
        go_ret3
        obtain rfl : us = xs := by rw [HU.out]; exact hx.1
        obtain rfl : zr = zs := by rw [HVV.out]; exact hx.2
        exact ⟨Ao, co, Az, cz, rfl, HO.out, HZ.out, HB.out⟩
end Go.Proofs.YtgponahmkjohiabGreatDoor
