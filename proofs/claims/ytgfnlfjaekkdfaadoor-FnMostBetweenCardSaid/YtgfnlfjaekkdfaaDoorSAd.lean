/- Contract of the reference's AdmitTask. Nothing that was there is written. -/
import Derived.Test.YtgfnlfjaekkdfaaDoorAd
import Derived.Test.YtgfnlfjaekkdfaaDoorHb
import Derived.Test.YtgfnlfjaekkdfaaDoorNB
import Derived.Deep.RegionLaw
namespace Go.Proofs.YtgfnlfjaekkdfaaDoor
open Go.RowKit
set_option linter.unusedVariables false

theorem blk_cells {w : World} {X : Nat} {ty : TypeId} (t : Tk) (h : Blk w X ty #[.int .i64 t.lo, .int .i64 t.hi, .int .i64 t.du, .int .i64 t.ev, .bool t.cr]) : ∀ j u, t.cells[j]? = some u → w.cell? ((⟨X, 0, none⟩ : Addr).add j) = some u := by
  intro j u hj
  have ea : (⟨X, 0, none⟩ : Addr).add j = ⟨X, j, none⟩ := by unfold Addr.add; split <;> simp_all
  rw [ea, h.cell j, ← hj]
  simp [Tk.cells]

set_option maxRecDepth 100000 in
set_option maxHeartbeats 4000000 in
theorem sAdmit_is (w : World) (A : Option Addr) (n c : Nat) (ts : List Tk) (t : Tk) (pol : Int) (us : List Tk) (b : Bool) (h : Tks w w.heap.size A n ts) (hn : n ≤ 1048576) (hb : admB ts t pol = b) (hu : us = admL ts t pol) :
    Calls Tryd.prog 42 #[.slice A n c, .agg #[.int .i64 t.lo, .int .i64 t.hi, .int .i64 t.du, .int .i64 t.ev, .bool t.cr], .int .i64 pol] w (LsRes2 us b w) := by
  obtain ⟨i0, hi, hz0, hz1, hz2⟩ := info_parts info_task
  have H := Lib.hid h
  have HL := Lib.hid h.len
  have HBB := Lib.hid hb
  have HU := Lib.hid hu
  clear h hb hu
  obtain ⟨lo, hi', du, ev, cr⟩ := t
  dsimp only
  obtain ⟨W0, hW0⟩ : ∃ W0, w.alloc (.cells #[.int .i64 lo, .int .i64 hi', .int .i64 du, .int .i64 ev, .bool cr] 29) = W0 := ⟨_, rfl⟩
  have HW0 := Lib.hid hW0
  have hb0 : Below w.heap.size w W0 := by rw [← hW0]; exact bl_alloc (Below.refl _ _) _
  have hs0 : W0.heap.size = w.heap.size + 1 := by rw [← hW0]; simp
  have bT : Blk W0 w.heap.size 29 #[.int .i64 lo, .int .i64 hi', .int .i64 du, .int .i64 ev, .bool cr] := by rw [← hW0]; exact Blk.new w _ _
  have HB0 := Lib.hid hb0
  have BT := Lib.hid bT
  have HS0 := Lib.hid hs0
  clear hb0 bT hs0
  rcases A with _ | aa
  · have hts : ts = [] := by
      rcases ts with _ | ⟨j, js⟩
      · rfl
      · obtain ⟨b', o', e, _⟩ := H.out.at_ 0 j rfl
        cases e
    have hn0 : n = 0 := by rw [← HL.out, hts]; rfl
    subst hn0
    have HTS := Lib.hid hts
    clear hts
    go_enter Tryd.func42, Tryd.ntmps42
    go_wp2
    clear hW0 HW0
    have cT := BT.out.cell
    have cTA := fun (o : Obj) => (BT.out.alloc o).cell
    go_region_law (refine step_append_own rfl (.tmp 13) (.tmp 15) 23 rfl W0.heap.size 29 i0 _ 5 40 Tryd.underlying23 hi hz0 hz1 hz2 rfl (by decide) _ 0 [] rfl (by first | exact own_more (Own.empty _) (by first | exact Nat.le_refl _ | (simp; done) | (simp; omega)) | exact own_more ((Own.empty _).alloc _) (by first | exact Nat.le_refl _ | (simp; done) | (simp; omega)) | (have h := Own.empty (W0.alloc (.cells #[.int .i64 lo, .int .i64 hi', .int .i64 du, .int .i64 ev, .bool cr] 29)); simp only [World.size_alloc] at h; exact own_more h (Nat.le_succ _))) ⟨_, 0, none⟩ 1 1 (Tk.cells ⟨lo, hi', du, ev, cr⟩) rfl rfl (by first | exact cell_new5_at _ ⟨lo, hi', du, ev, cr⟩ _ _ rfl | (refine blk_cells (ty := 29) ⟨lo, hi', du, ev, cr⟩ ?_; (first | exact Blk.new _ _ _ | exact (Blk.new _ _ _).alloc _ | (have h := Blk.new (W0.alloc (.cells #[] 29)) 29 #[.int .i64 lo, .int .i64 hi', .int .i64 du, .int .i64 ev, .bool cr]; simp only [World.size_alloc] at h; exact h)))) (by intro u hu; exact cells_one [⟨lo, hi', du, ev, cr⟩] u (by simpa using hu)) (by unfold maxLen; omega) (by omega) (by first | exact Nat.le_refl _ | (simp; done) | (simp; omega)) ?_; intro v2 w5 hown2 hgrow2 _; have HB2 := Lib.hid (show Below W0.heap.size W0 w5 from (by repeat (first | exact Below.refl _ _ | with_reducible refine Below.drew ?_ | with_reducible refine bl_alloc ?_ _) : Below W0.heap.size W0 _).grown hgrow2 (by first | exact Nat.le_refl _ | (simp; done) | (simp; omega)) (fun q e => by have e2 := Option.some.inj e; simp at e2; omega)); have HO2 := Lib.hid (show Own w5 W0.heap.size v2 (ts ++ [⟨lo, hi', du, ev, cr⟩]) from by rw [HTS.out]; exact Own.snoc hown2); clear hown2 hgrow2)
    all_goals (
      obtain ⟨all, hall⟩ : ∃ all, all = ts ++ [(⟨lo, hi', du, ev, cr⟩ : Tk)] := ⟨_, rfl⟩
      rw [← hall] at HO2
      obtain ⟨Ax, cx, rfl⟩ := HO2.out.form
      have HALL := Lib.hid hall
      have hal : all.length = 0 + 1 := by rw [hall, List.length_append, HL.out]; rfl
      have HAL := Lib.hid hal
      have HB5 := Lib.hid (show Below w.heap.size w w5 from HB0.out.trans (HB2.out.mono HB0.out.size))
      have HBX := HB5
      clear hall hal cT cTA
      have hbb := HBB.out
      have huu := HU.out
      cases hh : hBy ts pol
      · obtain rfl : b = false := by rw [← hbb]; exact adm_no hh
        obtain rfl : us = [] := by rw [huu]; exact adm_nil hbb
        have HH := Lib.hid hh
        clear hbb huu hh HBX
        go_wp2_with (go_at_call 24; refine (sHoldsBy_is w5 _ 0 c ts pol ((H.out.below HB5.out).more HB5.out.size) hn false HH.out).mono ?_; rintro e w6 ⟨rfl, hb6⟩; have HBX := Lib.hid (bl_trans HB5.out hb6); clear hb6)
        go_ret2
        exact ⟨_, _, rfl, own_more (Own.empty _) HBX.out.size, bl_alloc HBX.out _⟩
      have HH := Lib.hid hh
      have hpol := hBy_pol hh
      have h5n : (0 : Nat) ≤ 5 := by have := setB_len (hBy_set hh); rw [HL.out] at this; exact this
      cases hs : setB all
      · obtain rfl : b = false := by rw [← hbb]; exact adm_bad (by rw [← HALL.out]; exact hs)
        obtain rfl : us = [] := by rw [huu]; exact adm_nil hbb
        have HS := Lib.hid hs
        clear hbb huu hh hs hpol HBX
        go_wp2_with (first
          | (go_at_call 24; refine (sHoldsBy_is w5 _ 0 c ts pol ((H.out.below HB5.out).more HB5.out.size) hn true HH.out).mono ?_; rintro e w6 ⟨rfl, hb6⟩; have HB6 := Lib.hid (bl_trans HB5.out hb6); have HO6 := Lib.hid (HO2.out.below hb6); clear hb6)
          | (go_at_call 30; refine (sSetValid_any w6 Ax _ cx all HO6.out.reads.2 (by have := HAL.out; omega)).mono ?_; rintro e w7 ⟨rfl, hb7⟩; rw [HS.out]; have HBX := Lib.hid (bl_trans HB6.out hb7); clear hb7))
        go_ret2
        exact ⟨_, _, rfl, own_more (Own.empty _) HBX.out.size, bl_alloc HBX.out _⟩
      have HS := Lib.hid hs
      rcases hpol with rfl | rfl
      · cases ho : assignOf all with
        | none =>
          obtain ⟨hbf, huf⟩ := adm_place_none (t := ⟨lo, hi', du, ev, cr⟩) hh (by rw [← HALL.out]; exact ho)
          obtain rfl : b = false := by rw [← hbb]; exact hbf
          obtain rfl : us = [] := by rw [huu]; exact huf
          have HOO := Lib.hid ho
          clear hbb huu hh hs ho hbf huf HBX
          go_wp2_with (first
            | (go_at_call 24; refine (sHoldsBy_is w5 _ 0 c ts 0 ((H.out.below HB5.out).more HB5.out.size) hn true HH.out).mono ?_; rintro e w6 ⟨rfl, hb6⟩; have HB6 := Lib.hid (bl_trans HB5.out hb6); have HO6 := Lib.hid (HO2.out.below hb6); clear hb6)
            | (go_at_call 30; refine (sSetValid_any w6 Ax _ cx all HO6.out.reads.2 (by have := HAL.out; omega)).mono ?_; rintro e w7 ⟨rfl, hb7⟩; rw [HS.out]; have HB7 := Lib.hid (bl_trans HB6.out hb7); have HO7 := Lib.hid (HO6.out.below hb7); clear hb7)
            | (go_at_call 64; refine (sAssign_is w7 Ax _ cx all HO7.out.reads.2 (by have := HAL.out; omega) none HOO.out).mono ?_; rintro e w8 ⟨A8, c8, rfl, ho8, hb8⟩; have HBX := Lib.hid (bl_trans HB7.out hb8); clear hb8 ho8))
          go_ret2
          exact ⟨_, _, rfl, own_more (Own.empty _) HBX.out.size, bl_alloc HBX.out _⟩
        | some o =>
          obtain ⟨hbf, huf⟩ := adm_place_some (t := ⟨lo, hi', du, ev, cr⟩) hh (by rw [← HALL.out]; exact ho)
          obtain rfl : b = true := by rw [← hbb]; exact hbf
          obtain rfl : us = putN all o := by rw [huu, HALL.out]; exact huf
          obtain ⟨_, hper, _⟩ := assign_some ho
          have HIN : Hid (InL all o) := Lib.hid (fun i hi => List.mem_range.1 (hper.mem_iff.1 hi))
          have hol : o.length ≤ 100 := by rw [hper.length_eq, List.length_range]; have := setB_len hs; omega
          have HOO := Lib.hid ho
          clear hbb huu hh hs ho hbf huf hper HBX
          go_wp2_with (first
            | (go_at_call 24; refine (sHoldsBy_is w5 _ 0 c ts 0 ((H.out.below HB5.out).more HB5.out.size) hn true HH.out).mono ?_; rintro e w6 ⟨rfl, hb6⟩; have HB6 := Lib.hid (bl_trans HB5.out hb6); have HO6 := Lib.hid (HO2.out.below hb6); clear hb6)
            | (go_at_call 30; refine (sSetValid_any w6 Ax _ cx all HO6.out.reads.2 (by have := HAL.out; omega)).mono ?_; rintro e w7 ⟨rfl, hb7⟩; rw [HS.out]; have HB7 := Lib.hid (bl_trans HB6.out hb7); have HO7 := Lib.hid (HO6.out.below hb7); clear hb7)
            | (go_at_call 64; refine (sAssign_is w7 Ax _ cx all HO7.out.reads.2 (by have := HAL.out; omega) (some o) HOO.out).mono ?_; rintro e w8 ⟨A8, c8, rfl, ho8, hb8⟩; have HB8 := Lib.hid (bl_trans HB7.out hb8); have HO8 := Lib.hid (HO7.out.below hb8); have HZ8 := Lib.hid (show Zs w8 w8.heap.size A8 _ (toZ o) from ho8.reads); clear hb8 ho8)
            | (go_at_call 65; refine (sPut_is w8 Ax _ cx all A8 _ c8 o HO8.out.reads.2 HZ8.out HIN.out hol).mono ?_; rintro e w9 ⟨A9, c9, rfl, ho9, hb9⟩; have HB9 := Lib.hid (bl_trans HB8.out hb9); have HO9 := Lib.hid (own_more ho9 HB8.out.size); clear hb9 ho9))
          go_ret2
          exact ⟨A9, c9, rfl, HO9.out, HB9.out⟩
      · obtain ⟨r, hr⟩ : ∃ r, virtV all = r := ⟨_, rfl⟩
        have HR := Lib.hid hr
        have hbr : b = r := by rw [← hbb, ← hr, HALL.out]; exact adm_due hh (by decide)
        subst hbr
        have huu2 : us = if b then all else [] := by
          cases b
          · rw [huu]; exact adm_nil hbb
          · rw [huu]
            have hb2 : hBy (ts ++ [(⟨lo, hi', du, ev, cr⟩ : Tk)]) 1 = true := by rw [← HALL.out]; exact hr
            rw [(adm_due_some hh (by decide) hb2).2, ← HALL.out]; rfl
        clear hbb huu hh hs hr HBX
        cases b
        · obtain rfl : us = [] := huu2
          go_wp2_with (first
            | (go_at_call 24; refine (sHoldsBy_is w5 _ 0 c ts 1 ((H.out.below HB5.out).more HB5.out.size) hn true HH.out).mono ?_; rintro e w6 ⟨rfl, hb6⟩; have HB6 := Lib.hid (bl_trans HB5.out hb6); have HO6 := Lib.hid (HO2.out.below hb6); clear hb6)
            | (go_at_call 30; refine (sSetValid_any w6 Ax _ cx all HO6.out.reads.2 (by have := HAL.out; omega)).mono ?_; rintro e w7 ⟨rfl, hb7⟩; rw [HS.out]; have HB7 := Lib.hid (bl_trans HB6.out hb7); have HO7 := Lib.hid (HO6.out.below hb7); clear hb7)
            | (go_at_call 39; refine (sVirt_is w7 Ax _ cx all HO7.out.reads.2 (by have := HAL.out; omega) false HR.out).mono ?_; rintro e w8 ⟨rfl, hb8⟩; have HBX := Lib.hid (bl_trans HB7.out hb8); clear hb8))
          go_ret2
          exact ⟨_, _, rfl, own_more (Own.empty _) HBX.out.size, bl_alloc HBX.out _⟩
        · obtain rfl : us = all := huu2
          go_wp2_with (first
            | (go_at_call 24; refine (sHoldsBy_is w5 _ 0 c ts 1 ((H.out.below HB5.out).more HB5.out.size) hn true HH.out).mono ?_; rintro e w6 ⟨rfl, hb6⟩; have HB6 := Lib.hid (bl_trans HB5.out hb6); have HO6 := Lib.hid (HO2.out.below hb6); clear hb6)
            | (go_at_call 30; refine (sSetValid_any w6 Ax _ cx us HO6.out.reads.2 (by have := HAL.out; omega)).mono ?_; rintro e w7 ⟨rfl, hb7⟩; rw [HS.out]; have HB7 := Lib.hid (bl_trans HB6.out hb7); have HO7 := Lib.hid (HO6.out.below hb7); clear hb7)
            | (go_at_call 39; refine (sVirt_is w7 Ax _ cx us HO7.out.reads.2 (by have := HAL.out; omega) true HR.out).mono ?_; rintro e w8 ⟨rfl, hb8⟩; have HB8 := Lib.hid (bl_trans HB7.out hb8); have HO8 := Lib.hid (HO7.out.below hb8); clear hb8))
          go_ret2
          exact ⟨Ax, cx, rfl, own_more HO8.out HB0.out.size, HB8.out⟩)
  have hnews : ∀ (W : World), Below w.heap.size w W → ∀ j u, (ts.flatMap Tk.cells)[j]? = some u → W.cell? (aa.add j) = some u := by
    intro W hW j u hu
    rcases ts with _ | ⟨j0, js0⟩
    · simp at hu
    · obtain ⟨b', o', e, _⟩ := H.out.at_ 0 j0 rfl
      injection e with e
      subst e
      exact Tks.cells (H.out.below hW) j u hu
  have HCE := Lib.hid hnews
  clear hnews
  go_enter Tryd.func42, Tryd.ntmps42
  go_wp2
  clear hW0 HW0
  have cT := BT.out.cell
  have cTA := fun (o : Obj) => (BT.out.alloc o).cell
  go_region_law (first | (refine step_append_own rfl (.tmp 11) (.tmp 12) 23 rfl W0.heap.size 29 i0 _ 5 40 Tryd.underlying23 hi hz0 hz1 hz2 rfl (by decide) _ 0 [] rfl (by first | exact own_more (Own.empty _) (by first | exact Nat.le_refl _ | (simp; done) | (simp; omega)) | exact own_more ((Own.empty _).alloc _) (by first | exact Nat.le_refl _ | (simp; done) | (simp; omega)) | (have h := Own.empty (W0.alloc (.cells #[.int .i64 lo, .int .i64 hi', .int .i64 du, .int .i64 ev, .bool cr] 29)); simp only [World.size_alloc] at h; exact own_more h (Nat.le_succ _))) aa n c (ts.flatMap Tk.cells) rfl (by rw [cells_length, HL.out]) (HCE.out _ (by repeat (first | exact HB0.out | with_reducible refine Below.drew ?_ | with_reducible refine bl_alloc ?_ _))) (cells_one _) (by unfold maxLen; omega) (by omega) (by first | exact Nat.le_refl _ | (simp; done) | (simp; omega)) ?_; intro v1 w4 hown1 hgrow1 _; have HO1 := Lib.hid (show Own w4 W0.heap.size v1 ts from by unfold Own; rw [HL.out]; simpa using hown1); have HB1 := Lib.hid (show Below W0.heap.size W0 w4 from (by repeat (first | exact Below.refl _ _ | with_reducible refine Below.drew ?_ | with_reducible refine bl_alloc ?_ _) : Below W0.heap.size W0 _).grown hgrow1 (by first | exact Nat.le_refl _ | (simp; done) | (simp; omega)) (fun q e => by have e2 := Option.some.inj e; simp at e2; omega)); have HNX := Lib.hid (fun (X : Nat) hX hne => Blk.grown (g := X) (t := 29) (cs := #[.int .i64 lo, .int .i64 hi', .int .i64 du, .int .i64 ev, .bool cr]) hX hgrow1 hne); have HS1 := HB1.out.size; have cT4 := (BT.out.below HB1.out (by have := HS0.out; omega)).cell; clear hown1 hgrow1) | (refine step_append_own rfl (.tmp 13) (.tmp 15) 23 rfl W0.heap.size 29 i0 _ 5 40 Tryd.underlying23 hi hz0 hz1 hz2 rfl (by decide) v1 ts.length (ts.flatMap Tk.cells) rfl (by first | exact HO1.out | exact HO1.out.alloc _) ⟨_, 0, none⟩ 1 1 (Tk.cells ⟨lo, hi', du, ev, cr⟩) rfl rfl (by first | exact cell_new5_at _ ⟨lo, hi', du, ev, cr⟩ _ _ rfl | (refine blk_cells (ty := 29) ⟨lo, hi', du, ev, cr⟩ (HNX.out _ ?_ ?_); (first | exact Blk.new _ _ _ | exact (Blk.new _ _ _).alloc _ | (have h := Blk.new (W0.alloc (.cells #[] 29)) 29 #[.int .i64 lo, .int .i64 hi', .int .i64 du, .int .i64 ev, .bool cr]; simp only [World.size_alloc] at h; exact h)); (intro e; have e2 := Option.some.inj e; simp at e2; try omega))) (by intro u hu; exact cells_one [⟨lo, hi', du, ev, cr⟩] u (by simpa using hu)) (by have := HL.out; unfold maxLen; omega) (by have := HL.out; omega) (by first | exact HS1 | (simp; omega)) ?_; intro v2 w5 hown2 hgrow2 _; have HB2 := Lib.hid (show Below W0.heap.size W0 w5 from (by first | exact HB1.out | exact bl_alloc HB1.out _ : Below W0.heap.size W0 _).grown hgrow2 (by first | exact HS1 | (simp; omega)) (fun q e => (World.ownsRow.lt HO1.out q e).1)); have HO2 := Lib.hid (show Own w5 W0.heap.size v2 (ts ++ [⟨lo, hi', du, ev, cr⟩]) from Own.snoc hown2); clear hown2 hgrow2))
  all_goals (
    obtain ⟨all, hall⟩ : ∃ all, all = ts ++ [(⟨lo, hi', du, ev, cr⟩ : Tk)] := ⟨_, rfl⟩
    rw [← hall] at HO2
    obtain ⟨Ax, cx, rfl⟩ := HO2.out.form
    have HALL := Lib.hid hall
    have hal : all.length = n + 1 := by rw [hall, List.length_append, HL.out]; rfl
    have HAL := Lib.hid hal
    have HB5 := Lib.hid (show Below w.heap.size w w5 from HB0.out.trans (HB2.out.mono HB0.out.size))
    have HBX := HB5
    clear hall hal cT cTA HNX
    (try clear cT4)
    have hbb := HBB.out
    have huu := HU.out
    cases hh : hBy ts pol
    · obtain rfl : b = false := by rw [← hbb]; exact adm_no hh
      obtain rfl : us = [] := by rw [huu]; exact adm_nil hbb
      have HH := Lib.hid hh
      clear hbb huu hh HBX
      go_wp2_with (go_at_call 24; refine (sHoldsBy_is w5 _ n c ts pol ((H.out.below HB5.out).more HB5.out.size) hn false HH.out).mono ?_; rintro e w6 ⟨rfl, hb6⟩; have HBX := Lib.hid (bl_trans HB5.out hb6); clear hb6)
      go_ret2
      exact ⟨_, _, rfl, own_more (Own.empty _) HBX.out.size, bl_alloc HBX.out _⟩
    have HH := Lib.hid hh
    have hpol := hBy_pol hh
    have h5n : n ≤ 5 := by have := setB_len (hBy_set hh); rw [HL.out] at this; exact this
    cases hs : setB all
    · obtain rfl : b = false := by rw [← hbb]; exact adm_bad (by rw [← HALL.out]; exact hs)
      obtain rfl : us = [] := by rw [huu]; exact adm_nil hbb
      have HS := Lib.hid hs
      clear hbb huu hh hs hpol HBX
      go_wp2_with (first
        | (go_at_call 24; refine (sHoldsBy_is w5 _ n c ts pol ((H.out.below HB5.out).more HB5.out.size) hn true HH.out).mono ?_; rintro e w6 ⟨rfl, hb6⟩; have HB6 := Lib.hid (bl_trans HB5.out hb6); have HO6 := Lib.hid (HO2.out.below hb6); clear hb6)
        | (go_at_call 30; refine (sSetValid_any w6 Ax _ cx all HO6.out.reads.2 (by have := HAL.out; omega)).mono ?_; rintro e w7 ⟨rfl, hb7⟩; rw [HS.out]; have HBX := Lib.hid (bl_trans HB6.out hb7); clear hb7))
      go_ret2
      exact ⟨_, _, rfl, own_more (Own.empty _) HBX.out.size, bl_alloc HBX.out _⟩
    have HS := Lib.hid hs
    rcases hpol with rfl | rfl
    · cases ho : assignOf all with
      | none =>
        obtain ⟨hbf, huf⟩ := adm_place_none (t := ⟨lo, hi', du, ev, cr⟩) hh (by rw [← HALL.out]; exact ho)
        obtain rfl : b = false := by rw [← hbb]; exact hbf
        obtain rfl : us = [] := by rw [huu]; exact huf
        have HOO := Lib.hid ho
        clear hbb huu hh hs ho hbf huf HBX
        go_wp2_with (first
          | (go_at_call 24; refine (sHoldsBy_is w5 _ n c ts 0 ((H.out.below HB5.out).more HB5.out.size) hn true HH.out).mono ?_; rintro e w6 ⟨rfl, hb6⟩; have HB6 := Lib.hid (bl_trans HB5.out hb6); have HO6 := Lib.hid (HO2.out.below hb6); clear hb6)
          | (go_at_call 30; refine (sSetValid_any w6 Ax _ cx all HO6.out.reads.2 (by have := HAL.out; omega)).mono ?_; rintro e w7 ⟨rfl, hb7⟩; rw [HS.out]; have HB7 := Lib.hid (bl_trans HB6.out hb7); have HO7 := Lib.hid (HO6.out.below hb7); clear hb7)
          | (go_at_call 64; refine (sAssign_is w7 Ax _ cx all HO7.out.reads.2 (by have := HAL.out; omega) none HOO.out).mono ?_; rintro e w8 ⟨A8, c8, rfl, ho8, hb8⟩; have HBX := Lib.hid (bl_trans HB7.out hb8); clear hb8 ho8))
        go_ret2
        exact ⟨_, _, rfl, own_more (Own.empty _) HBX.out.size, bl_alloc HBX.out _⟩
      | some o =>
        obtain ⟨hbf, huf⟩ := adm_place_some (t := ⟨lo, hi', du, ev, cr⟩) hh (by rw [← HALL.out]; exact ho)
        obtain rfl : b = true := by rw [← hbb]; exact hbf
        obtain rfl : us = putN all o := by rw [huu, HALL.out]; exact huf
        obtain ⟨_, hper, _⟩ := assign_some ho
        have HIN : Hid (InL all o) := Lib.hid (fun i hi => List.mem_range.1 (hper.mem_iff.1 hi))
        have hol : o.length ≤ 100 := by rw [hper.length_eq, List.length_range]; have := setB_len hs; omega
        have HOO := Lib.hid ho
        clear hbb huu hh hs ho hbf huf hper HBX
        go_wp2_with (first
          | (go_at_call 24; refine (sHoldsBy_is w5 _ n c ts 0 ((H.out.below HB5.out).more HB5.out.size) hn true HH.out).mono ?_; rintro e w6 ⟨rfl, hb6⟩; have HB6 := Lib.hid (bl_trans HB5.out hb6); have HO6 := Lib.hid (HO2.out.below hb6); clear hb6)
          | (go_at_call 30; refine (sSetValid_any w6 Ax _ cx all HO6.out.reads.2 (by have := HAL.out; omega)).mono ?_; rintro e w7 ⟨rfl, hb7⟩; rw [HS.out]; have HB7 := Lib.hid (bl_trans HB6.out hb7); have HO7 := Lib.hid (HO6.out.below hb7); clear hb7)
          | (go_at_call 64; refine (sAssign_is w7 Ax _ cx all HO7.out.reads.2 (by have := HAL.out; omega) (some o) HOO.out).mono ?_; rintro e w8 ⟨A8, c8, rfl, ho8, hb8⟩; have HB8 := Lib.hid (bl_trans HB7.out hb8); have HO8 := Lib.hid (HO7.out.below hb8); have HZ8 := Lib.hid (show Zs w8 w8.heap.size A8 _ (toZ o) from ho8.reads); clear hb8 ho8)
          | (go_at_call 65; refine (sPut_is w8 Ax _ cx all A8 _ c8 o HO8.out.reads.2 HZ8.out HIN.out hol).mono ?_; rintro e w9 ⟨A9, c9, rfl, ho9, hb9⟩; have HB9 := Lib.hid (bl_trans HB8.out hb9); have HO9 := Lib.hid (own_more ho9 HB8.out.size); clear hb9 ho9))
        go_ret2
        exact ⟨A9, c9, rfl, HO9.out, HB9.out⟩
    · obtain ⟨r, hr⟩ : ∃ r, virtV all = r := ⟨_, rfl⟩
      have HR := Lib.hid hr
      have hbr : b = r := by rw [← hbb, ← hr, HALL.out]; exact adm_due hh (by decide)
      subst hbr
      have huu2 : us = if b then all else [] := by
        cases b
        · rw [huu]; exact adm_nil hbb
        · rw [huu]
          have hb2 : hBy (ts ++ [(⟨lo, hi', du, ev, cr⟩ : Tk)]) 1 = true := by rw [← HALL.out]; exact hr
          rw [(adm_due_some hh (by decide) hb2).2, ← HALL.out]; rfl
      clear hbb huu hh hs hr HBX
      cases b
      · obtain rfl : us = [] := huu2
        go_wp2_with (first
          | (go_at_call 24; refine (sHoldsBy_is w5 _ n c ts 1 ((H.out.below HB5.out).more HB5.out.size) hn true HH.out).mono ?_; rintro e w6 ⟨rfl, hb6⟩; have HB6 := Lib.hid (bl_trans HB5.out hb6); have HO6 := Lib.hid (HO2.out.below hb6); clear hb6)
          | (go_at_call 30; refine (sSetValid_any w6 Ax _ cx all HO6.out.reads.2 (by have := HAL.out; omega)).mono ?_; rintro e w7 ⟨rfl, hb7⟩; rw [HS.out]; have HB7 := Lib.hid (bl_trans HB6.out hb7); have HO7 := Lib.hid (HO6.out.below hb7); clear hb7)
          | (go_at_call 39; refine (sVirt_is w7 Ax _ cx all HO7.out.reads.2 (by have := HAL.out; omega) false HR.out).mono ?_; rintro e w8 ⟨rfl, hb8⟩; have HBX := Lib.hid (bl_trans HB7.out hb8); clear hb8))
        go_ret2
        exact ⟨_, _, rfl, own_more (Own.empty _) HBX.out.size, bl_alloc HBX.out _⟩
      · obtain rfl : us = all := huu2
        go_wp2_with (first
          | (go_at_call 24; refine (sHoldsBy_is w5 _ n c ts 1 ((H.out.below HB5.out).more HB5.out.size) hn true HH.out).mono ?_; rintro e w6 ⟨rfl, hb6⟩; have HB6 := Lib.hid (bl_trans HB5.out hb6); have HO6 := Lib.hid (HO2.out.below hb6); clear hb6)
          | (go_at_call 30; refine (sSetValid_any w6 Ax _ cx us HO6.out.reads.2 (by have := HAL.out; omega)).mono ?_; rintro e w7 ⟨rfl, hb7⟩; rw [HS.out]; have HB7 := Lib.hid (bl_trans HB6.out hb7); have HO7 := Lib.hid (HO6.out.below hb7); clear hb7)
          | (go_at_call 39; refine (sVirt_is w7 Ax _ cx us HO7.out.reads.2 (by have := HAL.out; omega) true HR.out).mono ?_; rintro e w8 ⟨rfl, hb8⟩; have HB8 := Lib.hid (bl_trans HB7.out hb8); have HO8 := Lib.hid (HO7.out.below hb8); clear hb8))
        go_ret2
        exact ⟨Ax, cx, rfl, own_more HO8.out HB0.out.size, HB8.out⟩)

end Go.Proofs.YtgfnlfjaekkdfaaDoor
