/- Contract of the program's AdmitTask. Nothing that was there is written. -/
import Derived.Test.YtgfnlfjaekkdfaaGreatDoorAd
import Derived.Test.YtgfnlfjaekkdfaaGreatDoorHb
import Derived.Test.YtgfnlfjaekkdfaaGreatDoorSAd
import Derived.Test.YtgfnlfjaekkdfaaGreatDoorTcl
import Derived.Test.YtgfnlfjaekkdfaaGreatDoorNB
import Derived.Deep.RegionLaw
namespace Go.Proofs.YtgfnlfjaekkdfaaGreatDoor
open Go.RowKit
set_option linter.unusedVariables false

set_option maxRecDepth 100000 in
set_option maxHeartbeats 4000000 in
theorem iAdmit_is (w : World) (A : Option Addr) (n c : Nat) (ts : List Tk) (t : Tk) (pol : Int) (us : List Tk) (b : Bool) (h : Tks w w.heap.size A n ts) (hn : n ≤ 1048576) (hnc : n ≤ c) (e0 : Addr) (he : EG w e0) (hb : admB ts t pol = b) (hu : us = admL ts t pol) :
    Calls Tryz.prog 10 #[.slice A n c, .agg #[.int .i64 t.lo, .int .i64 t.hi, .int .i64 t.du, .int .i64 t.ev, .bool t.cr], .int .i64 pol] w (LsRes2 us b w) := by
  obtain ⟨i0, hi, hz0, hz1, hz2⟩ := info_parts info_task
  have H := Lib.hid h
  have HE := Lib.hid he
  have HL := Lib.hid h.len
  have HBB := Lib.hid hb
  have HU := Lib.hid hu
  clear h hb hu he
  obtain ⟨lo, hi', du, ev, cr⟩ := t
  dsimp only
  obtain ⟨W0, hW0⟩ : ∃ W0, w.alloc (.cells #[.int .i64 lo, .int .i64 hi', .int .i64 du, .int .i64 ev, .bool cr] 25) = W0 := ⟨_, rfl⟩
  have HW0 := Lib.hid hW0
  have hb0 : Below w.heap.size w W0 := by rw [← hW0]; exact bl_alloc (Below.refl _ _) _
  have bT : Blk W0 w.heap.size 25 #[.int .i64 lo, .int .i64 hi', .int .i64 du, .int .i64 ev, .bool cr] := by rw [← hW0]; exact Blk.new w _ _
  have HB0 := Lib.hid hb0
  have BT0 := Lib.hid bT
  clear hb0 bT
  obtain ⟨r0, hr0⟩ : ∃ r, hBy ts pol = r := ⟨_, rfl⟩
  have HH := Lib.hid hr0
  clear hr0
  cases r0
  · obtain rfl : b = false := by rw [← HBB.out]; exact adm_no HH.out
    obtain rfl : us = [] := by rw [HU.out]; exact adm_nil HBB.out
    go_enter Tryz.func10, Tryz.ntmps10
    go_wp2_with (go_at_call 14; refine (iHoldsBy_is W0 A n c ts pol ((H.out.below HB0.out).more HB0.out.size) hn hnc e0 (HE.out.below HB0.out) false HH.out).mono ?_; rintro e w2 ⟨rfl, hb2⟩; have HBW := Lib.hid (bl_trans HB0.out hb2); clear hb2)
    go_ret2
    exact ⟨none, 0, rfl, Own.nil_ _ _, HBW.out⟩
  have hn5 : n ≤ 5 := by have := setB_len (hBy_set HH.out); rw [HL.out] at this; exact this
  go_enter Tryz.func10, Tryz.ntmps10
  go_wp2_with (go_at_call 14; refine (iHoldsBy_is W0 A n c ts pol ((H.out.below HB0.out).more HB0.out.size) hn hnc e0 (HE.out.below HB0.out) true HH.out).mono ?_; rintro e w2 ⟨rfl, hb2⟩; have HBW := Lib.hid (bl_trans HB0.out hb2); have BT := Lib.hid (BT0.out.below hb2 BT0.out.lt); clear hb2)
  have H2 := Lib.hid ((H.out.below HBW.out).more HBW.out.size)
  have cT := BT.out.cell
  have cTA := fun (o : Obj) => (BT.out.alloc o).cell
  go_region_law (first | (refine step_append_own rfl (.tmp 16) (.tmp 18) 23 rfl w2.heap.size 25 i0 _ 5 40 Tryz.underlying23 hi hz0 hz1 hz2 rfl (by decide) (.slice A3 ts.length c3) ts.length (ts.flatMap Tk.cells) rfl (by first | exact HO1.out | exact HO1.out.alloc _) ⟨_, 0, none⟩ 1 1 (Tk.cells ⟨lo, hi', du, ev, cr⟩) rfl rfl (by first | exact cell_new5_at _ ⟨lo, hi', du, ev, cr⟩ _ _ rfl | (refine blk_cells (ty := 25) ⟨lo, hi', du, ev, cr⟩ (HNX.out _ _ _ ?_); exact Blk.new _ _ _)) (by intro u hu; exact cells_one [⟨lo, hi', du, ev, cr⟩] u (by simpa using hu)) (by have := HL.out; unfold maxLen; omega) (by have := HL.out; omega) (by have := HS1.out; first | exact this | (simp; omega)) ?_; intro v2 w5 hown2 hgrow2 _; have HB2 := Lib.hid (show Below w2.heap.size w2 w5 from (by first | exact HB1.out | exact bl_alloc HB1.out _ : Below w2.heap.size w2 _).grown hgrow2 (by have := HS1.out; first | exact this | (simp; omega)) (fun q e => (World.ownsRow.lt HO1.out q e).1)); have HO2 := Lib.hid (show Own w5 w2.heap.size v2 (ts ++ [⟨lo, hi', du, ev, cr⟩]) from Own.snoc hown2); clear hown2 hgrow2) | (go_simp; go_wp2_with (go_at_call 35; refine (iCloneT_is _ A n c ts ?_ hn).mono ?_; (exact (H2.out.below (by repeat (first | exact Below.refl _ _ | with_reducible refine Below.drew ?_ | with_reducible refine bl_alloc ?_ _) : Below w2.heap.size w2 _)).more (by first | exact Nat.le_refl _ | (simp; done) | (simp; omega))); rintro e w3 ⟨A3, c3, rfl, ho3, hb3⟩; have HO1 := Lib.hid (own_more ho3 (by first | exact Nat.le_refl _ | (simp; done) | (simp; omega)) : Own w3 w2.heap.size (.slice A3 ts.length c3) ts); have HNX := Lib.hid (fun (X : Nat) (ty : TypeId) (cs : Array Value) (h : Blk _ X ty cs) => h.below hb3 h.lt); have HB1 := Lib.hid (bl_trans (by repeat (first | exact Below.refl _ _ | with_reducible refine Below.drew ?_ | with_reducible refine bl_alloc ?_ _) : Below w2.heap.size w2 _) (hb3.mono (by first | exact Nat.le_refl _ | (simp; done) | (simp; omega))) : Below w2.heap.size w2 w3); have HS1 := Lib.hid HB1.out.size; have cT3 := (BT.out.below HB1.out BT.out.lt).cell; clear ho3 hb3)))
  all_goals (
    (try clear cTA)
    obtain ⟨all, hall⟩ : ∃ all, all = ts ++ [(⟨lo, hi', du, ev, cr⟩ : Tk)] := ⟨_, rfl⟩
    rw [← hall] at HO2
    obtain ⟨Ax, cx, rfl⟩ := HO2.out.form
    have HALL := Lib.hid hall
    have hal : all.length = n + 1 := by rw [hall, List.length_append, HL.out]; rfl
    have HAL := Lib.hid hal
    have HCX := own_le HO2.out
    have HB5 := Lib.hid (bl_trans HBW.out HB2.out)
    have HT5 := Lib.hid HO2.out.reads.2
    clear hall hal cT cT3
    have hbb := HBB.out
    have huu := HU.out
    have hh := HH.out
    have hn1 : all.length ≤ 1048576 := by have := HAL.out; omega
    have HE5 := Lib.hid (HE.out.below HB5.out)
    by_cases hp0 : pol = 0
    · subst hp0
      obtain ⟨r, hr⟩ : ∃ r, assignOf all = r := ⟨_, rfl⟩
      obtain ⟨o, ho, hin, hol⟩ : ∃ o, asgR r = toZ o ∧ InL all o ∧ o.length ≤ 100 ∧ us = putN all o ∧ b = r.isSome := by
        cases r with
        | none =>
          obtain ⟨hbf, huf⟩ := adm_place_none (t := ⟨lo, hi', du, ev, cr⟩) hh (by rw [← HALL.out]; exact hr)
          refine ⟨[], rfl, fun i hi => by simp at hi, Nat.zero_le _, ?_, ?_⟩
          · rw [huu]; exact huf
          · rw [← hbb]; exact hbf
        | some o =>
          obtain ⟨hbf, huf⟩ := adm_place_some (t := ⟨lo, hi', du, ev, cr⟩) hh (by rw [← HALL.out]; exact hr)
          obtain ⟨hs, hper, _⟩ := assign_some hr
          refine ⟨o, rfl, fun i hi => List.mem_range.1 (hper.mem_iff.1 hi), ?_, ?_, ?_⟩
          · rw [hper.length_eq, List.length_range]; have := setB_len hs; omega
          · rw [huu, HALL.out]; exact huf
          · rw [← hbb]; exact hbf
      obtain ⟨hol, hus, hbr⟩ := hol
      subst hus
      subst hbr
      have HR := Lib.hid hr
      have HO := Lib.hid ho
      have HIN := Lib.hid hin
      clear hbb huu hh hr ho hin HBB HU HH
      go_wp2_with (first
        | (go_at_call 36; refine (iAssign_is w5 Ax _ cx all HT5.out hn1 r HR.out).mono ?_; rintro e w8 ⟨A8, c8, rfl, ho8, hb8⟩; have HB8 := Lib.hid (bl_trans HB5.out hb8); have HT8 := Lib.hid ((HT5.out.below hb8).more hb8.size); have HZ8 := Lib.hid (show Zs w8 w8.heap.size A8 (asgR r).length (toZ o) from by rw [← HO.out]; exact ho8.reads); clear hb8 ho8)
        | (go_at_call 37; refine (iTasksAt_is w8 Ax _ cx all A8 _ c8 o HT8.out HZ8.out HIN.out hol).mono ?_; rintro e w9 ⟨A9, c9, rfl, ho9, hb9⟩; have HB9 := Lib.hid (bl_trans HB8.out hb9); have HO9 := Lib.hid (own_more ho9 HB8.out.size); clear ho9 hb9))
      go_ret2
      exact ⟨A9, c9, rfl, HO9.out, HB9.out⟩
    · have p0 : (pol == 0) = false := by simpa using hp0
      obtain ⟨r, hr⟩ : ∃ r, hBy all pol = r := ⟨_, rfl⟩
      have HR := Lib.hid hr
      have hbr : b = r := by rw [← hbb, ← hr, HALL.out]; exact adm_due hh hp0
      subst hbr
      have huu2 : us = if b then all else [] := by
        cases b
        · rw [huu]; exact adm_nil hbb
        · rw [huu]
          have hb2 : hBy (ts ++ [(⟨lo, hi', du, ev, cr⟩ : Tk)]) pol = true := by rw [← HALL.out]; exact hr
          rw [(adm_due_some hh hp0 hb2).2, ← HALL.out]; rfl
      clear hbb huu hh hr HBB HU HH
      cases b
      · obtain rfl : us = [] := huu2
        go_wp2_with (go_at_call 14; refine (iHoldsBy_is w5 Ax _ cx all pol HT5.out hn1 HCX e0 HE5.out false HR.out).mono ?_; rintro e w8 ⟨rfl, hb8⟩; have HB8 := Lib.hid (bl_trans HB5.out hb8); clear hb8)
        go_ret2
        exact ⟨none, 0, rfl, Own.nil_ _ _, HB8.out⟩
      · obtain rfl : us = all := huu2
        go_wp2_with (go_at_call 14; refine (iHoldsBy_is w5 Ax _ cx us pol HT5.out hn1 HCX e0 HE5.out true HR.out).mono ?_; rintro e w8 ⟨rfl, hb8⟩; have HB8 := Lib.hid (bl_trans HB5.out hb8); have HO8 := Lib.hid (own_more (HO2.out.below hb8) HBW.out.size); clear hb8)
        go_ret2
        exact ⟨Ax, cx, rfl, HO8.out, HB8.out⟩)

end Go.Proofs.YtgfnlfjaekkdfaaGreatDoor
