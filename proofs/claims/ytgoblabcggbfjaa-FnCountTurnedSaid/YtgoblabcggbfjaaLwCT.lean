/- The walk of the law FnCountTurned. -/
import Derived.Test.YtgoblabcggbfjaaLwTu
namespace Go.Proofs.Ytgoblabcggbfjaa
open Go.RowKit
set_option linter.unusedVariables false

set_option maxRecDepth 100000 in
set_option maxHeartbeats 4000000 in
theorem fnCountTurned_walk (w : World) (A : Option Addr) (n c : Nat) (f : Nat → Int) (h : Code w w.heap.size A n c f) :
    Calls Try.prog 6 #[.slice A n c] w fun e w' => e = .returned (.bool true) ∧ Below w.heap.size w w' := by
  have H := Lib.hid h
  have hle := h.le
  have hmax := h.max
  unfold maxLen at hmax
  clear h
  by_cases hn : 1048576 < n
  · go_enter Try.func6, Try.ntmps6
    go_wp2
    go_ret
    exact ⟨rfl, Below.refl _ _⟩
  go_enter Try.func6, Try.ntmps6
  go_wp2_with fail
  refine (dDrawCountOrders_any _ A n c f H.out).mono ?_
  rintro e w1 ⟨At, ct, ts, rfl, hl, ho, hb⟩
  have HB1 := Lib.hid hb
  have HO := Lib.hid ho
  have HT := Lib.hid ho.reads.2
  have hct := own_le ho
  clear hb ho H
  have HD1 := Lib.hid (Below.refl w1.heap.size w1)
  have hs1 := HB1.out.size
  obtain ⟨rs, hrs⟩ : ∃ rs, ts.reverse = rs := ⟨_, rfl⟩
  have HRS := Lib.hid hrs
  have HRL : Hid (rs.length = ts.length) := by show _ = _; rw [← hrs, List.length_reverse]
  clear hrs
  obtain ⟨r, hr⟩ : ∃ r, cntOf ts = r := ⟨_, rfl⟩
  have HR := Lib.hid hr
  clear hr
  go_wp2_with fail
  refine (iCount_is w1 At _ ct ts (tks_to HT.out HD1.out) (by omega) r HR.out).mono ?_
  rintro e w2 ⟨rfl, hb⟩
  have hs2 := hb.size
  have HB2 := Lib.hid (show Below w.heap.size w w2 from bl_trans HB1.out hb)
  have HD2 := Lib.hid (show Below w1.heap.size w1 w2 from bl_trans HD1.out hb)
  clear hb
  go_wp2_with fail
  refine (sCount_is w2 At _ ct ts (tks_to HT.out HD2.out) (by omega) r HR.out).mono ?_
  rintro e w3 ⟨rfl, hb⟩
  have hs3 := hb.size
  have HB3 := Lib.hid (show Below w.heap.size w w3 from bl_trans HB2.out hb)
  have HD3 := Lib.hid (show Below w1.heap.size w1 w3 from bl_trans HD2.out hb)
  clear hb
  go_wp2_with fail
  refine (iSetValid_any w3 At _ ct ts (tks_to HT.out HD3.out) (by omega)).mono ?_
  rintro e w4 ⟨rfl, hb⟩
  have hs4 := hb.size
  have HB4 := Lib.hid (show Below w.heap.size w w4 from bl_trans HB3.out hb)
  have HD4 := Lib.hid (show Below w1.heap.size w1 w4 from bl_trans HD3.out hb)
  clear hb
  cases hs : setB ts
  · obtain rfl : r = 0 := HR.out.symm.trans (cnt_bad hs)
    go_wp2_with fail
    refine (sCount_is w4 At _ ct ts (tks_to HT.out HD4.out) (by omega) 0 HR.out).mono ?_
    rintro e w5 ⟨rfl, hb⟩
    have hs5 := hb.size
    have HB5 := Lib.hid (show Below w.heap.size w w5 from bl_trans HB4.out hb)
    have HD5 := Lib.hid (show Below w1.heap.size w1 w5 from bl_trans HD4.out hb)
    clear hb
    go_wp2
    go_ret
    exact ⟨rfl, HB5.out⟩
  have HRT : Hid (cntOf rs = r) := by show _ = _; rw [← HRS.out]; exact (cnt_turn ts).trans HR.out
  clear hs
  go_wp2
  go_loopw [5, 6] (fun v i wr => ∃ (j : Nat) (z : Int), j ≤ ts.length ∧ z = (j : Int) - 1 ∧ i = .int .i64 z ∧ Own wr w4.heap.size v (tailR ts j) ∧ Below w4.heap.size w4 wr) (fun _ i _ => (intOf i + 1).toNat)
  case atStart => exact ⟨ts.length, _, Nat.le_refl _, rfl, by go_num, by rw [tailR_all]; exact Own.empty _, bl_alloc (Below.refl _ _) _⟩
  case round =>
    obtain ⟨j, z, hj, hz, rfl, ho, hb⟩ := hrel
    have HOt := Lib.hid ho
    have HBt := Lib.hid hb
    have hszt : w4.heap.size ≤ wr.heap.size := hb.size
    clear ho hb
    by_cases h0 : j = 0
    case neg =>
      obtain ⟨q, rfl⟩ : ∃ q, j = q + 1 := ⟨j - 1, by omega⟩
      obtain rfl : z = (q : Int) := by omega
      obtain ⟨t, ht⟩ := get_at (ts := ts) rfl (show q < ts.length by omega)
      obtain ⟨b, of, rfl, hbl, c0, c1, c2', c3, c4⟩ := (tks_to HT.out (bl_trans HD4.out HBt.out)).at_ q t ht
      have HTQ : Hid (tailR ts q = tailR ts (q + 1) ++ [t]) := tailR_step ht
      obtain ⟨us, hus⟩ : ∃ us, us = tailR ts (q + 1) := ⟨_, rfl⟩
      rw [← hus] at HOt HTQ
      have hlen : us.length ≤ 100 := by rw [hus]; exact Nat.le_trans (tailR_len _ _) (by omega)
      have hqi : (q : Int) < (ts.length : Int) := by omega
      have hq0 : (0 : Int) ≤ (q : Int) := by omega
      clear ht hz h0 hus
      obtain ⟨lo, hi', du, ev, cr⟩ := t
      dsimp only at c0 c1 c2' c3 c4
      obtain ⟨i0, hi0, hz0', hz1', hz2'⟩ := info_parts info_task
      have b1 : us.length + 1 ≤ maxLen := by unfold maxLen; omega
      have b2' : (us.length + 1) * 40 ≤ 140737488355328 := by omega
      go_wp2_with (at_builtin; refine wpList_append_own _ rfl (.tmp 39) (.tmp 44) 23 rfl w4.heap.size 36 i0 _ 5 40 Try.underlying23 hi0 hz0' hz1' hz2' rfl (by decide) _ us.length (us.flatMap Tk.cells) rfl (HOt.out.alloc _) ⟨wr.heap.size, 0, none⟩ 1 1 (Tk.cells ⟨lo, hi', du, ev, cr⟩) rfl rfl (cell_new5 _ ⟨lo, hi', du, ev, cr⟩ _) (by intro u hu; exact cells_one [⟨lo, hi', du, ev, cr⟩] u (by simpa using hu)) b1 b2' (by simp; omega) ?_; intro v' w4' hown' hgrow _)
      have HO4' := Lib.hid (Own.snoc hown')
      have HB4' := Lib.hid ((bl_alloc HBt.out _).grown hgrow (by simp; omega) (fun k e => (World.ownsRow.lt HOt.out k e).1))
      clear hown' hgrow b1 b2'
      go_wp2
      go_roundw
      case rel => exact ⟨q, (q : Int) - 1, by omega, rfl, by go_num, by rw [HTQ.out]; exact HO4'.out, HB4'.out⟩
      case measure => simp [intOf]
    case pos =>
      subst h0
      obtain rfl : z = -1 := by omega
      have HOR : Hid (Own wr w4.heap.size u5 rs) := by
        have h := HOt.out
        rw [tailR_zero HRS.out] at h
        exact h
      obtain ⟨AR, cR, rfl⟩ := HOR.out.form
      clear hz HOt
      obtain ⟨w5, hwr⟩ : ∃ w5, w5 = wr := ⟨_, rfl⟩
      rw [← hwr] at HOR HBt hszt ⊢
      clear hwr
      have hb := HBt.out
      have hs5 := hb.size
      have HB5 := Lib.hid (show Below w.heap.size w w5 from bl_trans HB4.out hb)
      have HD5 := Lib.hid (show Below w1.heap.size w1 w5 from bl_trans HD4.out hb)
      have HR5 := Lib.hid HOR.out.reads.2
      have hcR := own_le HOR.out
      clear hb
      go_wp2_with fail
      refine (iCount_is w5 AR _ cR rs HR5.out (by rw [HRL.out]; omega) r HRT.out).mono ?_
      rintro e w6 ⟨rfl, hb⟩
      have hs6 := hb.size
      have HB6 := Lib.hid (show Below w.heap.size w w6 from bl_trans HB5.out hb)
      have HD6 := Lib.hid (show Below w1.heap.size w1 w6 from bl_trans HD5.out hb)
      have HR6 := Lib.hid ((HR5.out.below hb).more hb.size)
      clear hb
      go_wp2
      go_ret
      exact ⟨rfl, HB6.out⟩

end Go.Proofs.Ytgoblabcggbfjaa
