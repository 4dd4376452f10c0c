/- The walk of the law FnFormatTrace. -/
import Derived.Test.YtpalcnhceffcmaaDr8
import Derived.Test.YtpalcnhceffcmaaNG
import Derived.RegionTactic
import Derived.LoopTactic
import Derived.Deep.RegionHeld3
namespace Go.Proofs.Ytpalcnhceffcmaa
open Go.RowKit
set_option linter.unusedVariables false
theorem fmt_some2 {tr : List Int} (h : fmtT tr ≠ []) : tr.all okX = true ∧ (fmtT tr).length = tr.length := by
  unfold fmtT at *
  split at h
  · rename_i hc
    exact ⟨hc.2, by rw [if_pos hc]; simp⟩
  · exact absurd rfl h
theorem fmt_map {tr : List Int} (h : fmtT tr ≠ []) : fmtT tr = tr.map chB := by
  unfold fmtT at *
  split at h
  · rename_i hc
    rw [if_pos hc]
  · exact absurd rfl h
theorem fmt_byte {tr : List Int} {b : UInt8} {l : List UInt8} (hm : fmtT tr = tr.map chB) (hl : fmtT tr = b :: l) {q : Nat} {x : Int} (hx : tr[q]? = some x) (h : q < (⟨(b :: l).toArray⟩ : ByteArray).size) : (⟨(b :: l).toArray⟩ : ByteArray)[q]'h = chB x := by
  have h1 : (b :: l)[q]? = some (chB x) := by rw [← hl, hm, List.getElem?_map, hx]; rfl
  obtain ⟨_, e⟩ := List.getElem?_eq_some_iff.1 h1
  exact e
theorem ok_cases {tr : List Int} (h : tr.all okX = true) {q : Nat} {x : Int} (hx : tr[q]? = some x) : x = -1 ∨ 0 ≤ x ∧ x < 5 := by
  have h1 := List.all_eq_true.1 h x (List.mem_of_getElem? hx)
  unfold okX at h1
  simp at h1
  omega
theorem ran_le2 (z : Int) (l : List Int) : ranZ z l ≤ l.length := List.length_filter_le _ _
theorem ch_num {x : Int} (h0 : 0 ≤ x) (h5 : x < 5) : ((chB x).toNat : Int) = 48 + x := by
  obtain ⟨k, rfl⟩ := Int.eq_ofNat_of_zero_le h0
  unfold chB
  rw [if_neg (by omega)]
  simp
  omega
set_option maxRecDepth 100000 in
set_option maxHeartbeats 4000000 in
theorem fnFormatTrace_walk (w : World) (A : Option Addr) (n c : Nat) (f : Nat → Int) (h : Code w w.heap.size A n c f) :
    Calls Try.prog 7 #[.slice A n c] w fun e w' => e = .returned (.bool true) ∧ Below w.heap.size w w' := by
  have H := Lib.hid h
  have hle := h.le
  have hmax := h.max
  unfold maxLen at hmax
  clear h
  by_cases hn : 1048576 < n
  · go_enter Try.func7, Try.ntmps7
    go_wp2
    go_ret
    exact ⟨rfl, Below.refl _ _⟩
  go_enter Try.func7, Try.ntmps7
  go_wp2_with fail
  refine (dFmtTr_any _ A n c f H.out).mono ?_
  rintro e w1 ⟨ts, js, A3, c3, en, A4, c4, tr, A5, c5, sw, hi, rfl, htl, hjl, hd, k3, k4, k5, hb⟩
  have HB1 := Lib.hid hb
  have hs1 : w.heap.size ≤ w1.heap.size := hb.size
  obtain ⟨hel, htrl⟩ := drawn_len hd hjl
  have HR1 : Hid (RnAt w1 A3 en.length A4 tr.length A5 sw.length en tr sw) := Lib.hid ⟨k3.reads, k4.reads, k5.reads⟩
  have KD := Lib.hid hd
  clear hb hd k3 k4 k5 H
  obtain ⟨l, hl⟩ : ∃ l, fmtT tr = l := ⟨_, rfl⟩
  have HL := Lib.hid hl
  go_wp2_with fail
  refine (iFmtT_is _ A3 _ c3 A4 _ c4 A5 _ c5 hi tr (HR1.out.below (by repeat (first | with_reducible exact Below.refl _ _ | with_reducible refine Below.drew ?_ | with_reducible refine bl_drewN ?_ _ | with_reducible refine bl_alloc ?_ _))).t (by omega)).mono ?_
  rintro e w2 ⟨rfl, hb⟩
  have HB2 := Lib.hid (show Below w.heap.size w w2 from bl_trans (by repeat (first | with_reducible exact HB1.out | with_reducible refine Below.drew ?_ | with_reducible refine bl_drewN ?_ _ | with_reducible refine bl_alloc ?_ _)) hb)
  have hs2 : w1.heap.size ≤ w2.heap.size := by have := hb.size; (try simp at this); omega
  have bR2 := Lib.hid (show Blk w2 (w1.heap.size) 27 #[.slice A3 en.length c3, .slice A4 tr.length c4, .slice A5 sw.length c5, .bool hi] from Blk.below (by have hh := Blk.new (w1) 27 #[.slice A3 en.length c3, .slice A4 tr.length c4, .slice A5 sw.length c5, .bool hi]; (try simp only [World.size_alloc] at hh); repeat (first | exact hh | with_reducible refine Blk.drewN ?_ _ | with_reducible refine Blk.drewR ?_ | with_reducible refine Blk.alloc ?_ _)) hb (by first | omega | (simp; done) | (simp; omega)))
  have HR2 := Lib.hid (HR1.out.below (show Below w1.heap.size w1 w2 from bl_trans (by repeat (first | with_reducible exact Below.refl _ _ | with_reducible refine Below.drew ?_ | with_reducible refine bl_drewN ?_ _ | with_reducible refine bl_alloc ?_ _)) hb))
  clear hb   HR1 HB1
  have cR := bR2.out.cell
  rw [HL.out]
  go_wp2_with fail
  refine (sFmtT_is _ A3 _ c3 A4 _ c4 A5 _ c5 hi tr (HR2.out.below (by repeat (first | with_reducible exact Below.refl _ _ | with_reducible refine Below.drew ?_ | with_reducible refine bl_drewN ?_ _ | with_reducible refine bl_alloc ?_ _))).t (by omega)).mono ?_
  rintro e w3 ⟨rfl, hb⟩
  have HB3 := Lib.hid (show Below w.heap.size w w3 from bl_trans (by repeat (first | with_reducible exact HB2.out | with_reducible refine Below.drew ?_ | with_reducible refine bl_drewN ?_ _ | with_reducible refine bl_alloc ?_ _)) hb)
  have hs3 : w2.heap.size ≤ w3.heap.size := by have := hb.size; (try simp at this); omega
  have bR3 := Lib.hid (show Blk w3 (w1.heap.size) 27 #[.slice A3 en.length c3, .slice A4 tr.length c4, .slice A5 sw.length c5, .bool hi] from Blk.below (by repeat (first | with_reducible exact bR2.out | with_reducible refine Blk.drewN ?_ _ | with_reducible refine Blk.drewR ?_ | with_reducible refine Blk.alloc ?_ _)) hb (by have := bR2.out.lt; first | exact this | omega | (simp; omega)))
  have HR3 := Lib.hid (HR2.out.below (show Below w2.heap.size w2 w3 from bl_trans (by repeat (first | with_reducible exact Below.refl _ _ | with_reducible refine Below.drew ?_ | with_reducible refine bl_drewN ?_ _ | with_reducible refine bl_alloc ?_ _)) hb))
  clear hb  bR2 HR2 HB2 cR
  have cR := bR3.out.cell
  rw [HL.out]
  clear hl
  cases l with
  | nil =>
    go_wp2_with fail
    refine (sFmtT_is _ A3 _ c3 A4 _ c4 A5 _ c5 hi tr (HR3.out.below (by repeat (first | with_reducible exact Below.refl _ _ | with_reducible refine Below.drew ?_ | with_reducible refine bl_drewN ?_ _ | with_reducible refine bl_alloc ?_ _))).t (by omega)).mono ?_
    rintro e w4 ⟨rfl, hb⟩
    have HB4 := Lib.hid (show Below w.heap.size w w4 from bl_trans (by repeat (first | with_reducible exact HB3.out | with_reducible refine Below.drew ?_ | with_reducible refine bl_drewN ?_ _ | with_reducible refine bl_alloc ?_ _)) hb)
    have hs4 : w3.heap.size ≤ w4.heap.size := by have := hb.size; (try simp at this); omega
    have bR4 := Lib.hid (show Blk w4 (w1.heap.size) 27 #[.slice A3 en.length c3, .slice A4 tr.length c4, .slice A5 sw.length c5, .bool hi] from Blk.below (by repeat (first | with_reducible exact bR3.out | with_reducible refine Blk.drewN ?_ _ | with_reducible refine Blk.drewR ?_ | with_reducible refine Blk.alloc ?_ _)) hb (by have := bR3.out.lt; first | exact this | omega | (simp; omega)))
    have HR4 := Lib.hid (HR3.out.below (show Below w3.heap.size w3 w4 from bl_trans (by repeat (first | with_reducible exact Below.refl _ _ | with_reducible refine Below.drew ?_ | with_reducible refine bl_drewN ?_ _ | with_reducible refine bl_alloc ?_ _)) hb))
    clear hb  bR3 HR3 HB3 cR
    have cR := bR4.out.cell
    rw [HL.out]
    go_wp2
    go_ret
    exact ⟨by simp, HB4.out⟩
  | cons b l =>
    obtain ⟨hall, hlen⟩ := fmt_some2 (tr := tr) (by rw [HL.out]; simp)
    rw [HL.out] at hlen
    have HLEN := Lib.hid hlen
    have HMAP := Lib.hid (fmt_map (tr := tr) (by rw [HL.out]; simp))
    have HALL := Lib.hid hall
    clear hall
    have hLl : l.length + 1 = tr.length := by have := HLEN.out; rw [List.length_cons] at this; exact this
    have HLl := Lib.hid hLl
    clear hLl hlen
    go_wp2
    go_loopw [5, 6] (fun s i wr => ∃ q : Nat, q ≤ tr.length ∧ i = .int .i64 (q : Int) ∧ s = .int .i64 ((ranZ (-1) (tr.take q) : Nat) : Int) ∧ Hid (Below w3.heap.size w3 wr)) (fun _ i _ => tr.length - (intOf i).toNat)
    case atStart => exact ⟨0, Nat.zero_le _, rfl, by simp [ranZ], Lib.hid (Below.refl _ _)⟩
    case round =>
      obtain ⟨q, hq, rfl, rfl, HBL⟩ := hrel
      have bL := Lib.hid (bR3.out.below HBL.out bR3.out.lt)
      have HRL := Lib.hid (HR3.out.below HBL.out)
      clear cR
      have cR := bL.out.cell
      by_cases hlt : q < tr.length
      · have q1 : (q : Int) < (tr.length : Int) := by omega
        have q2 : (q : Int) < (l.length : Int) + 1 := by have := HLl.out; omega
        have q0 : (0 : Int) ≤ (q : Int) := by omega
        obtain ⟨x, hx⟩ : ∃ x, tr[q]? = some x := ⟨tr[q], List.getElem?_eq_getElem _⟩
        obtain ⟨be, oe, hAe, _, ec⟩ := HRL.out.t.at_ q x hx
        subst hAe
        have hql : q < (⟨(b :: l).toArray⟩ : ByteArray).size := by show q < (b :: l).toArray.size; rw [List.size_toArray, List.length_cons]; have := HLl.out; omega
        have hby := fmt_byte HMAP.out HL.out hx hql
        have hox := ok_cases HALL.out hx
        obtain ⟨m, hm⟩ : ∃ m, ranZ (-1) (tr.take q) = m := ⟨_, rfl⟩
        have hml : m ≤ 61 := by have h1 := ran_le2 (-1) (tr.take q); rw [List.length_take] at h1; omega
        have HM := Lib.hid hm
        rw [hm]
        by_cases hxm : x = -1
        · subst hxm
          have HN := Lib.hid (ran_yes hx hm)
          have hb1 : (((⟨(b :: l).toArray⟩ : ByteArray)[q]'hql).toNat : Int) = 46 := by rw [hby]; rfl
          clear hby hox hm hx
          go_wp2
          go_roundw
          case rel => exact ⟨q + 1, by omega, by go_num, by rw [HN.out]; go_num, HBL⟩
          case measure => simp [intOf]; omega
        · have HN := Lib.hid (ran_no hx (by simpa using hxm) hm)
          have hxr : 0 ≤ x ∧ x < 5 := by omega
          have hx5 : x = 0 ∨ x = 1 ∨ x = 2 ∨ x = 3 ∨ x = 4 := by omega
          clear hox hm hxr
          have HX := Lib.hid hx
          clear hx
          rcases hx5 with rfl | rfl | rfl | rfl | rfl
          · have hb1 : (((⟨(b :: l).toArray⟩ : ByteArray)[q]'hql).toNat : Int) = 48 := by rw [hby]; rfl
            have hb2 : ¬ ((48 : Int) = 46) := by omega
            clear hby hxm
            go_wp2_with fail
            go_region
            go_wp2
            go_roundw
            case rel => exact ⟨q + 1, by omega, by go_num, by rw [HN.out], Lib.hid (by repeat (first | with_reducible exact HBL.out | with_reducible refine Below.drew ?_ | with_reducible refine bl_drewN ?_ _))⟩
            case measure => simp [intOf]; omega
          · have hb1 : (((⟨(b :: l).toArray⟩ : ByteArray)[q]'hql).toNat : Int) = 49 := by rw [hby]; rfl
            have hb2 : ¬ ((49 : Int) = 46) := by omega
            clear hby hxm
            go_wp2_with fail
            go_region
            go_wp2
            go_roundw
            case rel => exact ⟨q + 1, by omega, by go_num, by rw [HN.out], Lib.hid (by repeat (first | with_reducible exact HBL.out | with_reducible refine Below.drew ?_ | with_reducible refine bl_drewN ?_ _))⟩
            case measure => simp [intOf]; omega
          · have hb1 : (((⟨(b :: l).toArray⟩ : ByteArray)[q]'hql).toNat : Int) = 50 := by rw [hby]; rfl
            have hb2 : ¬ ((50 : Int) = 46) := by omega
            clear hby hxm
            go_wp2_with fail
            go_region
            go_wp2
            go_roundw
            case rel => exact ⟨q + 1, by omega, by go_num, by rw [HN.out], Lib.hid (by repeat (first | with_reducible exact HBL.out | with_reducible refine Below.drew ?_ | with_reducible refine bl_drewN ?_ _))⟩
            case measure => simp [intOf]; omega
          · have hb1 : (((⟨(b :: l).toArray⟩ : ByteArray)[q]'hql).toNat : Int) = 51 := by rw [hby]; rfl
            have hb2 : ¬ ((51 : Int) = 46) := by omega
            clear hby hxm
            go_wp2_with fail
            go_region
            go_wp2
            go_roundw
            case rel => exact ⟨q + 1, by omega, by go_num, by rw [HN.out], Lib.hid (by repeat (first | with_reducible exact HBL.out | with_reducible refine Below.drew ?_ | with_reducible refine bl_drewN ?_ _))⟩
            case measure => simp [intOf]; omega
          · have hb1 : (((⟨(b :: l).toArray⟩ : ByteArray)[q]'hql).toNat : Int) = 52 := by rw [hby]; rfl
            have hb2 : ¬ ((52 : Int) = 46) := by omega
            clear hby hxm
            go_wp2_with fail
            go_region
            go_wp2
            go_roundw
            case rel => exact ⟨q + 1, by omega, by go_num, by rw [HN.out], Lib.hid (by repeat (first | with_reducible exact HBL.out | with_reducible refine Below.drew ?_ | with_reducible refine bl_drewN ?_ _))⟩
            case measure => simp [intOf]; omega
      · have q1 : ¬ (q : Int) < (tr.length : Int) := by omega
        have q2 : ¬ (q : Int) < (l.length : Int) + 1 := by have := HLl.out; omega
        obtain rfl : q = tr.length := by omega
        rw [List.take_length]
        have hml := ran_le2 (-1) tr
        go_wp2_with fail
        refine (iIdle_is _ A3 _ c3 A4 _ c4 A5 _ c5 hi tr HRL.out.t (by omega)).mono ?_
        rintro e wx ⟨rfl, hb⟩
        have HBX := Lib.hid (bl_trans HBL.out hb)
        clear hb
        obtain ⟨m, hm⟩ : ∃ m, ranZ (-1) tr = m := ⟨_, rfl⟩
        rw [hm]
        go_wp2
        go_ret
        exact ⟨by simp, bl_trans HB3.out HBX.out⟩

end Go.Proofs.Ytpalcnhceffcmaa
