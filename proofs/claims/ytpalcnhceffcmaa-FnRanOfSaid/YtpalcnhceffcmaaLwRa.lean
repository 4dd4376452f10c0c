/- The walk of the law FnRanOf. -/
import Derived.Test.YtpalcnhceffcmaaDr8
import Derived.Test.YtpalcnhceffcmaaNG
import Derived.LoopTactic
import Derived.Deep.RegionHeld3
namespace Go.Proofs.Ytpalcnhceffcmaa
open Go.RowKit
set_option linter.unusedVariables false
theorem ran_le (z : Int) (l : List Int) : ranZ z l ≤ l.length := List.length_filter_le _ _
theorem ran_cons (z x : Int) (l : List Int) : ranZ z (x :: l) = (if x = z then 1 else 0) + ranZ z l := by
  unfold ranZ
  rw [List.filter_cons]
  by_cases h : x = z
  · rw [if_pos (by simpa using h), if_pos h, List.length_cons]; omega
  · rw [if_neg (by simpa using h), if_neg h]; omega
/-- Ticks of all tasks up to one. -/
def ranS (l : List Int) : Nat → Nat
  | 0 => ranZ (-1) l
  | k + 1 => ranS l k + ranZ (k : Int) l
theorem ranS_le : ∀ (l : List Int) (k : Nat), ranS l k ≤ (k + 1) * l.length
  | l, 0 => by simp only [ranS]; have := ran_le (-1) l; omega
  | l, k + 1 => by
    have h1 := ranS_le l k
    have h2 := ran_le (k : Int) l
    rw [ranS, show (k + 1 + 1) * l.length = (k + 1) * l.length + l.length by rw [Nat.add_mul (k + 1) 1, Nat.one_mul]]
    omega
theorem ranS_cons (x : Int) (l : List Int) : ∀ k : Nat, ranS (x :: l) k = (if x = -1 ∨ (0 ≤ x ∧ x < k) then 1 else 0) + ranS l k
  | 0 => by
    rw [ranS, ranS, ran_cons]
    by_cases h : x = -1
    · rw [if_pos h, if_pos (.inl h)]
    · rw [if_neg h, if_neg (by omega)]
  | k + 1 => by
    rw [ranS, ranS, ranS_cons x l k, ran_cons]
    by_cases h : x = (k : Int)
    · rw [if_pos h, if_neg (by omega), if_pos (by omega)]; omega
    · rw [if_neg h]
      by_cases h2 : x = -1 ∨ (0 ≤ x ∧ x < k)
      · rw [if_pos h2, if_pos (by omega)]; omega
      · rw [if_neg h2, if_neg (by omega)]; omega
theorem ranS_all {l : List Int} (h : l.all okX = true) : ranS l 5 = l.length := by
  induction l with
  | nil => rfl
  | cons x l ih =>
    rw [List.all_cons, Bool.and_eq_true] at h
    rw [ranS_cons, ih h.2, List.length_cons, if_pos (by
      have h1 := h.1
      unfold okX at h1
      simp at h1
      omega)]
    omega
theorem fmt_some {tr : List Int} (h : fmtT tr ≠ []) : tr.all okX = true ∧ (fmtT tr).length = tr.length := by
  unfold fmtT at *
  split at h
  · rename_i hc
    exact ⟨hc.2, by rw [if_pos hc]; simp⟩
  · exact absurd rfl h
set_option maxRecDepth 100000 in
set_option maxHeartbeats 4000000 in
theorem fnRanOf_walk (w : World) (A : Option Addr) (n c : Nat) (f : Nat → Int) (h : Code w w.heap.size A n c f) :
    Calls Try.prog 6 #[.slice A n c] w fun e w' => e = .returned (.bool true) ∧ Below w.heap.size w w' := by
  have H := Lib.hid h
  have hle := h.le
  have hmax := h.max
  unfold maxLen at hmax
  clear h
  by_cases hn : 1048576 < n
  · go_enter Try.func6, Try.ntmps6
    go_wp2
    go_ret
    exact ⟨rfl, Below.refl _ _⟩
  go_enter Try.func6, Try.ntmps6
  go_wp2_with fail
  refine (dRan_any _ A n c f H.out).mono ?_
  rintro e w1 ⟨ts, js, A3, c3, en, A4, c4, tr, A5, c5, sw, hi, z, rfl, htl, hjl, hd, k3, k4, k5, hb⟩
  have HB1 := Lib.hid hb
  have hs1 : w.heap.size ≤ w1.heap.size := hb.size
  obtain ⟨hel, htrl⟩ := drawn_len hd hjl
  have HR1 : Hid (RnAt w1 A3 en.length A4 tr.length A5 sw.length en tr sw) := Lib.hid ⟨k3.reads, k4.reads, k5.reads⟩
  have KD := Lib.hid hd
  clear hb hd k3 k4 k5 H
  go_wp2_with fail
  refine (iRan_is _ A3 _ c3 A4 _ c4 A5 _ c5 hi tr (HR1.out.below (by repeat (first | with_reducible exact Below.refl _ _ | with_reducible refine Below.drew ?_ | with_reducible refine bl_drewN ?_ _ | with_reducible refine bl_alloc ?_ _))).t (by omega) z).mono ?_
  rintro e w2 ⟨rfl, hb⟩
  have HB2 := Lib.hid (show Below w.heap.size w w2 from bl_trans (by repeat (first | with_reducible exact HB1.out | with_reducible refine Below.drew ?_ | with_reducible refine bl_drewN ?_ _ | with_reducible refine bl_alloc ?_ _)) hb)
  have hs2 : w1.heap.size ≤ w2.heap.size := by have := hb.size; (try simp at this); omega
  have bR2 := Lib.hid (show Blk w2 (w1.heap.size) 27 #[.slice A3 en.length c3, .slice A4 tr.length c4, .slice A5 sw.length c5, .bool hi] from Blk.below (by have hh := Blk.new (w1) 27 #[.slice A3 en.length c3, .slice A4 tr.length c4, .slice A5 sw.length c5, .bool hi]; (try simp only [World.size_alloc] at hh); repeat (first | exact hh | with_reducible refine Blk.drewN ?_ _ | with_reducible refine Blk.drewR ?_ | with_reducible refine Blk.alloc ?_ _)) hb (by first | omega | (simp; done) | (simp; omega)))
  have HR2 := Lib.hid (HR1.out.below (show Below w1.heap.size w1 w2 from bl_trans (by repeat (first | with_reducible exact Below.refl _ _ | with_reducible refine Below.drew ?_ | with_reducible refine bl_drewN ?_ _ | with_reducible refine bl_alloc ?_ _)) hb))
  clear hb   HR1 HB1
  have cR := bR2.out.cell
  have hS2 := (Blk.four bR2.out)
  go_wp2_with fail
  go_region_held3 (fun W => (W.cell? ⟨w1.heap.size, 0, none⟩ = some (.slice A3 en.length c3) ∧ W.cell? ⟨w1.heap.size, 1, none⟩ = some (.slice A4 tr.length c4) ∧ W.cell? ⟨w1.heap.size, 2, none⟩ = some (.slice A5 sw.length c5) ∧ W.cell? ⟨w1.heap.size, 3, none⟩ = some (.bool hi))) (first | exact hS2 | exact hS3 | exact hS4 | exact hS5)
      ((first
        | (go_at_call 23
           refine (sRan_is _ A3 _ c3 A4 _ c4 A5 _ c5 hi tr (HR2.out.below (by repeat (first | with_reducible exact Below.refl _ _ | with_reducible refine Below.drew ?_ | with_reducible refine bl_drewN ?_ _ | with_reducible refine bl_alloc ?_ _))).t (by omega) z).mono ?_
           rintro e w3 ⟨rfl, hb⟩
           have HB3 := Lib.hid (show Below w.heap.size w w3 from bl_trans (by repeat (first | with_reducible exact HB2.out | with_reducible refine Below.drew ?_ | with_reducible refine bl_drewN ?_ _ | with_reducible refine bl_alloc ?_ _)) hb)
           have hs3 : w2.heap.size ≤ w3.heap.size := by have := hb.size; (try simp at this); omega
           have bR3 := Lib.hid (show Blk w3 (w1.heap.size) 27 #[.slice A3 en.length c3, .slice A4 tr.length c4, .slice A5 sw.length c5, .bool hi] from Blk.below (by repeat (first | with_reducible exact bR2.out | with_reducible refine Blk.drewN ?_ _ | with_reducible refine Blk.drewR ?_ | with_reducible refine Blk.alloc ?_ _)) hb (by have := bR2.out.lt; first | exact this | omega | (simp; omega)))
           have HR3 := Lib.hid (HR2.out.below (show Below w2.heap.size w2 w3 from bl_trans (by repeat (first | with_reducible exact Below.refl _ _ | with_reducible refine Below.drew ?_ | with_reducible refine bl_drewN ?_ _ | with_reducible refine bl_alloc ?_ _)) hb))
           have cR := bR3.out.cell
           have hS3 := (Blk.four bR3.out)
           clear hb)
        | (go_at_call 24
           refine (iIdle_is _ A3 _ c3 A4 _ c4 A5 _ c5 hi tr (HR3.out.below (by repeat (first | with_reducible exact Below.refl _ _ | with_reducible refine Below.drew ?_ | with_reducible refine bl_drewN ?_ _ | with_reducible refine bl_alloc ?_ _))).t (by omega)).mono ?_
           rintro e w4 ⟨rfl, hb⟩
           have HB4 := Lib.hid (show Below w.heap.size w w4 from bl_trans (by repeat (first | with_reducible exact HB3.out | with_reducible refine Below.drew ?_ | with_reducible refine bl_drewN ?_ _ | with_reducible refine bl_alloc ?_ _)) hb)
           have hs4 : w3.heap.size ≤ w4.heap.size := by have := hb.size; (try simp at this); omega
           have bR4 := Lib.hid (show Blk w4 (w1.heap.size) 27 #[.slice A3 en.length c3, .slice A4 tr.length c4, .slice A5 sw.length c5, .bool hi] from Blk.below (by repeat (first | with_reducible exact bR3.out | with_reducible refine Blk.drewN ?_ _ | with_reducible refine Blk.drewR ?_ | with_reducible refine Blk.alloc ?_ _)) hb (by have := bR3.out.lt; first | exact this | omega | (simp; omega)))
           have HR4 := Lib.hid (HR3.out.below (show Below w3.heap.size w3 w4 from bl_trans (by repeat (first | with_reducible exact Below.refl _ _ | with_reducible refine Below.drew ?_ | with_reducible refine bl_drewN ?_ _ | with_reducible refine bl_alloc ?_ _)) hb))
           have cR := bR4.out.cell
           have hS4 := (Blk.four bR4.out)
           clear hb)
        | (go_at_call 25
           refine (sIdle_is _ A3 _ c3 A4 _ c4 A5 _ c5 hi tr (HR4.out.below (by repeat (first | with_reducible exact Below.refl _ _ | with_reducible refine Below.drew ?_ | with_reducible refine bl_drewN ?_ _ | with_reducible refine bl_alloc ?_ _))).t (by omega)).mono ?_
           rintro e w5 ⟨rfl, hb⟩
           have HB5 := Lib.hid (show Below w.heap.size w w5 from bl_trans (by repeat (first | with_reducible exact HB4.out | with_reducible refine Below.drew ?_ | with_reducible refine bl_drewN ?_ _ | with_reducible refine bl_alloc ?_ _)) hb)
           have hs5 : w4.heap.size ≤ w5.heap.size := by have := hb.size; (try simp at this); omega
           have bR5 := Lib.hid (show Blk w5 (w1.heap.size) 27 #[.slice A3 en.length c3, .slice A4 tr.length c4, .slice A5 sw.length c5, .bool hi] from Blk.below (by repeat (first | with_reducible exact bR4.out | with_reducible refine Blk.drewN ?_ _ | with_reducible refine Blk.drewR ?_ | with_reducible refine Blk.alloc ?_ _)) hb (by have := bR4.out.lt; first | exact this | omega | (simp; omega)))
           have HR5 := Lib.hid (HR4.out.below (show Below w4.heap.size w4 w5 from bl_trans (by repeat (first | with_reducible exact Below.refl _ _ | with_reducible refine Below.drew ?_ | with_reducible refine bl_drewN ?_ _ | with_reducible refine bl_alloc ?_ _)) hb))
           have cR := bR5.out.cell
           have hS5 := (Blk.four bR5.out)
           clear hb)))
  have cR := bR5.out.cell
  obtain ⟨l, hl⟩ : ∃ l, fmtT tr = l := ⟨_, rfl⟩
  have HL := Lib.hid hl
  go_wp2_with fail
  refine (iFmtT_is _ A3 _ c3 A4 _ c4 A5 _ c5 hi tr (HR5.out.below (by repeat (first | with_reducible exact Below.refl _ _ | with_reducible refine Below.drew ?_ | with_reducible refine bl_drewN ?_ _ | with_reducible refine bl_alloc ?_ _))).t (by omega)).mono ?_
  rintro e w6 ⟨rfl, hb⟩
  have HB6 := Lib.hid (show Below w.heap.size w w6 from bl_trans (by repeat (first | with_reducible exact HB5.out | with_reducible refine Below.drew ?_ | with_reducible refine bl_drewN ?_ _ | with_reducible refine bl_alloc ?_ _)) hb)
  have hs6 : w5.heap.size ≤ w6.heap.size := by have := hb.size; (try simp at this); omega
  have bR6 := Lib.hid (show Blk w6 (w1.heap.size) 27 #[.slice A3 en.length c3, .slice A4 tr.length c4, .slice A5 sw.length c5, .bool hi] from Blk.below (by repeat (first | with_reducible exact bR5.out | with_reducible refine Blk.drewN ?_ _ | with_reducible refine Blk.drewR ?_ | with_reducible refine Blk.alloc ?_ _)) hb (by have := bR5.out.lt; first | exact this | omega | (simp; omega)))
  have HR6 := Lib.hid (HR5.out.below (show Below w5.heap.size w5 w6 from bl_trans (by repeat (first | with_reducible exact Below.refl _ _ | with_reducible refine Below.drew ?_ | with_reducible refine bl_drewN ?_ _ | with_reducible refine bl_alloc ?_ _)) hb))
  clear hb  bR5 HR5 HB5 cR
  have cR := bR6.out.cell
  rw [HL.out]
  clear hl
  have hrl := ran_le z tr
  cases l with
  | nil =>
    go_wp2
    go_ret
    exact ⟨by simp, HB6.out⟩
  | cons b l =>
    obtain ⟨hall, hlen⟩ := fmt_some (tr := tr) (by rw [HL.out]; simp)
    rw [HL.out] at hlen
    have hsum := ranS_all hall
    clear hall
    have HLEN := Lib.hid hlen
    have HSUM := Lib.hid hsum
    clear hlen hsum
    go_wp2_with fail
    refine (iIdle_is _ A3 _ c3 A4 _ c4 A5 _ c5 hi tr (HR6.out.below (by repeat (first | with_reducible exact Below.refl _ _ | with_reducible refine Below.drew ?_ | with_reducible refine bl_drewN ?_ _ | with_reducible refine bl_alloc ?_ _))).t (by omega)).mono ?_
    rintro e w7 ⟨rfl, hb⟩
    have HB7 := Lib.hid (show Below w.heap.size w w7 from bl_trans (by repeat (first | with_reducible exact HB6.out | with_reducible refine Below.drew ?_ | with_reducible refine bl_drewN ?_ _ | with_reducible refine bl_alloc ?_ _)) hb)
    have hs7 : w6.heap.size ≤ w7.heap.size := by have := hb.size; (try simp at this); omega
    have bR7 := Lib.hid (show Blk w7 (w1.heap.size) 27 #[.slice A3 en.length c3, .slice A4 tr.length c4, .slice A5 sw.length c5, .bool hi] from Blk.below (by repeat (first | with_reducible exact bR6.out | with_reducible refine Blk.drewN ?_ _ | with_reducible refine Blk.drewR ?_ | with_reducible refine Blk.alloc ?_ _)) hb (by have := bR6.out.lt; first | exact this | omega | (simp; omega)))
    have HR7 := Lib.hid (HR6.out.below (show Below w6.heap.size w6 w7 from bl_trans (by repeat (first | with_reducible exact Below.refl _ _ | with_reducible refine Below.drew ?_ | with_reducible refine bl_drewN ?_ _ | with_reducible refine bl_alloc ?_ _)) hb))
    clear hb  bR6 HR6 HB6 cR
    have cR := bR7.out.cell
    go_wp2
    go_loopw [7, 8] (fun s i wr => ∃ q : Nat, q ≤ 5 ∧ i = .int .i64 (q : Int) ∧ s = .int .i64 ((ranS tr q : Nat) : Int) ∧ Hid (Below w7.heap.size w7 wr)) (fun _ i _ => 5 - (intOf i).toNat)
    case atStart => exact ⟨0, Nat.zero_le _, rfl, rfl, Lib.hid (Below.refl _ _)⟩
    case round =>
      obtain ⟨q, hq, rfl, rfl, HBL⟩ := hrel
      have hwl : w7.heap.size ≤ wr.heap.size := HBL.out.size
      have bL := Lib.hid (bR7.out.below HBL.out bR7.out.lt)
      have HRL := Lib.hid (HR7.out.below HBL.out)
      clear cR
      have cR := bL.out.cell
      have hsl := ranS_le tr q
      by_cases hlt : q < 5
      · have q1 : (q : Int) < 5 := by omega
        have hr1 := ran_le (q : Int) tr
        have hml : (q + 1) * tr.length ≤ 5 * 61 := Nat.mul_le_mul (by omega) htrl
        go_wp2_with fail
        refine (iRan_is _ A3 _ c3 A4 _ c4 A5 _ c5 hi tr HRL.out.t (by omega) (q : Int)).mono ?_
        rintro e wx ⟨rfl, hb⟩
        have HBX := Lib.hid (bl_trans HBL.out hb)
        clear hb cR hsl
        obtain ⟨rs, hrs⟩ : ∃ rs, ranS tr q = rs := ⟨_, rfl⟩
        obtain ⟨rq, hrq⟩ : ∃ rq, ranZ (q : Int) tr = rq := ⟨_, rfl⟩
        have hbig : rs ≤ 400 ∧ rq ≤ 61 := by have := ranS_le tr q; omega
        rw [hrs, hrq]
        have HRS : Hid (ranS tr (q + 1) = rs + rq) := Lib.hid (by rw [ranS, hrs, hrq])
        clear hrs hrq hr1 hml
        go_wp2
        go_roundw
        case rel => exact ⟨q + 1, by omega, by go_num, by rw [HRS.out]; go_num, HBX⟩
        case measure => simp [intOf]; omega
      · have q1 : ¬ (q : Int) < 5 := by omega
        obtain rfl : q = 5 := by omega
        rw [HSUM.out]
        have t1 : ((tr.length : Int) == (tr.length : Int)) = true := by simp
        have t3 : ((l.length : Int) + 1 == (tr.length : Int)) = true := by have := HLEN.out; rw [List.length_cons] at this; rw [beq_iff_eq]; omega
        clear hsl
        go_wp2
        go_ret
        exact ⟨rfl, bl_trans HB7.out HBL.out⟩

end Go.Proofs.Ytpalcnhceffcmaa
