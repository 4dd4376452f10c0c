/- The walk of the law FnDroppedOf. -/
import Derived.Test.YtpalcnhceffcmaaDr8
import Derived.Test.YtpalcnhceffcmaaNG
import Derived.RegionTactic
import Derived.LoopTactic
import Derived.Deep.RegionHeld3
namespace Go.Proofs.Ytpalcnhceffcmaa
open Go.RowKit
set_option linter.unusedVariables false
theorem places_succ (P : Nat → Bool) (n : Nat) : placesI P (n + 1) = placesI P n ++ (if P n then [(n : Int)] else []) := by
  cases h : P n
  · rw [places_no h]; simp
  · rw [places_yes h]; simp
def cntD (en : List Int) (q : Nat) : Nat := (placesI (dropP en) q).length
theorem cntD_le (en : List Int) (q : Nat) : cntD en q ≤ q := places_len _ _
theorem cntD_yes {en : List Int} {q : Nat} {x : Int} (hx : en[q]? = some x) (h : (x == -2) = true) : cntD en (q + 1) = cntD en q + 1 := by
  have hd : dropP en q = true := by unfold dropP; simp [List.getD, hx]; simpa using h
  unfold cntD; rw [places_yes hd, List.length_append]; rfl
theorem cntD_no {en : List Int} {q : Nat} {x : Int} (hx : en[q]? = some x) (h : (x == -2) = false) : cntD en (q + 1) = cntD en q := by
  have hd : dropP en q = false := by unfold dropP; simp [List.getD, hx]; simpa using h
  unfold cntD; rw [places_no hd]
theorem drop_atR {en us : List Int} (hu : placesI (dropP en) en.length = us) {i : Nat} {z : Int} (hz : us[i]? = some z) : ∃ k : Nat, z = (k : Int) ∧ k < en.length ∧ en[k]? = some (-2) := by
  obtain ⟨k, e, hk, hp⟩ := places_mem.1 (by rw [hu]; exact List.mem_of_getElem? hz : z ∈ placesI (dropP en) en.length)
  refine ⟨k, e, hk, ?_⟩
  unfold dropP at hp
  rw [List.getElem?_eq_getElem hk]
  simp [List.getD, List.getElem?_eq_getElem hk] at hp
  rw [hp]
theorem drop_is1 {en us : List Int} (hu : placesI (dropP en) en.length = us) (w : World) (A1 : Option Addr) (c1 : Nat) (A2 : Option Addr) (n2 c2 : Nat) (A3 : Option Addr) (n3 c3 : Nat) (hi : Bool) (h : Zs w w.heap.size A1 en.length en) (hn : en.length ≤ 1100000) :
    Calls Try.prog 16 #[.agg #[.slice A1 en.length c1, .slice A2 n2 c2, .slice A3 n3 c3, .bool hi]] w (ZsRes us w) := hu ▸ iDropped_is w A1 _ c1 A2 n2 c2 A3 n3 c3 hi en h hn
theorem drop_is2 {en us : List Int} (hu : placesI (dropP en) en.length = us) (w : World) (A1 : Option Addr) (c1 : Nat) (A2 : Option Addr) (n2 c2 : Nat) (A3 : Option Addr) (n3 c3 : Nat) (hi : Bool) (h : Zs w w.heap.size A1 en.length en) (hn : en.length ≤ 1100000) :
    Calls Try.prog 17 #[.agg #[.slice A1 en.length c1, .slice A2 n2 c2, .slice A3 n3 c3, .bool hi]] w (ZsRes us w) := hu ▸ sDropped_is w A1 _ c1 A2 n2 c2 A3 n3 c3 hi en h hn
set_option maxRecDepth 100000 in
set_option maxHeartbeats 4000000 in
theorem fnDroppedOf_walk (w : World) (A : Option Addr) (n c : Nat) (f : Nat → Int) (h : Code w w.heap.size A n c f) :
    Calls Try.prog 4 #[.slice A n c] w fun e w' => e = .returned (.bool true) ∧ Below w.heap.size w w' := by
  have H := Lib.hid h
  have hle := h.le
  have hmax := h.max
  unfold maxLen at hmax
  clear h
  by_cases hn : 1048576 < n
  · go_enter Try.func4, Try.ntmps4
    go_wp2
    go_ret
    exact ⟨rfl, Below.refl _ _⟩
  go_enter Try.func4, Try.ntmps4
  go_wp2_with fail
  refine (dDrop_any _ A n c f H.out).mono ?_
  rintro e w1 ⟨ts, js, A3, c3, en, A4, c4, tr, A5, c5, sw, hi, rfl, htl, hjl, hd, k3, k4, k5, hb⟩
  have HB1 := Lib.hid hb
  have hs1 : w.heap.size ≤ w1.heap.size := hb.size
  obtain ⟨hel, htrl⟩ := drawn_len hd hjl
  have HR1 : Hid (RnAt w1 A3 en.length A4 tr.length A5 sw.length en tr sw) := Lib.hid ⟨k3.reads, k4.reads, k5.reads⟩
  have KD := Lib.hid hd
  clear hb hd k3 k4 k5 H
  obtain ⟨us, hus⟩ : ∃ us, placesI (dropP en) en.length = us := ⟨_, rfl⟩
  have HUS := Lib.hid hus
  have hul : us.length ≤ en.length := by rw [← hus]; exact places_len _ _
  clear hus
  go_wp2_with fail
  refine (drop_is1 HUS.out _ A3 c3 A4 _ c4 A5 _ c5 hi (HR1.out.below (by repeat (first | with_reducible exact Below.refl _ _ | with_reducible refine Below.drew ?_ | with_reducible refine bl_drewN ?_ _ | with_reducible refine bl_alloc ?_ _))).e (by omega)).mono ?_
  rintro e w2 ⟨X1, d1, rfl, o1, hb⟩
  have HB2 := Lib.hid (show Below w.heap.size w w2 from bl_trans (by repeat (first | with_reducible exact HB1.out | with_reducible refine Below.drew ?_ | with_reducible refine bl_drewN ?_ _ | with_reducible refine bl_alloc ?_ _)) hb)
  have hs2 : w1.heap.size ≤ w2.heap.size := by have := hb.size; (try simp at this); omega
  have bR2 := Lib.hid (show Blk w2 (w1.heap.size) 27 #[.slice A3 en.length c3, .slice A4 tr.length c4, .slice A5 sw.length c5, .bool hi] from Blk.below (by have hh := Blk.new (w1) 27 #[.slice A3 en.length c3, .slice A4 tr.length c4, .slice A5 sw.length c5, .bool hi]; (try simp only [World.size_alloc] at hh); repeat (first | exact hh | with_reducible refine Blk.drewN ?_ _ | with_reducible refine Blk.drewR ?_ | with_reducible refine Blk.alloc ?_ _)) hb (by first | omega | (simp; done) | (simp; omega)))
  have HR2 := Lib.hid (HR1.out.below (show Below w1.heap.size w1 w2 from bl_trans (by repeat (first | with_reducible exact Below.refl _ _ | with_reducible refine Below.drew ?_ | with_reducible refine bl_drewN ?_ _ | with_reducible refine bl_alloc ?_ _)) hb))
  have OX2 := Lib.hid o1
  clear o1
  clear hb   HR1 HB1
  have cR := bR2.out.cell
  go_wp2_with fail
  refine (drop_is2 HUS.out _ A3 c3 A4 _ c4 A5 _ c5 hi (HR2.out.below (by repeat (first | with_reducible exact Below.refl _ _ | with_reducible refine Below.drew ?_ | with_reducible refine bl_drewN ?_ _ | with_reducible refine bl_alloc ?_ _))).e (by omega)).mono ?_
  rintro e w3 ⟨Y1, e1, rfl, o1, hb⟩
  have HB3 := Lib.hid (show Below w.heap.size w w3 from bl_trans (by repeat (first | with_reducible exact HB2.out | with_reducible refine Below.drew ?_ | with_reducible refine bl_drewN ?_ _ | with_reducible refine bl_alloc ?_ _)) hb)
  have hs3 : w2.heap.size ≤ w3.heap.size := by have := hb.size; (try simp at this); omega
  have bR3 := Lib.hid (show Blk w3 (w1.heap.size) 27 #[.slice A3 en.length c3, .slice A4 tr.length c4, .slice A5 sw.length c5, .bool hi] from Blk.below (by repeat (first | with_reducible exact bR2.out | with_reducible refine Blk.drewN ?_ _ | with_reducible refine Blk.drewR ?_ | with_reducible refine Blk.alloc ?_ _)) hb (by have := bR2.out.lt; first | exact this | omega | (simp; omega)))
  have HR3 := Lib.hid (HR2.out.below (show Below w2.heap.size w2 w3 from bl_trans (by repeat (first | with_reducible exact Below.refl _ _ | with_reducible refine Below.drew ?_ | with_reducible refine bl_drewN ?_ _ | with_reducible refine bl_alloc ?_ _)) hb))
  have OX3 := Lib.hid (OwnZ.below (w := w2) OX2.out (show Below w2.heap.size w2 w3 from bl_trans (by repeat (first | with_reducible exact Below.refl _ _ | with_reducible refine Below.drew ?_ | with_reducible refine bl_drewN ?_ _ | with_reducible refine bl_alloc ?_ _)) hb))
  have OY3 := Lib.hid o1
  clear o1
  clear hb  bR2 HR2 OX2 HB2 cR
  have cR := bR3.out.cell
  go_wp2_with fail
  refine (dmInts_any _ X1 Y1 us.length d1 e1 us (OwnZ.reads (OX3.out.below (w := w3) (by repeat (first | with_reducible exact Below.refl _ _ | with_reducible refine Below.drew ?_ | with_reducible refine bl_drewN ?_ _ | with_reducible refine bl_alloc ?_ _)))) (OwnZ.reads (OY3.out.below (w := w3) (by repeat (first | with_reducible exact Below.refl _ _ | with_reducible refine Below.drew ?_ | with_reducible refine bl_drewN ?_ _ | with_reducible refine bl_alloc ?_ _)))) (by omega)).mono ?_
  rintro e w4 ⟨rfl, hb⟩
  have HB4 := Lib.hid (show Below w.heap.size w w4 from bl_trans (by repeat (first | with_reducible exact HB3.out | with_reducible refine Below.drew ?_ | with_reducible refine bl_drewN ?_ _ | with_reducible refine bl_alloc ?_ _)) hb)
  have hs4 : w3.heap.size ≤ w4.heap.size := by have := hb.size; (try simp at this); omega
  have bR4 := Lib.hid (show Blk w4 (w1.heap.size) 27 #[.slice A3 en.length c3, .slice A4 tr.length c4, .slice A5 sw.length c5, .bool hi] from Blk.below (by repeat (first | with_reducible exact bR3.out | with_reducible refine Blk.drewN ?_ _ | with_reducible refine Blk.drewR ?_ | with_reducible refine Blk.alloc ?_ _)) hb (by have := bR3.out.lt; first | exact this | omega | (simp; omega)))
  have HR4 := Lib.hid (HR3.out.below (show Below w3.heap.size w3 w4 from bl_trans (by repeat (first | with_reducible exact Below.refl _ _ | with_reducible refine Below.drew ?_ | with_reducible refine bl_drewN ?_ _ | with_reducible refine bl_alloc ?_ _)) hb))
  have OX4 := Lib.hid (OwnZ.below (w := w3) OX3.out (show Below w3.heap.size w3 w4 from bl_trans (by repeat (first | with_reducible exact Below.refl _ _ | with_reducible refine Below.drew ?_ | with_reducible refine bl_drewN ?_ _ | with_reducible refine bl_alloc ?_ _)) hb))
  have OY4 := Lib.hid (OwnZ.below (w := w3) OY3.out (show Below w3.heap.size w3 w4 from bl_trans (by repeat (first | with_reducible exact Below.refl _ _ | with_reducible refine Below.drew ?_ | with_reducible refine bl_drewN ?_ _ | with_reducible refine bl_alloc ?_ _)) hb))
  clear hb  bR3 HR3 OX3 OY3 HB3 cR
  have cR := bR4.out.cell
  go_wp2
  go_loopw [5, 6] (fun s i wr => ∃ q : Nat, q ≤ en.length ∧ i = .int .i64 (q : Int) ∧ s = .int .i64 ((cntD en q : Nat) : Int) ∧ Hid (Below w4.heap.size w4 wr)) (fun _ i _ => en.length - (intOf i).toNat)
  case atStart => exact ⟨0, Nat.zero_le _, rfl, rfl, Lib.hid (Below.refl _ _)⟩
  case round =>
    obtain ⟨q, hq, rfl, rfl, HBQ⟩ := hrel
    have bQ := Lib.hid (bR4.out.below HBQ.out bR4.out.lt)
    have HRQ := Lib.hid (HR4.out.below HBQ.out)
    clear cR
    have cR := bQ.out.cell
    by_cases hlt : q < en.length
    · have q1 : (q : Int) < (en.length : Int) := by omega
      have q0 : (0 : Int) ≤ (q : Int) := by omega
      obtain ⟨x, hx⟩ : ∃ x, en[q]? = some x := ⟨en[q], List.getElem?_eq_getElem _⟩
      obtain ⟨be, oe, hAe, _, ec⟩ := HRQ.out.e.at_ q x hx
      subst hAe
      have hc := cntD_le en q
      cases ht : (x == -2)
      · have HN := Lib.hid (cntD_no hx ht)
        obtain ⟨m, hm⟩ : ∃ m, cntD en q = m := ⟨_, rfl⟩
        rw [hm] at HN hc ⊢
        clear hm hx
        go_wp2
        go_roundw
        case rel => exact ⟨q + 1, by omega, by go_num, by rw [HN.out], HBQ⟩
        case measure => simp [intOf]; omega
      · have HN := Lib.hid (cntD_yes hx ht)
        obtain ⟨m, hm⟩ : ∃ m, cntD en q = m := ⟨_, rfl⟩
        rw [hm] at HN hc ⊢
        clear hm hx
        go_wp2
        go_roundw
        case rel => exact ⟨q + 1, by omega, by go_num, by rw [HN.out]; go_num, HBQ⟩
        case measure => simp [intOf]; omega
    · have q1 : ¬ (q : Int) < (en.length : Int) := by omega
      obtain rfl : q = en.length := by omega
      have hcu : cntD en en.length = us.length := by unfold cntD; rw [HUS.out]
      rw [hcu]
      clear hcu
      go_wp2
      go_loopw [7] (fun i wr => ∃ t : Nat, t ≤ us.length ∧ i = .int .i64 (t : Int) ∧ Hid (Below w4.heap.size w4 wr)) (fun i _ => us.length - (intOf i).toNat)
      case atStart => exact ⟨0, Nat.zero_le _, rfl, HBQ⟩
      case round =>
        obtain ⟨t, htl2, rfl, HBL⟩ := hrel
        have bL := Lib.hid (bR4.out.below HBL.out bR4.out.lt)
        have HRL := Lib.hid (HR4.out.below HBL.out)
        have HOL := Lib.hid (OwnZ.reads (OX4.out.below (w := w4) HBL.out))
        clear cR
        have cR := bL.out.cell
        by_cases hlt2 : t < us.length
        · have t1 : (t : Int) < (us.length : Int) := by omega
          have t0 : (0 : Int) ≤ (t : Int) := by omega
          obtain ⟨z, hz⟩ : ∃ z, us[t]? = some z := ⟨us[t], List.getElem?_eq_getElem _⟩
          obtain ⟨k, rfl, hk, hek⟩ := drop_atR HUS.out hz
          obtain ⟨bx, ox, hAx, _, xc⟩ := HOL.out.at_ t _ hz
          subst hAx
          obtain ⟨be, oe, hAe, _, ec⟩ := HRL.out.e.at_ k _ hek
          subst hAe
          have k1 : (k : Int) < (en.length : Int) := by omega
          have k0 : (0 : Int) ≤ (k : Int) := by omega
          clear hz hek
          go_wp2_with fail
          go_region
          go_wp2
          go_roundw
          case rel => exact ⟨t + 1, by omega, by go_num, Lib.hid (by repeat (first | with_reducible exact HBL.out | with_reducible refine Below.drew ?_ | with_reducible refine bl_drewN ?_ _))⟩
          case measure => simp [intOf]; omega
        · have t1 : ¬ (t : Int) < (us.length : Int) := by omega
          obtain rfl : t = us.length := by omega
          go_wp2
          go_ret
          exact ⟨by simp, bl_trans HB4.out HBL.out⟩

end Go.Proofs.Ytpalcnhceffcmaa
