/- The walk of the law FnLongestOf. -/
import Derived.Test.YtpalcnhceffcmaaDr8
import Derived.Test.YtpalcnhceffcmaaDr9
import Derived.Test.YtpalcnhceffcmaaNG
import Derived.Test.YtpalcnhceffcmaaLgP
import Derived.RegionTactic
import Derived.LoopTactic
import Derived.Deep.RegionHeld3
namespace Go.Proofs.Ytpalcnhceffcmaa
open Go.RowKit
set_option linter.unusedVariables false
structure JsAt (w : World) (A : Option Addr) (n : Nat) (js : List Jb) : Prop where
  j : Jbs w w.heap.size A n js
theorem JsAt.below {w w' : World} {A : Option Addr} {n : Nat} {js : List Jb} (h : JsAt w A n js) (hb : Below w.heap.size w w') : JsAt w' A n js := ⟨(h.j.below hb).more hb.size⟩
def gdL (z : Int) (js : List Jb) (en : List Int) (m : Int) (k : Nat) : Prop := (js.getD k ⟨0, 0, 0⟩).ta = z ∧ 0 ≤ en.getD k 0 ∧ en.getD k 0 - (js.getD k ⟨0, 0, 0⟩).tm = m
theorem gdL_at {z : Int} {js : List Jb} {en : List Int} {m : Int} {k : Nat} {ta tm ne x : Int} (hj : js[k]? = some ⟨ta, tm, ne⟩) (hx : en[k]? = some x) : gdL z js en m k ↔ ta = z ∧ 0 ≤ x ∧ x - tm = m := by
  unfold gdL; simp [List.getD, hj, hx]
theorem gdL_no {z : Int} {js : List Jb} {en : List Int} {m : Int} {q : Nat} {b : Bool} (h : b = true ∨ ∀ k, k < q → ¬ gdL z js en m k) (h2 : ¬ gdL z js en m q) : b = true ∨ ∀ k, k < q + 1 → ¬ gdL z js en m k :=
  h.imp id fun h k hk => if e : k = q then e ▸ h2 else h k (by omega)
theorem longV_some {z : Int} {js : List Jb} {en : List Int} {m : Int} (h : longV z js en = m) (h0 : ¬ m = 0) : en.length = js.length ∧ lgK z js en js.length = m := by
  unfold longV at h
  split at h
  · rename_i hc; exact ⟨hc, h⟩
  · exact absurd h.symm h0
theorem nice_at {js : List Jb} {en : List Int} (h : niceJ js en js.length) {z : Int} {m : Int} (hl : lgK z js en js.length = m) {k : Nat} (hk : k < js.length) {ta tm ne x : Int} (hj : js[k]? = some ⟨ta, tm, ne⟩) (hx : en[k]? = some x) : (-2 ≤ x ∧ x ≤ 1000) ∧ (0 ≤ tm ∧ tm ≤ 1000) ∧ (ta = z → 0 ≤ x → x - tm ≤ m) := by
  have h1 := h k hk
  have h2 := lg_ge (task := z) h k hk
  rw [hl] at h2
  simp [List.getD, hj, hx] at h1 h2
  exact ⟨h1.1, h1.2, h2⟩
theorem long_end {js : List Jb} {en : List Int} (h : niceJ js en js.length) {z : Int} {m : Int} (hl : lgK z js en js.length = m) (h0 : ¬ m = 0) {b : Bool} (hb : b = true ∨ ∀ k, k < js.length → ¬ gdL z js en m k) : b = true := by
  rcases hb with hb | hb
  · exact hb
  obtain ⟨k, hk, a, b, c⟩ := lg_some (task := z) h (by rw [hl]; exact h0)
  exact absurd ⟨a, b, by rw [← hl]; exact c⟩ (hb k hk)
set_option maxRecDepth 100000 in
set_option maxHeartbeats 4000000 in
theorem fnLongestOf_walk (w : World) (A : Option Addr) (n c : Nat) (f : Nat → Int) (h : Code w w.heap.size A n c f) :
    Calls Try.prog 5 #[.slice A n c] w fun e w' => e = .returned (.bool true) ∧ Below w.heap.size w w' := by
  have H := Lib.hid h
  have hle := h.le
  have hmax := h.max
  unfold maxLen at hmax
  clear h
  by_cases hn : 1048576 < n
  · go_enter Try.func5, Try.ntmps5
    go_wp2
    go_ret
    exact ⟨rfl, Below.refl _ _⟩
  go_enter Try.func5, Try.ntmps5
  go_wp2_with fail
  refine (dLong_any _ A n c f H.out).mono ?_
  rintro e w1 ⟨ts, A2, c2, js, A3, c3, en, A4, c4, tr, A5, c5, sw, hi, z, rfl, htl, hjl, hgj, hd, kj, k3, k4, k5, hb⟩
  have HB1 := Lib.hid hb
  have hs1 : w.heap.size ≤ w1.heap.size := hb.size
  obtain ⟨hel, htrl⟩ := drawn_len hd hjl
  have HR1 : Hid (RnAt w1 A3 en.length A4 tr.length A5 sw.length en tr sw) := Lib.hid ⟨k3.reads, k4.reads, k5.reads⟩
  have HJ1 : Hid (JsAt w1 A2 js.length js) := Lib.hid ⟨kj.reads.2⟩
  have KD := Lib.hid hd
  have KJ := Lib.hid hgj
  clear hb hd k3 k4 k5 kj hgj H
  obtain ⟨m, hm⟩ : ∃ m, longV z js en = m := ⟨_, rfl⟩
  have HLV := Lib.hid hm
  clear hm
  go_wp2_with fail
  refine (iLong_is _ A2 _ c2 js A3 _ c3 A4 _ c4 A5 _ c5 hi en (HJ1.out.below (by repeat (first | with_reducible exact Below.refl _ _ | with_reducible refine Below.drew ?_ | with_reducible refine bl_drewN ?_ _ | with_reducible refine bl_alloc ?_ _))).j (HR1.out.below (by repeat (first | with_reducible exact Below.refl _ _ | with_reducible refine Below.drew ?_ | with_reducible refine bl_drewN ?_ _ | with_reducible refine bl_alloc ?_ _))).e (by omega) (by omega) z m HLV.out).mono ?_
  rintro e w2 ⟨rfl, hb⟩
  have HB2 := Lib.hid (show Below w.heap.size w w2 from bl_trans (by repeat (first | with_reducible exact HB1.out | with_reducible refine Below.drew ?_ | with_reducible refine bl_drewN ?_ _ | with_reducible refine bl_alloc ?_ _)) hb)
  have hs2 : w1.heap.size ≤ w2.heap.size := by have := hb.size; (try simp at this); omega
  have bR2 := Lib.hid (show Blk w2 (w1.heap.size) 27 #[.slice A3 en.length c3, .slice A4 tr.length c4, .slice A5 sw.length c5, .bool hi] from Blk.below (by have hh := Blk.new (w1) 27 #[.slice A3 en.length c3, .slice A4 tr.length c4, .slice A5 sw.length c5, .bool hi]; (try simp only [World.size_alloc] at hh); repeat (first | exact hh | with_reducible refine Blk.drewN ?_ _ | with_reducible refine Blk.drewR ?_ | with_reducible refine Blk.alloc ?_ _)) hb (by first | omega | (simp; done) | (simp; omega)))
  have HR2 := Lib.hid (HR1.out.below (show Below w1.heap.size w1 w2 from bl_trans (by repeat (first | with_reducible exact Below.refl _ _ | with_reducible refine Below.drew ?_ | with_reducible refine bl_drewN ?_ _ | with_reducible refine bl_alloc ?_ _)) hb))
  have HJ2 := Lib.hid (HJ1.out.below (show Below w1.heap.size w1 w2 from bl_trans (by repeat (first | with_reducible exact Below.refl _ _ | with_reducible refine Below.drew ?_ | with_reducible refine bl_drewN ?_ _ | with_reducible refine bl_alloc ?_ _)) hb))
  clear hb   HR1 HJ1 HB1
  have cR := bR2.out.cell
  go_wp2_with fail
  refine (sLong_is _ A2 _ c2 js A3 _ c3 A4 _ c4 A5 _ c5 hi en (HJ2.out.below (by repeat (first | with_reducible exact Below.refl _ _ | with_reducible refine Below.drew ?_ | with_reducible refine bl_drewN ?_ _ | with_reducible refine bl_alloc ?_ _))).j (HR2.out.below (by repeat (first | with_reducible exact Below.refl _ _ | with_reducible refine Below.drew ?_ | with_reducible refine bl_drewN ?_ _ | with_reducible refine bl_alloc ?_ _))).e (by omega) (by omega) z m HLV.out).mono ?_
  rintro e w3 ⟨rfl, hb⟩
  have HB3 := Lib.hid (show Below w.heap.size w w3 from bl_trans (by repeat (first | with_reducible exact HB2.out | with_reducible refine Below.drew ?_ | with_reducible refine bl_drewN ?_ _ | with_reducible refine bl_alloc ?_ _)) hb)
  have hs3 : w2.heap.size ≤ w3.heap.size := by have := hb.size; (try simp at this); omega
  have bR3 := Lib.hid (show Blk w3 (w1.heap.size) 27 #[.slice A3 en.length c3, .slice A4 tr.length c4, .slice A5 sw.length c5, .bool hi] from Blk.below (by repeat (first | with_reducible exact bR2.out | with_reducible refine Blk.drewN ?_ _ | with_reducible refine Blk.drewR ?_ | with_reducible refine Blk.alloc ?_ _)) hb (by have := bR2.out.lt; first | exact this | omega | (simp; omega)))
  have HR3 := Lib.hid (HR2.out.below (show Below w2.heap.size w2 w3 from bl_trans (by repeat (first | with_reducible exact Below.refl _ _ | with_reducible refine Below.drew ?_ | with_reducible refine bl_drewN ?_ _ | with_reducible refine bl_alloc ?_ _)) hb))
  have HJ3 := Lib.hid (HJ2.out.below (show Below w2.heap.size w2 w3 from bl_trans (by repeat (first | with_reducible exact Below.refl _ _ | with_reducible refine Below.drew ?_ | with_reducible refine bl_drewN ?_ _ | with_reducible refine bl_alloc ?_ _)) hb))
  clear hb  bR2 HR2 HJ2 HB2 cR
  have cR := bR3.out.cell
  by_cases hm0 : m = 0
  · subst hm0
    go_wp2_with fail
    refine (sLong_is _ A2 _ c2 js A3 _ c3 A4 _ c4 A5 _ c5 hi en (HJ3.out.below (by repeat (first | with_reducible exact Below.refl _ _ | with_reducible refine Below.drew ?_ | with_reducible refine bl_drewN ?_ _ | with_reducible refine bl_alloc ?_ _))).j (HR3.out.below (by repeat (first | with_reducible exact Below.refl _ _ | with_reducible refine Below.drew ?_ | with_reducible refine bl_drewN ?_ _ | with_reducible refine bl_alloc ?_ _))).e (by omega) (by omega) z 0 HLV.out).mono ?_
    rintro e w4 ⟨rfl, hb⟩
    have HB4 := Lib.hid (show Below w.heap.size w w4 from bl_trans (by repeat (first | with_reducible exact HB3.out | with_reducible refine Below.drew ?_ | with_reducible refine bl_drewN ?_ _ | with_reducible refine bl_alloc ?_ _)) hb)
    have hs4 : w3.heap.size ≤ w4.heap.size := by have := hb.size; (try simp at this); omega
    have bR4 := Lib.hid (show Blk w4 (w1.heap.size) 27 #[.slice A3 en.length c3, .slice A4 tr.length c4, .slice A5 sw.length c5, .bool hi] from Blk.below (by repeat (first | with_reducible exact bR3.out | with_reducible refine Blk.drewN ?_ _ | with_reducible refine Blk.drewR ?_ | with_reducible refine Blk.alloc ?_ _)) hb (by have := bR3.out.lt; first | exact this | omega | (simp; omega)))
    have HR4 := Lib.hid (HR3.out.below (show Below w3.heap.size w3 w4 from bl_trans (by repeat (first | with_reducible exact Below.refl _ _ | with_reducible refine Below.drew ?_ | with_reducible refine bl_drewN ?_ _ | with_reducible refine bl_alloc ?_ _)) hb))
    have HJ4 := Lib.hid (HJ3.out.below (show Below w3.heap.size w3 w4 from bl_trans (by repeat (first | with_reducible exact Below.refl _ _ | with_reducible refine Below.drew ?_ | with_reducible refine bl_drewN ?_ _ | with_reducible refine bl_alloc ?_ _)) hb))
    clear hb  bR3 HR3 HJ3 HB3 cR
    have cR := bR4.out.cell
    go_wp2
    go_ret
    exact ⟨by simp, HB4.out⟩
  · obtain ⟨hlen, hlg⟩ := longV_some HLV.out hm0
    have HNICE := Lib.hid (drawn_nice KD.out KJ.out hlen)
    have HLEN := Lib.hid hlen
    have HLG := Lib.hid hlg
    clear hlen hlg
    have hmn : (m == 0) = false := by rw [beq_eq_false_iff_ne]; exact hm0
    go_wp2
    go_loopw [7, 8] (fun s i wr => ∃ (q : Nat) (b : Bool), q ≤ js.length ∧ i = .int .i64 (q : Int) ∧ s = .bool b ∧ Hid (b = true ∨ ∀ k, k < q → ¬ gdL z js en m k) ∧ Hid (Below w3.heap.size w3 wr)) (fun _ i _ => js.length - (intOf i).toNat)
    case atStart => exact ⟨0, false, Nat.zero_le _, rfl, rfl, Lib.hid (.inr fun k hk => absurd hk (Nat.not_lt_zero _)), Lib.hid (Below.refl _ _)⟩
    case round =>
      obtain ⟨q, b, hq, rfl, rfl, HS, HBL⟩ := hrel
      have bL := Lib.hid (bR3.out.below HBL.out bR3.out.lt)
      have HRL := Lib.hid (HR3.out.below HBL.out)
      have HJL := Lib.hid (HJ3.out.below HBL.out)
      clear cR
      have cR := bL.out.cell
      by_cases hlt : q < js.length
      · have q1 : (q : Int) < (js.length : Int) := by omega
        have q2 : (q : Int) < (en.length : Int) := by have := HLEN.out; omega
        have q0 : (0 : Int) ≤ (q : Int) := by omega
        obtain ⟨⟨ta, tm, ne⟩, hj⟩ : ∃ y, js[q]? = some y := ⟨js[q], List.getElem?_eq_getElem _⟩
        obtain ⟨x, hx⟩ : ∃ x, en[q]? = some x := ⟨en[q]'(by have := HLEN.out; omega), List.getElem?_eq_getElem _⟩
        obtain ⟨⟨hx1, hx2⟩, ⟨ht1, ht2⟩, hge⟩ := nice_at HNICE.out HLG.out hlt hj hx
        have HG := Lib.hid (gdL_at (z := z) (m := m) hj hx)
        obtain ⟨bj, oj, hAj, _, a0, a1, a2⟩ := HJL.out.j.at_ q _ hj
        subst hAj
        dsimp only at a0 a1 a2
        obtain ⟨be, oe, hAe, _, ec⟩ := HRL.out.e.at_ q x hx
        subst hAe
        clear hj hx
        by_cases h1 : ta = z
        case neg =>
          have t1 : (ta != z) = true := by rw [bne_iff_ne]; exact h1
          have HN := Lib.hid (gdL_no HS.out (fun e => h1 (HG.out.1 e).1))
          clear hge
          go_wp2
          go_roundw
          case rel => exact ⟨q + 1, b, by omega, by go_num, rfl, HN, HBL⟩
          case measure => simp [intOf]; omega
        subst h1
        have t1 : (ta != ta) = false := by simp
        by_cases h2 : x < 0
        · have HN := Lib.hid (gdL_no HS.out (fun e => by have := (HG.out.1 e).2.1; omega))
          clear hge
          go_wp2
          go_roundw
          case rel => exact ⟨q + 1, b, by omega, by go_num, rfl, HN, HBL⟩
          case measure => simp [intOf]; omega
        have hge2 : x - tm ≤ m := hge rfl (by omega)
        have hge3 : ¬ m < x - tm := by omega
        clear hge
        cases b with
        | true =>
          go_wp2_with fail
          go_region
          go_wp2_with fail
          go_region
          go_wp2
          go_roundw
          case rel => exact ⟨q + 1, true, by omega, by go_num, rfl, Lib.hid (.inl rfl), Lib.hid (by repeat (first | with_reducible exact HBL.out | with_reducible refine Below.drew ?_ | with_reducible refine bl_drewN ?_ _))⟩
          case measure => simp [intOf]; omega
        | false =>
          by_cases h4 : x - tm = m
          · have t4 : (x - tm == m) = true := by rw [beq_iff_eq]; exact h4
            go_wp2_with fail
            go_region
            go_wp2_with fail
            go_region
            go_wp2
            go_roundw
            case rel => exact ⟨q + 1, true, by omega, by go_num, by simp, Lib.hid (.inl rfl), Lib.hid (by repeat (first | with_reducible exact HBL.out | with_reducible refine Below.drew ?_ | with_reducible refine bl_drewN ?_ _))⟩
            case measure => simp [intOf]; omega
          · have t4 : (x - tm == m) = false := by rw [beq_eq_false_iff_ne]; exact h4
            have HN := Lib.hid (gdL_no HS.out (fun e => h4 (HG.out.1 e).2.2))
            go_wp2_with fail
            go_region
            go_wp2_with fail
            go_region
            go_wp2
            go_roundw
            case rel => exact ⟨q + 1, false, by omega, by go_num, by simp, HN, Lib.hid (by repeat (first | with_reducible exact HBL.out | with_reducible refine Below.drew ?_ | with_reducible refine bl_drewN ?_ _))⟩
            case measure => simp [intOf]; omega
      · have q1 : ¬ (q : Int) < (js.length : Int) := by omega
        obtain rfl : q = js.length := by omega
        obtain rfl := long_end HNICE.out HLG.out hm0 HS.out
        go_wp2
        go_ret
        exact ⟨rfl, bl_trans HB3.out HBL.out⟩

end Go.Proofs.Ytpalcnhceffcmaa
