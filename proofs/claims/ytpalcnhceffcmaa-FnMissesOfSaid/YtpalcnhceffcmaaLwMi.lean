/- The walk of the law FnMissesOf. -/
import Derived.Test.YtpalcnhceffcmaaDr8
import Derived.Test.YtpalcnhceffcmaaNG
import Derived.Test.YtpalcnhceffcmaaLgP
import Derived.RegionTactic
import Derived.LoopTactic
import Derived.Deep.RegionHeld3
namespace Go.Proofs.Ytpalcnhceffcmaa
open Go.RowKit
set_option linter.unusedVariables false
structure JsAtM (w : World) (A : Option Addr) (n : Nat) (js : List Jb) : Prop where
  j : Jbs w w.heap.size A n js
theorem JsAtM.below {w w' : World} {A : Option Addr} {n : Nat} {js : List Jb} (h : JsAtM w A n js) (hb : Below w.heap.size w w') : JsAtM w' A n js := ⟨(h.j.below hb).more hb.size⟩
structure TsAtM (w : World) (A : Option Addr) (n : Nat) (ts : List Tk) : Prop where
  t : Tks w w.heap.size A n ts
theorem TsAtM.below {w w' : World} {A : Option Addr} {n : Nat} {ts : List Tk} (h : TsAtM w A n ts) (hb : Below w.heap.size w w') : TsAtM w' A n ts := ⟨(h.t.below hb).more hb.size⟩
theorem miss_len {ts : List Tk} {js : List Jb} {en us : List Int} {n : Nat} (hu : missV ts js en n = us) : us.length ≤ js.length := by
  subst hu
  unfold missV
  split
  · exact places_len _ _
  · exact Nat.zero_le _
theorem miss_lt {ts : List Tk} {js : List Jb} {en us : List Int} {n : Nat} (hu : missV ts js en n = us) {q : Nat} {y z : Int} (hy : us[q]? = some y) (hz : us[q + 1]? = some z) : y < z := by
  have hp : us.Pairwise (· < ·) := by
    subst hu
    unfold missV
    split
    · exact places_asc _ _
    · exact List.Pairwise.nil
  obtain ⟨h1, rfl⟩ := List.getElem?_eq_some_iff.1 hy
  obtain ⟨h2, rfl⟩ := List.getElem?_eq_some_iff.1 hz
  exact List.pairwise_iff_getElem.1 hp _ _ h1 h2 (Nat.lt_succ_self _)
theorem miss_at {ts : List Tk} {js : List Jb} {en us : List Int} {n : Nat} (hu : missV ts js en n = us) (hg : ∀ t ∈ ts, goodTk t) (hen : ∀ x ∈ en, -2 ≤ x ∧ x ≤ 60) {q : Nat} {z : Int} (hz : us[q]? = some z) :
    ∃ (k : Nat) (ta tm ne x d : Int), z = (k : Int) ∧ k < js.length ∧ js[k]? = some ⟨ta, tm, ne⟩ ∧ en[k]? = some x ∧ en.length = js.length ∧ dueJ ts ⟨ta, tm, ne⟩ = (true, d) ∧ 0 ≤ d ∧ (x = -1 ∨ (0 ≤ x ∧ d < x)) := by
  have hm := List.mem_of_getElem? hz
  rw [← hu] at hm
  unfold missV at hm
  split at hm
  case isFalse => cases hm
  rename_i hc
  obtain ⟨k, e, hk, hp⟩ := places_mem.1 hm
  have hke : k < en.length := by omega
  have hjm : js[k] ∈ js := List.getElem_mem hk
  have hxm := hen _ (List.getElem_mem hke)
  have hd := due_ok hc.1 hjm
  have hjb := jobB_iff.1 (jobs_job hc.1 hjm)
  have hdu : 0 ≤ (tkOf ts js[k].ta).du := by
    have hlt : (js[k].ta).toNat < ts.length := by omega
    have : tkOf ts js[k].ta = ts[(js[k].ta).toNat] := by unfold tkOf; simp [List.getD, List.getElem?_eq_getElem hlt]
    rw [this]
    have := hg _ (List.getElem_mem hlt)
    unfold goodTk goodT at this
    omega
  refine ⟨k, js[k].ta, js[k].tm, js[k].ne, en[k], _, e, hk, List.getElem?_eq_getElem _, List.getElem?_eq_getElem _, hc.2, hd, by omega, ?_⟩
  unfold missB missX at hp
  simp only [List.getD, List.getElem?_eq_getElem hk, List.getElem?_eq_getElem hke, Option.getD_some] at hp
  rw [hd] at hp
  dsimp only at hp
  split at hp
  · rename_i h1; exact .inl h1
  · have := of_decide_eq_true hp; exact .inr ⟨by omega, this⟩
set_option maxRecDepth 100000 in
set_option maxHeartbeats 4000000 in
theorem fnMissesOf_walk (w : World) (A : Option Addr) (n c : Nat) (f : Nat → Int) (h : Code w w.heap.size A n c f) :
    Calls Try.prog 3 #[.slice A n c] w fun e w' => e = .returned (.bool true) ∧ Below w.heap.size w w' := by
  have H := Lib.hid h
  have hle := h.le
  have hmax := h.max
  unfold maxLen at hmax
  clear h
  by_cases hn : 1048576 < n
  · go_enter Try.func3, Try.ntmps3
    go_wp2
    go_ret
    exact ⟨rfl, Below.refl _ _⟩
  go_enter Try.func3, Try.ntmps3
  go_wp2_with fail
  refine (dMiss_any _ A n c f H.out).mono ?_
  rintro e w1 ⟨A1, c1, ts, A2, c2, js, A3, c3, en, A4, c4, tr, A5, c5, sw, hi, rfl, htl, hjl, hgt, hgj, hd, kt, kj, k3, k4, k5, hb⟩
  have HB1 := Lib.hid hb
  have hs1 : w.heap.size ≤ w1.heap.size := hb.size
  obtain ⟨hel, htrl⟩ := drawn_len hd hjl
  have HR1 : Hid (RnAt w1 A3 en.length A4 tr.length A5 sw.length en tr sw) := Lib.hid ⟨k3.reads, k4.reads, k5.reads⟩
  have HJ1 : Hid (JsAtM w1 A2 js.length js) := Lib.hid ⟨kj.reads.2⟩
  have HT1 : Hid (TsAtM w1 A1 ts.length ts) := Lib.hid ⟨kt.reads.2⟩
  have KD := Lib.hid hd
  have KG := Lib.hid hgt
  clear hb hd k3 k4 k5 kj kt hgj hgt H
  obtain ⟨us, hus⟩ : ∃ us, missV ts js en tr.length = us := ⟨_, rfl⟩
  have HUS := Lib.hid hus
  have hul : us.length ≤ js.length := miss_len hus
  clear hus
  go_wp2_with fail
  refine (iMiss_is _ A1 _ c1 ts (HT1.out.below (by repeat (first | with_reducible exact Below.refl _ _ | with_reducible refine Below.drew ?_ | with_reducible refine bl_drewN ?_ _ | with_reducible refine bl_alloc ?_ _))).t (by omega) A2 _ c2 js (HJ1.out.below (by repeat (first | with_reducible exact Below.refl _ _ | with_reducible refine Below.drew ?_ | with_reducible refine bl_drewN ?_ _ | with_reducible refine bl_alloc ?_ _))).j A3 _ c3 A4 _ c4 A5 _ c5 hi en (HR1.out.below (by repeat (first | with_reducible exact Below.refl _ _ | with_reducible refine Below.drew ?_ | with_reducible refine bl_drewN ?_ _ | with_reducible refine bl_alloc ?_ _))).e us HUS.out).mono ?_
  rintro e w2 ⟨X1, d1, rfl, o1, hb⟩
  have HB2 := Lib.hid (show Below w.heap.size w w2 from bl_trans (by repeat (first | with_reducible exact HB1.out | with_reducible refine Below.drew ?_ | with_reducible refine bl_drewN ?_ _ | with_reducible refine bl_alloc ?_ _)) hb)
  have hs2 : w1.heap.size ≤ w2.heap.size := by have := hb.size; (try simp at this); omega
  have bR2 := Lib.hid (show Blk w2 (w1.heap.size) 27 #[.slice A3 en.length c3, .slice A4 tr.length c4, .slice A5 sw.length c5, .bool hi] from Blk.below (by have hh := Blk.new (w1) 27 #[.slice A3 en.length c3, .slice A4 tr.length c4, .slice A5 sw.length c5, .bool hi]; (try simp only [World.size_alloc] at hh); repeat (first | exact hh | with_reducible refine Blk.drewN ?_ _ | with_reducible refine Blk.drewR ?_ | with_reducible refine Blk.alloc ?_ _)) hb (by first | omega | (simp; done) | (simp; omega)))
  have HR2 := Lib.hid (HR1.out.below (show Below w1.heap.size w1 w2 from bl_trans (by repeat (first | with_reducible exact Below.refl _ _ | with_reducible refine Below.drew ?_ | with_reducible refine bl_drewN ?_ _ | with_reducible refine bl_alloc ?_ _)) hb))
  have HJ2 := Lib.hid (HJ1.out.below (show Below w1.heap.size w1 w2 from bl_trans (by repeat (first | with_reducible exact Below.refl _ _ | with_reducible refine Below.drew ?_ | with_reducible refine bl_drewN ?_ _ | with_reducible refine bl_alloc ?_ _)) hb))
  have HT2 := Lib.hid (HT1.out.below (show Below w1.heap.size w1 w2 from bl_trans (by repeat (first | with_reducible exact Below.refl _ _ | with_reducible refine Below.drew ?_ | with_reducible refine bl_drewN ?_ _ | with_reducible refine bl_alloc ?_ _)) hb))
  have OX2 := Lib.hid o1
  clear o1
  clear hb   HR1 HJ1 HT1 HB1
  have cR := bR2.out.cell
  go_wp2_with fail
  refine (sMiss_is _ A1 _ c1 ts (HT2.out.below (by repeat (first | with_reducible exact Below.refl _ _ | with_reducible refine Below.drew ?_ | with_reducible refine bl_drewN ?_ _ | with_reducible refine bl_alloc ?_ _))).t (by omega) A2 _ c2 js (HJ2.out.below (by repeat (first | with_reducible exact Below.refl _ _ | with_reducible refine Below.drew ?_ | with_reducible refine bl_drewN ?_ _ | with_reducible refine bl_alloc ?_ _))).j A3 _ c3 A4 _ c4 A5 _ c5 hi en (HR2.out.below (by repeat (first | with_reducible exact Below.refl _ _ | with_reducible refine Below.drew ?_ | with_reducible refine bl_drewN ?_ _ | with_reducible refine bl_alloc ?_ _))).e us HUS.out).mono ?_
  rintro e w3 ⟨Y1, e1, rfl, o1, hb⟩
  have HB3 := Lib.hid (show Below w.heap.size w w3 from bl_trans (by repeat (first | with_reducible exact HB2.out | with_reducible refine Below.drew ?_ | with_reducible refine bl_drewN ?_ _ | with_reducible refine bl_alloc ?_ _)) hb)
  have hs3 : w2.heap.size ≤ w3.heap.size := by have := hb.size; (try simp at this); omega
  have bR3 := Lib.hid (show Blk w3 (w1.heap.size) 27 #[.slice A3 en.length c3, .slice A4 tr.length c4, .slice A5 sw.length c5, .bool hi] from Blk.below (by repeat (first | with_reducible exact bR2.out | with_reducible refine Blk.drewN ?_ _ | with_reducible refine Blk.drewR ?_ | with_reducible refine Blk.alloc ?_ _)) hb (by have := bR2.out.lt; first | exact this | omega | (simp; omega)))
  have HR3 := Lib.hid (HR2.out.below (show Below w2.heap.size w2 w3 from bl_trans (by repeat (first | with_reducible exact Below.refl _ _ | with_reducible refine Below.drew ?_ | with_reducible refine bl_drewN ?_ _ | with_reducible refine bl_alloc ?_ _)) hb))
  have HJ3 := Lib.hid (HJ2.out.below (show Below w2.heap.size w2 w3 from bl_trans (by repeat (first | with_reducible exact Below.refl _ _ | with_reducible refine Below.drew ?_ | with_reducible refine bl_drewN ?_ _ | with_reducible refine bl_alloc ?_ _)) hb))
  have HT3 := Lib.hid (HT2.out.below (show Below w2.heap.size w2 w3 from bl_trans (by repeat (first | with_reducible exact Below.refl _ _ | with_reducible refine Below.drew ?_ | with_reducible refine bl_drewN ?_ _ | with_reducible refine bl_alloc ?_ _)) hb))
  have OX3 := Lib.hid (OwnZ.below (w := w2) OX2.out (show Below w2.heap.size w2 w3 from bl_trans (by repeat (first | with_reducible exact Below.refl _ _ | with_reducible refine Below.drew ?_ | with_reducible refine bl_drewN ?_ _ | with_reducible refine bl_alloc ?_ _)) hb))
  have OY3 := Lib.hid o1
  clear o1
  clear hb  bR2 HR2 HJ2 HT2 OX2 HB2 cR
  have cR := bR3.out.cell
  go_wp2_with fail
  refine (dmInts_any _ X1 Y1 us.length d1 e1 us (OwnZ.reads (OX3.out.below (w := w3) (by repeat (first | with_reducible exact Below.refl _ _ | with_reducible refine Below.drew ?_ | with_reducible refine bl_drewN ?_ _ | with_reducible refine bl_alloc ?_ _)))) (OwnZ.reads (OY3.out.below (w := w3) (by repeat (first | with_reducible exact Below.refl _ _ | with_reducible refine Below.drew ?_ | with_reducible refine bl_drewN ?_ _ | with_reducible refine bl_alloc ?_ _)))) (by omega)).mono ?_
  rintro e w4 ⟨rfl, hb⟩
  have HB4 := Lib.hid (show Below w.heap.size w w4 from bl_trans (by repeat (first | with_reducible exact HB3.out | with_reducible refine Below.drew ?_ | with_reducible refine bl_drewN ?_ _ | with_reducible refine bl_alloc ?_ _)) hb)
  have hs4 : w3.heap.size ≤ w4.heap.size := by have := hb.size; (try simp at this); omega
  have bR4 := Lib.hid (show Blk w4 (w1.heap.size) 27 #[.slice A3 en.length c3, .slice A4 tr.length c4, .slice A5 sw.length c5, .bool hi] from Blk.below (by repeat (first | with_reducible exact bR3.out | with_reducible refine Blk.drewN ?_ _ | with_reducible refine Blk.drewR ?_ | with_reducible refine Blk.alloc ?_ _)) hb (by have := bR3.out.lt; first | exact this | omega | (simp; omega)))
  have HR4 := Lib.hid (HR3.out.below (show Below w3.heap.size w3 w4 from bl_trans (by repeat (first | with_reducible exact Below.refl _ _ | with_reducible refine Below.drew ?_ | with_reducible refine bl_drewN ?_ _ | with_reducible refine bl_alloc ?_ _)) hb))
  have HJ4 := Lib.hid (HJ3.out.below (show Below w3.heap.size w3 w4 from bl_trans (by repeat (first | with_reducible exact Below.refl _ _ | with_reducible refine Below.drew ?_ | with_reducible refine bl_drewN ?_ _ | with_reducible refine bl_alloc ?_ _)) hb))
  have HT4 := Lib.hid (HT3.out.below (show Below w3.heap.size w3 w4 from bl_trans (by repeat (first | with_reducible exact Below.refl _ _ | with_reducible refine Below.drew ?_ | with_reducible refine bl_drewN ?_ _ | with_reducible refine bl_alloc ?_ _)) hb))
  have OX4 := Lib.hid (OwnZ.below (w := w3) OX3.out (show Below w3.heap.size w3 w4 from bl_trans (by repeat (first | with_reducible exact Below.refl _ _ | with_reducible refine Below.drew ?_ | with_reducible refine bl_drewN ?_ _ | with_reducible refine bl_alloc ?_ _)) hb))
  have OY4 := Lib.hid (OwnZ.below (w := w3) OY3.out (show Below w3.heap.size w3 w4 from bl_trans (by repeat (first | with_reducible exact Below.refl _ _ | with_reducible refine Below.drew ?_ | with_reducible refine bl_drewN ?_ _ | with_reducible refine bl_alloc ?_ _)) hb))
  clear hb  bR3 HR3 HJ3 HT3 OX3 OY3 HB3 cR
  have cR := bR4.out.cell
  go_wp2
  go_loopw [7] (fun i wr => ∃ q : Nat, q ≤ us.length ∧ i = .int .i64 (q : Int) ∧ Hid (Below w4.heap.size w4 wr)) (fun i _ => us.length - (intOf i).toNat)
  case atStart => exact ⟨0, Nat.zero_le _, rfl, Lib.hid (Below.refl _ _)⟩
  case round =>
    obtain ⟨q, hq, rfl, HBL⟩ := hrel
    have bL := Lib.hid (bR4.out.below HBL.out bR4.out.lt)
    have HRL := Lib.hid (HR4.out.below HBL.out)
    have HJL := Lib.hid (HJ4.out.below HBL.out)
    have HTL := Lib.hid (HT4.out.below HBL.out)
    have HOL := Lib.hid (OwnZ.reads (OX4.out.below (w := w4) HBL.out))
    clear cR
    have cR := bL.out.cell
    by_cases hlt : q < us.length
    · have q1 : (q : Int) < (us.length : Int) := by omega
      have q0 : (0 : Int) ≤ (q : Int) := by omega
      obtain ⟨z, hz⟩ : ∃ z, us[q]? = some z := ⟨us[q], List.getElem?_eq_getElem _⟩
      obtain ⟨k, ta, tm, ne, x, d, rfl, hk, hj, hx, hlen, hdue, hd0, hxd⟩ := miss_at HUS.out KG.out (drawn_en KD.out) hz
      have k1 : (k : Int) < (js.length : Int) := by omega
      have k2 : (k : Int) < (en.length : Int) := by omega
      have k0 : (0 : Int) ≤ (k : Int) := by omega
      obtain ⟨bx, ox, hAx, hbx, xc⟩ := HOL.out.at_ q _ hz
      subst hAx
      obtain ⟨bj, oj, hAj, _, a0, a1, a2⟩ := HJL.out.j.at_ k _ hj
      subst hAj
      dsimp only at a0 a1 a2
      have HX := Lib.hid hx
      have HZ := Lib.hid hz
      clear hj hx hz hlen
      go_wp2_with fail
      refine (iDueAt_is _ A1 _ c1 ts HTL.out.t (by omega) ⟨ta, tm, ne⟩ true d hdue).mono ?_
      rintro e wx ⟨rfl, hb⟩
      have HBX := Lib.hid (bl_trans HBL.out hb)
      have bX := Lib.hid (bL.out.below hb bL.out.lt)
      have HRX := Lib.hid (HRL.out.below hb)
      have HOX := Lib.hid (HOL.out.below hb)
      clear hb cR xc a0 a1 a2 hdue
      have cR := bX.out.cell
      obtain ⟨be, oe, hAe, _, ec⟩ := HRX.out.e.at_ k _ HX.out
      subst hAe
      obtain ⟨_, _, hAx, _, xc⟩ := HOX.out.at_ q _ HZ.out
      cases hAx
      by_cases hq0 : q = 0
      · subst hq0
        simp only [Nat.add_zero] at xc
        rcases hxd with rfl | ⟨hx0, hxd⟩
        · have t0 : True := trivial
          go_wp2_with fail
          go_quiet (fail)
          go_wp2_with fail
          go_quiet (fail)
          go_wp2
          go_roundw
          case rel => exact ⟨1, by omega, rfl, Lib.hid (by repeat (first | with_reducible exact HBX.out | with_reducible refine Below.drew ?_ | with_reducible refine bl_drewN ?_ _))⟩
          case measure => simp [intOf]; omega
        · have t1 : (x == -2) = false := by rw [beq_eq_false_iff_ne]; omega
          have t2 : decide (0 ≤ x) = true := decide_eq_true hx0
          have t3 : decide (x ≤ d) = false := decide_eq_false (by omega)
          have t4 : ¬ x ≤ d := by omega
          have t5 : ¬ x = -2 := by omega
          go_wp2_with fail
          go_quiet (fail)
          go_wp2_with fail
          go_quiet (fail)
          go_wp2
          go_roundw
          case rel => exact ⟨1, by omega, rfl, Lib.hid (by repeat (first | with_reducible exact HBX.out | with_reducible refine Below.drew ?_ | with_reducible refine bl_drewN ?_ _))⟩
          case measure => simp [intOf]; omega
      · obtain ⟨p, hp⟩ : ∃ p, q = p + 1 := ⟨q - 1, by omega⟩
        obtain ⟨y, hy⟩ : ∃ y, us[p]? = some y := ⟨us[p]'(by omega), List.getElem?_eq_getElem _⟩
        have hyz := miss_lt HUS.out hy (hp ▸ HZ.out)
        obtain ⟨_, _, hAy, _, yc⟩ := HOX.out.at_ p _ hy
        cases hAy
        have hyz2 : decide ((k : Int) ≤ y) = false := decide_eq_false (by omega)
        have hyz3 : ¬ (k : Int) ≤ y := by omega
        have g1 : decide ((0 : Int) < (q : Int)) = true := decide_eq_true (by omega)
        have g2 : (0 : Int) < (q : Int) := by omega
        have g3 : decide (0 < q) = true := decide_eq_true (by omega)
        have g4 : 0 < q := by omega
        have p1 : (q : Int) - 1 = (p : Int) := by omega
        have p2 : (p : Int) < (us.length : Int) := by omega
        clear hy hp hq0
        rcases hxd with rfl | ⟨hx0, hxd⟩
        · have t0 : True := trivial
          go_wp2_with fail
          go_quiet (fail)
          go_wp2_with fail
          go_quiet (fail)
          go_wp2
          go_roundw
          case rel => exact ⟨q + 1, by omega, by go_num, Lib.hid (by repeat (first | with_reducible exact HBX.out | with_reducible refine Below.drew ?_ | with_reducible refine bl_drewN ?_ _))⟩
          case measure => simp [intOf]; omega
        · have t1 : (x == -2) = false := by rw [beq_eq_false_iff_ne]; omega
          have t2 : decide (0 ≤ x) = true := decide_eq_true hx0
          have t3 : decide (x ≤ d) = false := decide_eq_false (by omega)
          have t4 : ¬ x ≤ d := by omega
          have t5 : ¬ x = -2 := by omega
          go_wp2_with fail
          go_quiet (fail)
          go_wp2_with fail
          go_quiet (fail)
          go_wp2
          go_roundw
          case rel => exact ⟨q + 1, by omega, by go_num, Lib.hid (by repeat (first | with_reducible exact HBX.out | with_reducible refine Below.drew ?_ | with_reducible refine bl_drewN ?_ _))⟩
          case measure => simp [intOf]; omega
    · have q1 : ¬ (q : Int) < (us.length : Int) := by omega
      obtain rfl : q = us.length := by omega
      have u1 : (us.length : Int) ≤ (js.length : Int) := by omega
      go_wp2
      go_ret
      exact ⟨by simp, bl_trans HB4.out HBL.out⟩

end Go.Proofs.Ytpalcnhceffcmaa
