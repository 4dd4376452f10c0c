import Derived.Test.YtgponahmkjohiaaGreatDoorZPmL
import Derived.Test.YtgponahmkjohiaaGreatDoorZDrA
import Derived.Test.YtgponahmkjohiaaGreatDoorZMcN
namespace Go.Proofs.YtgponahmkjohiaaGreatDoor
open Go.RowKit
set_option linter.unusedVariables false
/-- Whether one of the first jobs has come before t and is not done by then. -/
def anyL (js : List Jb) (en : List Int) (t : Int) : Nat → Bool
  | 0 => false
  | k + 1 => anyL js en t k || leftB (jobOf js k).tm (en.getD k 0) t
theorem any_next (js : List Jb) (en : List Int) (t : Int) (k : Nat) : anyL js en t (k + 1) = (anyL js en t k || leftB (jobOf js k).tm (en.getD k 0) t) := rfl
theorem any_none {js : List Jb} {en : List Int} {t : Int} : ∀ {n : Nat}, (∀ k, k < n → leftB (jobOf js k).tm (en.getD k 0) t = false) → anyL js en t n = false
  | 0, _ => rfl
  | n + 1, h => by rw [any_next, any_none fun k hk => h k (by omega), h n (by omega)]; rfl
/-- Whether at one of the times a, a + 1 .. nothing is left. -/
def freeN (js : List Jb) (en : List Int) (a : Nat) : Nat → Bool
  | 0 => false
  | d + 1 => freeN js en a d || !anyL js en ((a + d : Nat) : Int) js.length
theorem free_next (js : List Jb) (en : List Int) (a d : Nat) : freeN js en a (d + 1) = (freeN js en a d || !anyL js en ((a + d : Nat) : Int) js.length) := rfl
theorem free_in {js : List Jb} {en : List Int} {a d : Nat} (h : anyL js en ((a + d : Nat) : Int) js.length = false) : ∀ {n : Nat}, d < n → freeN js en a n = true
  | n + 1, hd => by
    rw [free_next]
    by_cases e : d = n
    · subst e; rw [h]; simp
    · rw [free_in h (show d < n by omega)]; rfl
set_option maxRecDepth 100000 in
set_option maxHeartbeats 8000000 in
theorem fnRunIdleLow_walk (w : World) (A : Option Addr) (n c : Nat) (f : Nat → Int) (h : Code w w.heap.size A n c f) (e0 : Addr) (he : EG w e0) :
    Calls Tryz.prog 13 #[.slice A n c] w fun e w' => e = .returned (.bool true) ∧ Below w.heap.size w w' := by
  have H := Lib.hid h
  have HE := Lib.hid he
  have hle := h.le
  have hmax := h.max
  unfold maxLen at hmax
  clear h he
  by_cases hn : 1048576 < n
  · go_enter Tryz.func13, Tryz.ntmps13
    go_wp2
    go_ret
    exact ⟨rfl, Below.refl _ _⟩
  go_enter Tryz.func13, Tryz.ntmps13
  go_wp2_with fail
  refine (dDrawRun_any _ A n c f H.out).mono ?_
  rintro e w1 ⟨A1, c1, ts, A2, c2, js, pol, tk, rfl, htl, hjl, p0, p1, k0, k1, ho, hoj, hb⟩
  have HB1 := Lib.hid hb
  have HO1 := Lib.hid ho
  have HOJ1 := Lib.hid hoj
  have HT1 := Lib.hid ho.reads.2
  have HJ1 := Lib.hid hoj.reads.2
  have hct := own_le ho
  have hs1 := hb.size
  clear hb ho hoj H
  obtain ⟨s, hs⟩ : ∃ s, runR ts js pol tk = s := ⟨_, rfl⟩
  obtain ⟨b, hb⟩ : ∃ b, okR ts js pol tk = b := ⟨_, rfl⟩
  have HLN : Hid (s.en.length ≤ 61 ∧ s.tr.length ≤ 200 ∧ s.sw.length ≤ 200) := Lib.hid (by rw [← hs]; exact runR_len10 ts js pol tk hjl)
  have HRJ := Lib.hid (iRunJobs_is w1 A1 ts.length c1 ts HT1.out (by omega) A2 js.length c2 js HJ1.out pol tk e0 (HE.out.below HB1.out))
  rw [hs, hb] at HRJ
  have HS := Lib.hid hs
  have HOK := Lib.hid hb
  clear hs hb
  go_wp2_with fail
  refine HRJ.out.mono ?_
  clear HRJ
  obtain ⟨en, tr, sw, hi, wkx, nxx⟩ := s
  rintro e w2 ⟨B1, d1, B2, d2, B3, d3, rfl, o1, o2, o3, _, _, _, hb⟩
  dsimp only at o1 o2 o3 HLN ⊢
  have HB2 := Lib.hid hb
  have hs2 := hb.size
  have HE2 := Lib.hid o1
  have HTR2 := Lib.hid o2
  have HSW2 := Lib.hid o3
  clear hb o1 o2 o3
  obtain ⟨wz2, hwz2⟩ : ∃ wz, w2.alloc (.cells #[.slice none 0 0, .slice none 0 0, .slice none 0 0, .bool false] 29) = wz := ⟨_, rfl⟩
  have hz2 : Blk wz2 w2.heap.size 29 #[.slice none 0 0, .slice none 0 0, .slice none 0 0, .bool false] := hwz2 ▸ Blk.new w2 _ _
  have bz2 : Below w2.heap.size w2 wz2 := hwz2 ▸ bl_alloc (Below.refl _ _) _
  obtain ⟨za2, zb2, zc2, zd2⟩ := Blk.quad hz2
  have zf2 := hz2.frozen
  obtain ⟨w3, hwn2⟩ : ∃ wn, (((wz2.setCell ⟨w2.heap.size, 0, none⟩ (.slice B1 en.length d1)).setCell ⟨w2.heap.size, 1, none⟩ (.slice B2 tr.length d2)).setCell ⟨w2.heap.size, 2, none⟩ (.slice B3 sw.length d3)).setCell ⟨w2.heap.size, 3, none⟩ (.bool hi) = wn := ⟨_, rfl⟩
  have hX2 : Blk w3 w2.heap.size 29 #[(.slice B1 en.length d1), (.slice B2 tr.length d2), (.slice B3 sw.length d3), (.bool hi)] := by
    rw [← hwn2]
    have h := (((hz2.set_ 0 ((.slice B1 en.length d1))).set_ 1 ((.slice B2 tr.length d2))).set_ 2 ((.slice B3 sw.length d3))).set_ 3 ((.bool hi))
    simpa using h
  have hY2 : Below w2.heap.size w2 w3 := by
    rw [← hwn2]
    exact (((bl_set bz2 (by dsimp only; omega) _).setCell (by dsimp only; omega) _).setCell (by dsimp only; omega) _).setCell (by dsimp only; omega) _
  have HX3 := Lib.hid hX2
  have HY3 := Lib.hid hY2
  have hs3 := hY2.size
  have HT3 := Lib.hid ((HT1.out.below (bl_trans HB2.out HY3.out)).more (by omega : w1.heap.size ≤ w3.heap.size))
  have HJ3 := Lib.hid ((HJ1.out.below (bl_trans HB2.out HY3.out)).more (by omega : w1.heap.size ≤ w3.heap.size))
  have HSR := Lib.hid (sRunJobs_is w3 A1 ts.length c1 ts HT3.out (by omega) A2 js.length c2 js HJ3.out pol tk)
  rw [HS.out, HOK.out] at HSR
  clear hX2 hY2 hz2 bz2
  go_wp2_with fail
  refine HSR.out.mono ?_
  clear HSR za2 zb2 zc2 zd2 zf2 hwz2 hwn2
  rintro e w4 ⟨C1, f1, C2, f2, C3, f3, rfl, o1, o2, o3, _, _, _, hb⟩
  dsimp only at o1 o2 o3 ⊢
  have HB4 := Lib.hid hb
  have hs4 := hb.size
  have HE4 := Lib.hid o1
  have HTR4 := Lib.hid o2
  have HSW4 := Lib.hid o3
  clear hb o1 o2 o3
  obtain ⟨wz4, hwz4⟩ : ∃ wz, w4.alloc (.cells #[.slice none 0 0, .slice none 0 0, .slice none 0 0, .bool false] 29) = wz := ⟨_, rfl⟩
  have hz4 : Blk wz4 w4.heap.size 29 #[.slice none 0 0, .slice none 0 0, .slice none 0 0, .bool false] := hwz4 ▸ Blk.new w4 _ _
  have bz4 : Below w4.heap.size w4 wz4 := hwz4 ▸ bl_alloc (Below.refl _ _) _
  obtain ⟨za4, zb4, zc4, zd4⟩ := Blk.quad hz4
  have zf4 := hz4.frozen
  obtain ⟨w5, hwn4⟩ : ∃ wn, (((wz4.setCell ⟨w4.heap.size, 0, none⟩ (.slice C1 en.length f1)).setCell ⟨w4.heap.size, 1, none⟩ (.slice C2 tr.length f2)).setCell ⟨w4.heap.size, 2, none⟩ (.slice C3 sw.length f3)).setCell ⟨w4.heap.size, 3, none⟩ (.bool hi) = wn := ⟨_, rfl⟩
  have hX4 : Blk w5 w4.heap.size 29 #[(.slice C1 en.length f1), (.slice C2 tr.length f2), (.slice C3 sw.length f3), (.bool hi)] := by
    rw [← hwn4]
    have h := (((hz4.set_ 0 ((.slice C1 en.length f1))).set_ 1 ((.slice C2 tr.length f2))).set_ 2 ((.slice C3 sw.length f3))).set_ 3 ((.bool hi))
    simpa using h
  have hY4 : Below w4.heap.size w4 w5 := by
    rw [← hwn4]
    exact (((bl_set bz4 (by dsimp only; omega) _).setCell (by dsimp only; omega) _).setCell (by dsimp only; omega) _).setCell (by dsimp only; omega) _
  have HX5 := Lib.hid hX4
  have HY5 := Lib.hid hY4
  have hs5 := hY4.size
  have HB25 : Hid (Below w2.heap.size w2 w5) := Lib.hid (bl_trans HY3.out (bl_trans HB4.out HY5.out))
  have HB15 : Hid (Below w1.heap.size w1 w5) := Lib.hid (bl_trans HB2.out HB25.out)
  have HB05 : Hid (Below w.heap.size w w5) := Lib.hid (bl_trans HB1.out HB15.out)
  have HX35 := Lib.hid (HX3.out.below (bl_trans HB4.out HY5.out) HX3.out.lt)
  have HE5 := Lib.hid (HE2.out.below HB25.out)
  have HTR5 := Lib.hid (HTR2.out.below HB25.out)
  have HSW5 := Lib.hid (HSW2.out.below HB25.out)
  have HRN5 : Hid (RnAt w5 B1 en.length B2 tr.length B3 sw.length en tr sw) := Lib.hid ⟨HE5.out.reads, HTR5.out.reads, HSW5.out.reads⟩
  have HRM5 : Hid (RnAt w5 C1 en.length C2 tr.length C3 sw.length en tr sw) := Lib.hid ⟨(HE4.out.below HY5.out).reads, (HTR4.out.below HY5.out).reads, (HSW4.out.below HY5.out).reads⟩
  have HT5 := Lib.hid ((HT1.out.below HB15.out).more (by omega : w1.heap.size ≤ w5.heap.size))
  have HJ5 := Lib.hid ((HJ1.out.below HB15.out).more (by omega : w1.heap.size ≤ w5.heap.size))
  have HEG5 := Lib.hid (HE.out.below HB05.out)
  have HSM := Lib.hid (iSame_is w5 B1 en.length d1 B2 tr.length d2 B3 sw.length d3 hi en tr sw C1 en.length f1 C2 tr.length f2 C3 sw.length f3 hi en tr sw HRN5.out HRM5.out (by have := HLN.out; omega) (by have := HLN.out; omega) (by have := HLN.out; omega) (by have := HLN.out; omega) (by have := HLN.out; omega) (by have := HLN.out; omega) true (sameR_self _ _ _ _))
  obtain ⟨x0, x1, x2, x3⟩ := Blk.quad HX35.out
  obtain ⟨y0, y1, y2, y3⟩ := Blk.quad HX5.out
  clear hX4 hY4 hz4 bz4 HT3 HJ3 HX3 HTR4 HE4 HSW4
  cases b
  · go_wp2_with fail
    refine HSM.out.mono ?_
    rintro e w6 ⟨rfl, hb6⟩
    have HB6 := Lib.hid hb6
    have HSM2 := Lib.hid (iSame_is w6 B1 en.length d1 B2 tr.length d2 B3 sw.length d3 hi en tr sw C1 en.length f1 C2 tr.length f2 C3 sw.length f3 hi en tr sw (HRN5.out.below hb6) (HRM5.out.below hb6) (by have := HLN.out; omega) (by have := HLN.out; omega) (by have := HLN.out; omega) (by have := HLN.out; omega) (by have := HLN.out; omega) (by have := HLN.out; omega) true (sameR_self _ _ _ _))
    obtain ⟨u0, u1, u2, u3⟩ := Blk.quad (HX35.out.below hb6 HX35.out.lt)
    obtain ⟨v0, v1, v2, v3⟩ := Blk.quad (HX5.out.below hb6 HX5.out.lt)
    clear hb6 x0 x1 x2 x3 y0 y1 y2 y3 hwz4 hwn4 za4 zb4 zc4 zd4 zf4
    go_wp2_with fail
    refine HSM2.out.mono ?_
    rintro e w7 ⟨rfl, hb7⟩
    have HB7 := Lib.hid (bl_trans HB05.out (bl_trans HB6.out hb7))
    clear hb7 u0 u1 u2 u3 v0 v1 v2 v3
    go_wp2
    go_ret
    exact ⟨rfl, HB7.out⟩
  have hv : jobsB ts js = true := (okR_iff.1 HOK.out).1
  have htk : 0 ≤ tk ∧ tk ≤ 200 := (okR_iff.1 HOK.out).2.2
  obtain ⟨T, hT⟩ : ∃ T : Nat, tk = (T : Int) := ⟨tk.toNat, by omega⟩
  subst hT
  have hT2 : T ≤ 200 := by omega
  have HRUN : Hid (runM ts js (poOf ts pol) T = ⟨en, tr, sw, hi, wkx, nxx⟩) := Lib.hid (by rw [← HS.out, runR_ok HOK.out]; rfl)
  have HV := Lib.hid hv
  have hj60 : js.length ≤ 60 := (wrsB_iff.1 (jobs_wrs hv)).1
  clear hv htk
  go_wp2_with fail
  refine HSM.out.mono ?_
  clear HSM hwz4 hwn4 za4 zb4 zc4 zd4 zf4 x0 x1 x2 x3 y0 y1 y2 y3 HRM5
  rintro e w6 ⟨rfl, hb6⟩
  have HB6 := Lib.hid hb6
  have HB06 : Hid (Below w.heap.size w w6) := Lib.hid (bl_trans HB05.out hb6)
  have HX6 := Lib.hid (HX35.out.below hb6 HX35.out.lt)
  have HE6 := Lib.hid (HE5.out.below hb6)
  have HTR6 := Lib.hid (HTR5.out.below hb6)
  have HSW6 := Lib.hid (HSW5.out.below hb6)
  have HT6 := Lib.hid ((HT5.out.below hb6).more hb6.size)
  have HJ6 := Lib.hid ((HJ5.out.below hb6).more hb6.size)
  have HEG6 := Lib.hid (HEG5.out.below hb6)
  have hs6 := hb6.size
  clear hb6 HX35 HE5 HTR5 HSW5 HT5 HJ5 HEG5 HB6 HX5 HB25 HB15 HB4 HY5 HRN5 HE2 HTR2 HSW2 HT1 HJ1 HO1 HOJ1 HB1 HB2 HY3 HE
  have HD6 := Lib.hid (Below.refl w6.heap.size w6)
  have hv : jobsB ts js = true := HV.out
  have htr : tr.length = T := by
    have := tr_len (p := poOf ts pol) hv T
    rw [HRUN.out] at this
    exact this
  have hen : en.length = js.length := by
    have := en_len (p := poOf ts pol) hv T
    rw [HRUN.out] at this
    exact this
  have HTL := Lib.hid htr
  have HENL := Lib.hid hen
  have hlen := HLN.out
  clear htr hen
  clear hv
  go_wp2
  go_loopw [11] (fun i wr => ∃ q : Nat, q ≤ sw.length ∧ i = .int .i64 ((q : Int) + 1) ∧ Hid (Below w6.heap.size w6 wr)) (fun i _ => sw.length + 1 - (intOf i).toNat)
  case atStart => exact ⟨0, Nat.zero_le _, rfl, HD6⟩
  case round =>
    obtain ⟨q, hq, rfl, HS⟩ := hrel
    obtain ⟨w8, hw8⟩ : ∃ W, W = wr := ⟨_, rfl⟩
    subst hw8
    have hl8 := hlen.2.2
    obtain ⟨a0, a1, a2, a3⟩ := Blk.quad (HX6.out.below HS.out HX6.out.lt)
    by_cases hlt : q + 1 < sw.length
    · have q2 : (q : Int) + 1 < (sw.length : Int) := by omega
      have q3 : (q : Int) < (sw.length : Int) := by omega
      obtain ⟨ta, hta⟩ : ∃ t, sw[q]? = some t := ⟨_, List.getElem?_eq_getElem (by omega)⟩
      obtain ⟨tb, htb⟩ : ∃ t, sw[q + 1]? = some t := ⟨_, List.getElem?_eq_getElem hlt⟩
      obtain ⟨ua, _, hua, eua, _⟩ := sw_fact (p := poOf ts pol) HV.out (n := T) (k := q) (t := ta) (by rw [HRUN.out]; exact hta)
      obtain ⟨ub, _, hub, eub, _⟩ := sw_fact (p := poOf ts pol) HV.out (n := T) (k := q + 1) (t := tb) (by rw [HRUN.out]; exact htb)
      have hup := sw_up (p := poOf ts pol) HV.out (n := T) (k := q) (a := ta) (b := tb) (by rw [HRUN.out]; exact hta) (by rw [HRUN.out]; exact htb)
      have hil := idle_low (p := poOf ts pol) HV.out (n := T) (k := q) (a := ta) (b := tb) (by rw [HRUN.out]; exact hta) (by rw [HRUN.out]; exact htb)
      rw [HRUN.out] at hil
      dsimp only at hil
      obtain ⟨a, ha⟩ : ∃ a, a = ua + 1 := ⟨_, rfl⟩
      obtain ⟨d, hd⟩ : ∃ d, d = ub - ua := ⟨_, rfl⟩
      obtain rfl : ta = (a : Int) := by omega
      obtain rfl : tb = ((a + d : Nat) : Int) := by omega
      have HFR : Hid (freeN js en a d = true) := Lib.hid (by
        obtain ⟨t, h1, h2, h3⟩ := hil
        obtain ⟨x, hx⟩ : ∃ x, t = a + x := ⟨t - a, by omega⟩
        subst hx
        exact free_in (d := x) (any_none h3) (by omega))
      have hab : a + d ≤ 200 := by omega
      have HQA := Lib.hid hta
      have HQB := Lib.hid htb
      obtain ⟨gs, os, eb, hgs, cs⟩ := (HSW6.out.below HS.out).reads.at_ q _ hta
      obtain ⟨gs', os', eb', hgs', cs'⟩ := (HSW6.out.below HS.out).reads.at_ (q + 1) _ htb
      rw [eb] at eb'
      injection eb' with eb'
      injection eb' with e1 e2
      subst e1 e2
      subst eb
      have kw : IntKind.i64.wrap ((q : Int) + 1 - 1) = (q : Int) := by rw [Int.add_sub_cancel]; exact IntWalk.i64_in _ (by omega)
      have HKW := Lib.hid kw
      clear hil eua eub ha hd hta htb hup hua hub
      obtain ⟨b, hb⟩ : ∃ b, b = a + d := ⟨_, rfl⟩
      go_wp2
      clear a0 a1 a2 a3 cs cs' kw hb
      go_loopw [12, 13] (fun v i wr => ∃ m : Nat, m ≤ d ∧ i = .int .i64 ((a + m : Nat) : Int) ∧ v = .bool (freeN js en a m) ∧ Hid (Below w6.heap.size w6 wr)) (fun _ i _ => a + d - (intOf i).toNat)
      case atStart => exact ⟨0, Nat.zero_le _, rfl, rfl, HS⟩
      case round =>
        obtain ⟨m, hm, rfl, rfl, HS2⟩ := hrel
        obtain ⟨w9, hw9⟩ : ∃ W, W = wr := ⟨_, rfl⟩
        subst hw9
        obtain ⟨a0, a1, a2, a3⟩ := Blk.quad (HX6.out.below HS2.out HX6.out.lt)
        have cs' := ((HSW6.out.below HS2.out).reads.get HQB.out).2
        have idx : ((q : Int) + 1).toNat = q + 1 := by omega
        by_cases hlm : m < d
        · have m2 : ((a + m : Nat) : Int) < ((a + d : Nat) : Int) := by omega
          have HF := Lib.hid (free_next js en a m)
          generalize freeN js en a m = fr at *
          obtain ⟨tn, htn⟩ : ∃ tn, a + m = tn := ⟨_, rfl⟩
          rw [htn] at HF m2 ⊢
          have m3 : tn < a + d := by omega
          have m4 : decide (tn < a + d) = true := decide_eq_true m3
          have m5 : decide ((tn : Int) < ((a + d : Nat) : Int)) = true := decide_eq_true m2
          go_wp2
          go_loopw [14, 15] (fun v i wr => ∃ k : Nat, k ≤ js.length ∧ i = .int .i64 k ∧ v = .bool (anyL js en (tn : Int) k) ∧ Hid (Below w6.heap.size w6 wr)) (fun _ i _ => js.length - (intOf i).toNat)
          case atStart => exact ⟨0, Nat.zero_le _, rfl, rfl, HS2⟩
          case round =>
            obtain ⟨k, hk, rfl, rfl, HS3⟩ := hrel
            obtain ⟨w10, hw10⟩ : ∃ W, W = wr := ⟨_, rfl⟩
            subst hw10
            clear a0 a1 a2 a3 cs'
            by_cases hlk : k < js.length
            · obtain ⟨a0, a1, a2, a3⟩ := Blk.quad (HX6.out.below HS3.out HX6.out.lt)
              have k2 : (k : Int) < (js.length : Int) := by omega
              have HN := Lib.hid (any_next js en (tn : Int) k)
              have hjq := job_get (js := js) (k := k) hlk
              have hen8 := HENL.out
              obtain ⟨ev, hev⟩ : ∃ ev, en[k]? = some ev := ⟨_, List.getElem?_eq_getElem (by omega)⟩
              have ke : (k : Int) < (en.length : Int) := by omega
              have hgd : en.getD k 0 = ev := by simp [List.getD, hev]
              rw [hgd] at HN
              clear hen8 hgd
              obtain ⟨gj, oj, ea, hgj, cj0, cj1, cj2⟩ := ((HJ6.out.below HS3.out)).at_ k _ hjq
              obtain ⟨ge, oe, eb, hge, ce⟩ := (HE6.out.below HS3.out).reads.at_ k ev hev
              subst ea eb
              clear hjq hev
              generalize anyL js en (tn : Int) k = b0 at *
              generalize (jobOf js k).tm = tm at *
              unfold leftB at HN
              cases b0
              · by_cases h1 : tm < (tn : Int)
                · have t1 : decide (tm < (tn : Int)) = true := decide_eq_true h1
                  by_cases h2 : ev = -1
                  · subst h2
                    go_wp2
                    go_roundw
                    case rel => exact ⟨k + 1, by omega, by go_num, by rw [HN.out]; simp [*], Lib.hid (by repeat (first | with_reducible exact HS3.out | with_reducible refine Below.drew ?_ | with_reducible refine bl_drewN ?_ _))⟩
                    case measure => simp [intOf]; omega
                  · have t2 : (ev == -1) = false := beq_eq_false_iff_ne.2 h2
                    by_cases h3 : (tn : Int) < ev
                    · have t3 : decide ((tn : Int) < ev) = true := decide_eq_true h3
                      go_wp2
                      go_roundw
                      case rel => exact ⟨k + 1, by omega, by go_num, by rw [HN.out]; simp [*], Lib.hid (by repeat (first | with_reducible exact HS3.out | with_reducible refine Below.drew ?_ | with_reducible refine bl_drewN ?_ _))⟩
                      case measure => simp [intOf]; omega
                    · have t3 : decide ((tn : Int) < ev) = false := decide_eq_false h3
                      go_wp2
                      go_roundw
                      case rel => exact ⟨k + 1, by omega, by go_num, by rw [HN.out]; simp [*], Lib.hid (by repeat (first | with_reducible exact HS3.out | with_reducible refine Below.drew ?_ | with_reducible refine bl_drewN ?_ _))⟩
                      case measure => simp [intOf]; omega
                · have t1 : decide (tm < (tn : Int)) = false := decide_eq_false h1
                  go_wp2
                  go_roundw
                  case rel => exact ⟨k + 1, by omega, by go_num, by rw [HN.out]; simp [*], Lib.hid (by repeat (first | with_reducible exact HS3.out | with_reducible refine Below.drew ?_ | with_reducible refine bl_drewN ?_ _))⟩
                  case measure => simp [intOf]; omega
              · have t0 := HN
                go_wp2
                go_roundw
                case rel => exact ⟨k + 1, by omega, by go_num, by rw [HN.out]; simp [*], Lib.hid (by repeat (first | with_reducible exact HS3.out | with_reducible refine Below.drew ?_ | with_reducible refine bl_drewN ?_ _))⟩
                case measure => simp [intOf]; omega
            · obtain rfl : k = js.length := by omega
              generalize anyL js en (tn : Int) js.length = lf at *
              cases fr
              · go_wp2
                go_roundw
                case rel => exact ⟨m + 1, by omega, by rw [← Nat.add_assoc, htn]; go_num, by rw [HF.out]; simp, HS3⟩
                case measure => simp [intOf]; omega
              · go_wp2
                go_roundw
                case rel => exact ⟨m + 1, by omega, by rw [← Nat.add_assoc, htn]; go_num, by rw [HF.out]; simp, HS3⟩
                case measure => simp [intOf]; omega
        · obtain rfl : m = d := by omega
          rw [HFR.out]
          go_wp2
          go_roundw
          case rel => exact ⟨q + 1, by omega, by go_num, HS2⟩
          case measure => simp [intOf]; omega
    · have q2 : ¬ (q : Int) + 1 < (sw.length : Int) := by omega
      have HB9 := Lib.hid (bl_trans HB06.out HS.out)
      go_wp2
      go_ret
      exact ⟨rfl, HB9.out⟩
end Go.Proofs.YtgponahmkjohiaaGreatDoor
