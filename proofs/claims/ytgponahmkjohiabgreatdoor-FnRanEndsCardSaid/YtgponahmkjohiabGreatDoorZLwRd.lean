import Derived.Test.YtgponahmkjohiabGreatDoorZPmL
import Derived.Test.YtgponahmkjohiabGreatDoorZDrA
import Derived.Test.YtgponahmkjohiabGreatDoorZMcN
namespace Go.Proofs.YtgponahmkjohiabGreatDoor
open Go.RowKit
set_option linter.unusedVariables false
/-- What a job that ended adds to its task's ticks. -/
def doneN (js : List Jb) (en : List Int) (i k : Nat) : Int := if (jobOf js k).ta = (i : Int) ∧ 0 ≤ en.getD k 0 then (jobOf js k).ne else 0
theorem doneN_ok {ts : List Tk} {js : List Jb} (hv : jobsB ts js = true) {i k : Nat} {en : List Int} (hk : k < js.length) : 0 ≤ doneN js en i k ∧ doneN js en i k ≤ 20 := by
  have h := wrB_iff.1 ((wrsB_iff.1 (jobs_wrs hv)).2 _ (List.mem_of_getElem? (job_get hk)))
  unfold doneN
  split <;> omega
theorem done_bound {js : List Jb} {en : List Int} (h : ∀ i k : Nat, k < js.length → 0 ≤ doneN js en i k ∧ doneN js en i k ≤ 20) (i : Nat) : ∀ k : Nat, k ≤ js.length → 0 ≤ sumZ (doneN js en i) k ∧ sumZ (doneN js en i) k ≤ 20 * k
  | 0, _ => ⟨Int.le_refl _, Int.le_refl _⟩
  | k + 1, hk => by
    have a := done_bound h i k (by omega)
    have b := h i k (by omega)
    have e : sumZ (doneN js en i) (k + 1) = sumZ (doneN js en i) k + doneN js en i k := rfl
    omega
set_option maxRecDepth 100000 in
set_option maxHeartbeats 8000000 in
theorem fnRanEnds_walk (w : World) (A : Option Addr) (n c : Nat) (f : Nat → Int) (h : Code w w.heap.size A n c f) (e0 : Addr) (he : EG w e0) :
    Calls Tryz.prog 8 #[.slice A n c] w fun e w' => e = .returned (.bool true) ∧ Below w.heap.size w w' := by
  have H := Lib.hid h
  have HE := Lib.hid he
  have hle := h.le
  have hmax := h.max
  unfold maxLen at hmax
  clear h he
  by_cases hn : 1048576 < n
  · go_enter Tryz.func8, Tryz.ntmps8
    go_wp2
    go_ret
    exact ⟨rfl, Below.refl _ _⟩
  go_enter Tryz.func8, Tryz.ntmps8
  go_wp2_with fail
  refine (dDrawRun_any _ A n c f H.out).mono ?_
  rintro e w1 ⟨A1, c1, ts, A2, c2, js, pol, tk, rfl, htl, hjl, p0, p1, k0, k1, ho, hoj, hb⟩
  have HB1 := Lib.hid hb
  have HO1 := Lib.hid ho
  have HOJ1 := Lib.hid hoj
  have HT1 := Lib.hid ho.reads.2
  have HJ1 := Lib.hid hoj.reads.2
  have hct := own_le ho
  have hs1 := hb.size
  clear hb ho hoj H
  obtain ⟨s, hs⟩ : ∃ s, runR ts js pol tk = s := ⟨_, rfl⟩
  obtain ⟨b, hb⟩ : ∃ b, okR ts js pol tk = b := ⟨_, rfl⟩
  have HLN : Hid (s.en.length ≤ 61 ∧ s.tr.length ≤ 200 ∧ s.sw.length ≤ 200) := Lib.hid (by rw [← hs]; exact runR_len10 ts js pol tk hjl)
  have HRJ := Lib.hid (iRunJobs_is w1 A1 ts.length c1 ts HT1.out (by omega) A2 js.length c2 js HJ1.out pol tk e0 (HE.out.below HB1.out))
  rw [hs, hb] at HRJ
  have HS := Lib.hid hs
  have HOK := Lib.hid hb
  clear hs hb
  go_wp2_with fail
  refine HRJ.out.mono ?_
  clear HRJ
  obtain ⟨en, tr, sw, hi, wkx, nxx⟩ := s
  rintro e w2 ⟨B1, d1, B2, d2, B3, d3, rfl, o1, o2, o3, _, _, _, hb⟩
  dsimp only at o1 o2 o3 HLN ⊢
  have HB2 := Lib.hid hb
  have hs2 := hb.size
  have HE2 := Lib.hid o1
  have HTR2 := Lib.hid o2
  have HSW2 := Lib.hid o3
  clear hb o1 o2 o3
  obtain ⟨wz2, hwz2⟩ : ∃ wz, w2.alloc (.cells #[.slice none 0 0, .slice none 0 0, .slice none 0 0, .bool false] 29) = wz := ⟨_, rfl⟩
  have hz2 : Blk wz2 w2.heap.size 29 #[.slice none 0 0, .slice none 0 0, .slice none 0 0, .bool false] := hwz2 ▸ Blk.new w2 _ _
  have bz2 : Below w2.heap.size w2 wz2 := hwz2 ▸ bl_alloc (Below.refl _ _) _
  obtain ⟨za2, zb2, zc2, zd2⟩ := Blk.quad hz2
  have zf2 := hz2.frozen
  obtain ⟨w3, hwn2⟩ : ∃ wn, (((wz2.setCell ⟨w2.heap.size, 0, none⟩ (.slice B1 en.length d1)).setCell ⟨w2.heap.size, 1, none⟩ (.slice B2 tr.length d2)).setCell ⟨w2.heap.size, 2, none⟩ (.slice B3 sw.length d3)).setCell ⟨w2.heap.size, 3, none⟩ (.bool hi) = wn := ⟨_, rfl⟩
  have hX2 : Blk w3 w2.heap.size 29 #[(.slice B1 en.length d1), (.slice B2 tr.length d2), (.slice B3 sw.length d3), (.bool hi)] := by
    rw [← hwn2]
    have h := (((hz2.set_ 0 ((.slice B1 en.length d1))).set_ 1 ((.slice B2 tr.length d2))).set_ 2 ((.slice B3 sw.length d3))).set_ 3 ((.bool hi))
    simpa using h
  have hY2 : Below w2.heap.size w2 w3 := by
    rw [← hwn2]
    exact (((bl_set bz2 (by dsimp only; omega) _).setCell (by dsimp only; omega) _).setCell (by dsimp only; omega) _).setCell (by dsimp only; omega) _
  have HX3 := Lib.hid hX2
  have HY3 := Lib.hid hY2
  have hs3 := hY2.size
  have HT3 := Lib.hid ((HT1.out.below (bl_trans HB2.out HY3.out)).more (by omega : w1.heap.size ≤ w3.heap.size))
  have HJ3 := Lib.hid ((HJ1.out.below (bl_trans HB2.out HY3.out)).more (by omega : w1.heap.size ≤ w3.heap.size))
  have HSR := Lib.hid (sRunJobs_is w3 A1 ts.length c1 ts HT3.out (by omega) A2 js.length c2 js HJ3.out pol tk)
  rw [HS.out, HOK.out] at HSR
  clear hX2 hY2 hz2 bz2
  go_wp2_with fail
  refine HSR.out.mono ?_
  clear HSR za2 zb2 zc2 zd2 zf2 hwz2 hwn2
  rintro e w4 ⟨C1, f1, C2, f2, C3, f3, rfl, o1, o2, o3, _, _, _, hb⟩
  dsimp only at o1 o2 o3 ⊢
  have HB4 := Lib.hid hb
  have hs4 := hb.size
  have HE4 := Lib.hid o1
  have HTR4 := Lib.hid o2
  have HSW4 := Lib.hid o3
  clear hb o1 o2 o3
  obtain ⟨wz4, hwz4⟩ : ∃ wz, w4.alloc (.cells #[.slice none 0 0, .slice none 0 0, .slice none 0 0, .bool false] 29) = wz := ⟨_, rfl⟩
  have hz4 : Blk wz4 w4.heap.size 29 #[.slice none 0 0, .slice none 0 0, .slice none 0 0, .bool false] := hwz4 ▸ Blk.new w4 _ _
  have bz4 : Below w4.heap.size w4 wz4 := hwz4 ▸ bl_alloc (Below.refl _ _) _
  obtain ⟨za4, zb4, zc4, zd4⟩ := Blk.quad hz4
  have zf4 := hz4.frozen
  obtain ⟨w5, hwn4⟩ : ∃ wn, (((wz4.setCell ⟨w4.heap.size, 0, none⟩ (.slice C1 en.length f1)).setCell ⟨w4.heap.size, 1, none⟩ (.slice C2 tr.length f2)).setCell ⟨w4.heap.size, 2, none⟩ (.slice C3 sw.length f3)).setCell ⟨w4.heap.size, 3, none⟩ (.bool hi) = wn := ⟨_, rfl⟩
  have hX4 : Blk w5 w4.heap.size 29 #[(.slice C1 en.length f1), (.slice C2 tr.length f2), (.slice C3 sw.length f3), (.bool hi)] := by
    rw [← hwn4]
    have h := (((hz4.set_ 0 ((.slice C1 en.length f1))).set_ 1 ((.slice C2 tr.length f2))).set_ 2 ((.slice C3 sw.length f3))).set_ 3 ((.bool hi))
    simpa using h
  have hY4 : Below w4.heap.size w4 w5 := by
    rw [← hwn4]
    exact (((bl_set bz4 (by dsimp only; omega) _).setCell (by dsimp only; omega) _).setCell (by dsimp only; omega) _).setCell (by dsimp only; omega) _
  have HX5 := Lib.hid hX4
  have HY5 := Lib.hid hY4
  have hs5 := hY4.size
  have HB25 : Hid (Below w2.heap.size w2 w5) := Lib.hid (bl_trans HY3.out (bl_trans HB4.out HY5.out))
  have HB15 : Hid (Below w1.heap.size w1 w5) := Lib.hid (bl_trans HB2.out HB25.out)
  have HB05 : Hid (Below w.heap.size w w5) := Lib.hid (bl_trans HB1.out HB15.out)
  have HX35 := Lib.hid (HX3.out.below (bl_trans HB4.out HY5.out) HX3.out.lt)
  have HE5 := Lib.hid (HE2.out.below HB25.out)
  have HTR5 := Lib.hid (HTR2.out.below HB25.out)
  have HSW5 := Lib.hid (HSW2.out.below HB25.out)
  have HRN5 : Hid (RnAt w5 B1 en.length B2 tr.length B3 sw.length en tr sw) := Lib.hid ⟨HE5.out.reads, HTR5.out.reads, HSW5.out.reads⟩
  have HRM5 : Hid (RnAt w5 C1 en.length C2 tr.length C3 sw.length en tr sw) := Lib.hid ⟨(HE4.out.below HY5.out).reads, (HTR4.out.below HY5.out).reads, (HSW4.out.below HY5.out).reads⟩
  have HT5 := Lib.hid ((HT1.out.below HB15.out).more (by omega : w1.heap.size ≤ w5.heap.size))
  have HJ5 := Lib.hid ((HJ1.out.below HB15.out).more (by omega : w1.heap.size ≤ w5.heap.size))
  have HEG5 := Lib.hid (HE.out.below HB05.out)
  have HSM := Lib.hid (iSame_is w5 B1 en.length d1 B2 tr.length d2 B3 sw.length d3 hi en tr sw C1 en.length f1 C2 tr.length f2 C3 sw.length f3 hi en tr sw HRN5.out HRM5.out (by have := HLN.out; omega) (by have := HLN.out; omega) (by have := HLN.out; omega) (by have := HLN.out; omega) (by have := HLN.out; omega) (by have := HLN.out; omega) true (sameR_self _ _ _ _))
  obtain ⟨x0, x1, x2, x3⟩ := Blk.quad HX35.out
  obtain ⟨y0, y1, y2, y3⟩ := Blk.quad HX5.out
  clear hX4 hY4 hz4 bz4 HT3 HJ3 HX3 HTR4 HE4 HSW4
  cases b
  · go_wp2_with fail
    refine HSM.out.mono ?_
    rintro e w6 ⟨rfl, hb6⟩
    have HB6 := Lib.hid hb6
    have HSM2 := Lib.hid (iSame_is w6 B1 en.length d1 B2 tr.length d2 B3 sw.length d3 hi en tr sw C1 en.length f1 C2 tr.length f2 C3 sw.length f3 hi en tr sw (HRN5.out.below hb6) (HRM5.out.below hb6) (by have := HLN.out; omega) (by have := HLN.out; omega) (by have := HLN.out; omega) (by have := HLN.out; omega) (by have := HLN.out; omega) (by have := HLN.out; omega) true (sameR_self _ _ _ _))
    obtain ⟨u0, u1, u2, u3⟩ := Blk.quad (HX35.out.below hb6 HX35.out.lt)
    obtain ⟨v0, v1, v2, v3⟩ := Blk.quad (HX5.out.below hb6 HX5.out.lt)
    clear hb6 x0 x1 x2 x3 y0 y1 y2 y3 hwz4 hwn4 za4 zb4 zc4 zd4 zf4
    go_wp2_with fail
    refine HSM2.out.mono ?_
    rintro e w7 ⟨rfl, hb7⟩
    have HB7 := Lib.hid (bl_trans HB05.out (bl_trans HB6.out hb7))
    clear hb7 u0 u1 u2 u3 v0 v1 v2 v3
    go_wp2
    go_ret
    exact ⟨rfl, HB7.out⟩
  have hv : jobsB ts js = true := (okR_iff.1 HOK.out).1
  have htk : 0 ≤ tk ∧ tk ≤ 200 := (okR_iff.1 HOK.out).2.2
  obtain ⟨T, hT⟩ : ∃ T : Nat, tk = (T : Int) := ⟨tk.toNat, by omega⟩
  subst hT
  have hT2 : T ≤ 200 := by omega
  have HRUN : Hid (runM ts js (poOf ts pol) T = ⟨en, tr, sw, hi, wkx, nxx⟩) := Lib.hid (by rw [← HS.out, runR_ok HOK.out]; rfl)
  have HV := Lib.hid hv
  have hj60 : js.length ≤ 60 := (wrsB_iff.1 (jobs_wrs hv)).1
  clear hv htk
  go_wp2_with fail
  refine HSM.out.mono ?_
  clear HSM hwz4 hwn4 za4 zb4 zc4 zd4 zf4 x0 x1 x2 x3 y0 y1 y2 y3 HRM5
  rintro e w6 ⟨rfl, hb6⟩
  have HB6 := Lib.hid hb6
  have HB06 : Hid (Below w.heap.size w w6) := Lib.hid (bl_trans HB05.out hb6)
  have HX6 := Lib.hid (HX35.out.below hb6 HX35.out.lt)
  have HE6 := Lib.hid (HE5.out.below hb6)
  have HTR6 := Lib.hid (HTR5.out.below hb6)
  have HSW6 := Lib.hid (HSW5.out.below hb6)
  have HT6 := Lib.hid ((HT5.out.below hb6).more hb6.size)
  have HJ6 := Lib.hid ((HJ5.out.below hb6).more hb6.size)
  have HEG6 := Lib.hid (HEG5.out.below hb6)
  have hs6 := hb6.size
  clear hb6 HX35 HE5 HTR5 HSW5 HT5 HJ5 HEG5 HB6 HX5 HB25 HB15 HB4 HY5 HRN5 HE2 HTR2 HSW2 HT1 HJ1 HO1 HOJ1 HB1 HB2 HY3 HE
  have HD6 := Lib.hid (Below.refl w6.heap.size w6)
  have hv : jobsB ts js = true := HV.out
  have htr : tr.length = T := by
    have := tr_len (p := poOf ts pol) hv T
    rw [HRUN.out] at this
    exact this
  have hen : en.length = js.length := by
    have := en_len (p := poOf ts pol) hv T
    rw [HRUN.out] at this
    exact this
  have HTL := Lib.hid htr
  have HENL := Lib.hid hen
  have hlen := HLN.out
  clear htr hen
  have HRE := Lib.hid (fun i : Nat => ran_ends (p := poOf ts pol) hv i T)
  rw [HRUN.out] at HRE
  dsimp only at HRE
  have HPB := Lib.hid (fun (i k : Nat) (hk : k < js.length) => doneN_ok hv (i := i) (en := en) hk)
  clear hv
  go_wp2
  go_loopw [11] (fun i wr => ∃ q : Nat, q ≤ ts.length ∧ i = .int .i64 q ∧ Hid (Below w6.heap.size w6 wr)) (fun i _ => ts.length - (intOf i).toNat)
  case atStart => exact ⟨0, Nat.zero_le _, rfl, HD6⟩
  case round =>
    obtain ⟨q, hq, rfl, HS⟩ := hrel
    obtain ⟨w8, hw8⟩ : ∃ W, W = wr := ⟨_, rfl⟩
    subst hw8
    by_cases hlt : q < ts.length
    · have q2 : (q : Int) < (ts.length : Int) := by omega
      go_wp2
      go_loopw [12, 13] (fun v i wr => ∃ k : Nat, k ≤ js.length ∧ i = .int .i64 k ∧ v = .int .i64 (sumZ (doneN js en q) k) ∧ Hid (Below w6.heap.size w6 wr)) (fun _ i _ => js.length - (intOf i).toNat)
      case atStart => exact ⟨0, Nat.zero_le _, rfl, rfl, HS⟩
      case round =>
        obtain ⟨k, hk, rfl, rfl, HS2⟩ := hrel
        obtain ⟨w9, hw9⟩ : ∃ W, W = wr := ⟨_, rfl⟩
        subst hw9
        obtain ⟨a0, a1, a2, a3⟩ := Blk.quad (HX6.out.below HS2.out HX6.out.lt)
        by_cases hlk : k < js.length
        · have k2 : (k : Int) < (js.length : Int) := by omega
          have hsb := done_bound HPB.out q k (by omega)
          have HN := Lib.hid (show sumZ (doneN js en q) (k + 1) = sumZ (doneN js en q) k + doneN js en q k from rfl)
          have hpb := HPB.out q k hlk
          have hjq := job_get (js := js) (k := k) hlk
          have hen8 := HENL.out
          obtain ⟨ev, hev⟩ : ∃ ev, en[k]? = some ev := ⟨_, List.getElem?_eq_getElem (by omega)⟩
          have ke : (k : Int) < (en.length : Int) := by omega
          have hgd : en.getD k 0 = ev := by simp [List.getD, hev]
          have hdn : doneN js en q k = if (jobOf js k).ta = (q : Int) ∧ 0 ≤ ev then (jobOf js k).ne else 0 := by unfold doneN; rw [hgd]
          rw [hdn] at HN hpb
          clear hdn
          clear hen8 hgd
          obtain ⟨gj, oj, ea, hgj, cj0, cj1, cj2⟩ := ((HJ6.out.below HS2.out)).at_ k _ hjq
          obtain ⟨ge, oe, eb, hge, ce⟩ := (HE6.out.below HS2.out).reads.at_ k ev hev
          subst ea eb
          clear hjq hev
          change 0 ≤ sumZ (doneN js en q) k ∧ _ at hsb
          generalize sumZ (doneN js en q) k = s0 at *
          generalize (jobOf js k).ta = ta at *
          generalize (jobOf js k).ne = ne at *
          by_cases h1 : ta = (q : Int)
          · have t1 : (ta == (q : Int)) = true := by rw [h1]; simp
            by_cases h2 : 0 ≤ ev
            · have t2 : decide (0 ≤ ev) = true := decide_eq_true h2
              rw [if_pos ⟨h1, h2⟩] at HN hpb
              have kw : IntKind.i64.wrap (s0 + ne) = s0 + ne := IntWalk.i64_in _ (by omega)
              clear h1
              go_wp2
              go_roundw
              case rel => exact ⟨k + 1, by omega, by go_num, by rw [HN.out], Lib.hid (by repeat (first | with_reducible exact HS2.out | with_reducible refine Below.drew ?_ | with_reducible refine bl_drewN ?_ _))⟩
              case measure => simp [intOf]; omega
            · have t2 : decide (0 ≤ ev) = false := decide_eq_false h2
              rw [if_neg (fun h => h2 h.2)] at HN
              clear h1
              go_wp2
              go_roundw
              case rel => exact ⟨k + 1, by omega, by go_num, by rw [HN.out, Int.add_zero], Lib.hid (by repeat (first | with_reducible exact HS2.out | with_reducible refine Below.drew ?_ | with_reducible refine bl_drewN ?_ _))⟩
              case measure => simp [intOf]; omega
          · have t1 : (ta == (q : Int)) = false := beq_eq_false_iff_ne.2 h1
            rw [if_neg (fun h => h1 h.1)] at HN
            clear h1
            go_wp2
            go_roundw
            case rel => exact ⟨k + 1, by omega, by go_num, by rw [HN.out, Int.add_zero], Lib.hid (by repeat (first | with_reducible exact HS2.out | with_reducible refine Below.drew ?_ | with_reducible refine bl_drewN ?_ _))⟩
            case measure => simp [intOf]; omega
        · obtain rfl : k = js.length := by omega
          have hre := HRE.out q
          change sumZ (doneN js en q) js.length ≤ _ at hre
          generalize sumZ (doneN js en q) js.length = s0 at *
          have ht8 := hlen.2.1
          go_wp2_with fail
          refine (iRan_is _ B1 _ d1 B2 _ d2 B3 _ d3 hi tr (HTR6.out.below HS2.out).reads (by omega) (q : Int)).mono ?_
          rintro e w10 ⟨rfl, hb⟩
          have HS3 := Lib.hid (bl_trans HS2.out hb)
          rw [ranZ_cnt]
          generalize cntT (q : Int) tr = cq at *
          have e1 : decide (cq < s0) = false := decide_eq_false (by omega)
          clear hb a0 a1 a2 a3
          go_wp2
          go_roundw
          case rel => exact ⟨q + 1, by omega, by go_num, HS3⟩
          case measure => simp [intOf]; omega
    · obtain rfl : q = ts.length := by omega
      have HB9 := Lib.hid (bl_trans HB06.out HS.out)
      go_wp2
      go_ret
      exact ⟨rfl, HB9.out⟩
end Go.Proofs.YtgponahmkjohiabGreatDoor
