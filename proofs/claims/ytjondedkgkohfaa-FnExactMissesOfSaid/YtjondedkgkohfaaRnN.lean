/- Contract of the reference's MissesOf. -/
import Derived.Test.YtjondedkgkohfaaRnM
namespace Go.Proofs.Ytjondedkgkohfaa
open Go.RowKit
set_option linter.unusedVariables false

set_option maxRecDepth 100000 in
set_option maxHeartbeats 4000000 in
theorem sMiss_is (w : World) (A : Option Addr) (n c : Nat) (ts : List Tk) (h : Tks w w.heap.size A n ts) (hn : n ≤ 1048576) (Aj : Option Addr) (m cj : Nat) (js : List Jb) (hj : Jbs w w.heap.size Aj m js) (A1 : Option Addr) (n1 c1 : Nat) (A2 : Option Addr) (n2 c2 : Nat) (A3 : Option Addr) (n3 c3 : Nat) (hi : Bool) (en : List Int) (he : Zs w w.heap.size A1 n1 en) (us : List Int) (hu : missV ts js en n2 = us) :
    Calls Try.prog 20 #[.slice A n c, .slice Aj m cj, .agg #[.slice A1 n1 c1, .slice A2 n2 c2, .slice A3 n3 c3, .bool hi]] w (ZsRes us w) := by
  obtain ⟨i0, hi', hz0, hz1, hz2⟩ := info_parts info_int
  have HE := Lib.hid (And.intro (bl_alloc (Below.refl w.heap.size w) (.cells #[.slice A1 n1 c1, .slice A2 n2 c2, .slice A3 n3 c3, .bool hi] 27)) (Blk.new w 27 #[.slice A1 n1 c1, .slice A2 n2 c2, .slice A3 n3 c3, .bool hi]))
  obtain ⟨wa, hwa⟩ : ∃ wa, w.alloc (.cells #[.slice A1 n1 c1, .slice A2 n2 c2, .slice A3 n3 c3, .bool hi] 27) = wa := ⟨_, rfl⟩
  rw [hwa] at HE
  have H := Lib.hid ((h.below HE.out.1).more HE.out.1.size)
  have J := Lib.hid ((hj.below HE.out.1).more HE.out.1.size)
  have E := Lib.hid ((he.below HE.out.1).more HE.out.1.size)
  have HL := Lib.hid h.len
  have HM := Lib.hid hj.len
  have HEL := Lib.hid he.len
  have HU := Lib.hid hu
  clear h hj he hu
  obtain ⟨b, hjb⟩ : ∃ b, jobsB ts js = b := ⟨_, rfl⟩
  have HX := Lib.hid (sJobs_is (wa.alloc (.cells #[] 3)) A n c ts ((H.out.below (bl_alloc (Below.refl wa.heap.size wa) _)).more (by simp)) hn Aj m cj js ((J.out.below (bl_alloc (Below.refl wa.heap.size wa) _)).more (by simp)) b hjb)
  have HJB := Lib.hid hjb
  clear hjb
  go_enter Try.func20, Try.ntmps20
  go_wp2_with fail
  try rw [hwa]
  refine HX.out.mono ?_
  rintro e w1 ⟨rfl, hb⟩
  have HB1 := Lib.hid (show Below wa.heap.size wa w1 from bl_trans (bl_alloc (Below.refl wa.heap.size wa) _) hb)
  have HO1 := Lib.hid ((OwnZ.empty wa).below hb)
  have cA := (HE.out.2.below HB1.out HE.out.2.lt).cell
  clear hb HX hwa
  cases b
  · obtain rfl : us = [] := by rw [← HU.out]; exact miss_no (fun h => by rw [HJB.out] at h; cases h.1)
    go_wp2
    go_ret
    exact ⟨some ⟨wa.heap.size, 0, none⟩, 0, rfl, HO1.out.less HE.out.1.size, bl_trans HE.out.1 HB1.out⟩
  by_cases hne : n1 = m
  case neg =>
    obtain rfl : us = [] := by rw [← HU.out]; exact miss_no (fun h => by have := h.2; rw [HM.out, HEL.out] at this; exact hne this)
    have t1 : ((n1 : Int) == (m : Int)) = false := by rw [beq_eq_false_iff_ne]; omega
    have t2 : ((n1 : Int) != (m : Int)) = true := by rw [bne_iff_ne]; omega
    have t3 : ¬ (n1 : Int) = (m : Int) := by omega
    go_wp2
    go_ret
    exact ⟨some ⟨wa.heap.size, 0, none⟩, 0, rfl, HO1.out.less HE.out.1.size, bl_trans HE.out.1 HB1.out⟩
  subst hne
  obtain rfl : us = placesI (missB ts js en n2) n1 := by
    rw [← HU.out]
    unfold missV
    rw [if_pos ⟨HJB.out, by rw [HM.out, HEL.out]⟩, HM.out]
  have hm60 : n1 ≤ 60 := by have := jobs_len HJB.out; rw [HM.out] at this; exact this
  go_wp2
  go_loopw [7, 8] (fun v i wr => ∃ q : Nat, ∃ zs : List Int, q ≤ n1 ∧ i = .int .i64 q ∧ zs.length ≤ q ∧ Hid (zs = placesI (missB ts js en n2) q) ∧ Hid (OwnZ wr wa.heap.size v zs) ∧ Hid (Below wa.heap.size wa wr)) (fun _ i _ => n1 - (intOf i).toNat)
  case atStart => exact ⟨0, [], Nat.zero_le _, rfl, Nat.le_refl _, Lib.hid rfl, HO1, HB1⟩
  case round =>
    obtain ⟨q, zs, hq, rfl, hzl, HZ, HO, HB⟩ := hrel
    obtain ⟨A4, c4, rfl⟩ := HO.out.form
    clear cA
    have cA := (HE.out.2.below HB.out HE.out.2.lt).cell
    have hw1 : wa.heap.size ≤ wr.heap.size := HB.out.size
    by_cases hqm : q < n1
    · have q2 : (q : Int) < (n1 : Int) := by omega
      have q1 : (0 : Int) ≤ (q : Int) := by omega
      obtain ⟨x, hx⟩ := zs_at E.out hqm
      obtain ⟨j, hj⟩ : ∃ j, js[q]? = some j := ⟨js[q]'(by rw [HM.out]; exact hqm), List.getElem?_eq_getElem _⟩
      have hjm := List.mem_of_getElem? hj
      obtain ⟨b1, b2, b3, b4, _, _⟩ := jobB_iff.1 (jobs_job HJB.out hjm)
      obtain ⟨k, t, hk, hkl, ht, htk⟩ := tk_get b1 b2
      have hok : t.ok = true := by
        have := jobs_set HJB.out; unfold setB at this; simp at this
        exact this.2 t (List.mem_of_getElem? ht)
      have hdu : 0 ≤ t.du ∧ t.du ≤ 20 := by unfold Tk.ok validB at hok; simp at hok; omega
      have hV : missB ts js en n2 q = missX x (j.tm + t.du) n2 := by
        unfold missB
        have e1 : js.getD q ⟨0, 0, 0⟩ = j := by simp [List.getD, hj]
        have e2 : en.getD q 0 = x := by simp [List.getD, hx]
        rw [e1, e2, due_ok HJB.out hjm, htk]
      have HV0 := Lib.hid hV
      obtain ⟨bj, oj, rfl, hbj, a0, a1, a2⟩ := (J.out.below HB.out).at_ q j hj
      obtain ⟨bt, ot, rfl, hbt, d0, d1, d2, d3, d4⟩ := (H.out.below HB.out).at_ k t ht
      obtain ⟨b, o, rfl, hbl, c0⟩ := (E.out.below HB.out).at_ q x hx
      obtain ⟨ta, tm, ne⟩ := j
      obtain ⟨lo, hi2, du, ev, cr⟩ := t
      dsimp only at hk hdu a0 a1 d2 b3 b4 HV0
      subst hk
      have hki : (k : Int) < (n : Int) := by have := HL.out; omega
      have hk0 : (0 : Int) ≤ (k : Int) := by omega
      have kw : IntKind.i64.wrap (tm + du) = tm + du := IntWalk.i64_in _ (by omega)
      clear hV hx hj hjm b1 b2 ht htk hok hkl d0 d1 d3 d4 a2
      by_cases h1 : tm + du < x
      · have HV := Lib.hid (show missB ts js en n2 q = true by rw [HV0.out]; unfold missX; rw [if_neg (by omega)]; exact decide_eq_true h1)
        go_wp2
        go_quiet (fail)
        go_wp2_with (at_builtin; refine wpList_append_own _ rfl (.tmp 67) (.tmp 69) 25 rfl wa.heap.size 3 i0 _ 1 8 Try.underlying25 hi' hz0 hz1 hz2 rfl (by decide) _ zs.length (zs.map (Value.int .i64)) rfl (OwnZ.alloc (OwnZ.below HO.out (by repeat (first | with_reducible exact Below.refl _ _ | with_reducible refine Below.drew ?_ | with_reducible refine bl_drewN ?_ _))) _) ⟨wr.heap.size, 0, none⟩ 1 1 [Value.int .i64 (q : Int)] rfl rfl (cell_new1_at _ _ _ _ rfl) (by intro u hu; rw [List.mem_singleton.1 hu]; rfl) (by unfold maxLen; omega) (by omega) (by simp; omega) ?_; intro v2 w9 hown2 hgrow2 _; have HO2 := Lib.hid (show OwnZ w9 wa.heap.size v2 (zs ++ [(q : Int)]) from OwnZ.snoc hown2); have HB9 := Lib.hid ((bl_alloc (by repeat (first | with_reducible exact HB.out | with_reducible refine Below.drew ?_ | with_reducible refine bl_drewN ?_ _) : Below wa.heap.size wa _) _).grown hgrow2 (by simp; omega) (fun k e => (World.ownsRow.lt HO.out k e).1)); clear hown2 hgrow2)
        go_wp2
        go_roundw
        case rel => exact ⟨q + 1, zs ++ [(q : Int)], by omega, by go_num, by simp; omega, Lib.hid (by rw [places_yes HV.out, HZ.out]), HO2, HB9⟩
        case measure => simp [intOf]; omega
      · by_cases h2 : x = -1
        · subst h2
          by_cases h3 : tm + du ≤ (n2 : Int)
          · have HV := Lib.hid (show missB ts js en n2 q = true by rw [HV0.out]; unfold missX; rw [if_pos rfl]; exact decide_eq_true h3)
            go_wp2
            go_quiet (fail)
            go_wp2_with (at_builtin; refine wpList_append_own _ rfl (.tmp 67) (.tmp 69) 25 rfl wa.heap.size 3 i0 _ 1 8 Try.underlying25 hi' hz0 hz1 hz2 rfl (by decide) _ zs.length (zs.map (Value.int .i64)) rfl (OwnZ.alloc (OwnZ.below HO.out (by repeat (first | with_reducible exact Below.refl _ _ | with_reducible refine Below.drew ?_ | with_reducible refine bl_drewN ?_ _))) _) ⟨wr.heap.size, 0, none⟩ 1 1 [Value.int .i64 (q : Int)] rfl rfl (cell_new1_at _ _ _ _ rfl) (by intro u hu; rw [List.mem_singleton.1 hu]; rfl) (by unfold maxLen; omega) (by omega) (by simp; omega) ?_; intro v2 w9 hown2 hgrow2 _; have HO2 := Lib.hid (show OwnZ w9 wa.heap.size v2 (zs ++ [(q : Int)]) from OwnZ.snoc hown2); have HB9 := Lib.hid ((bl_alloc (by repeat (first | with_reducible exact HB.out | with_reducible refine Below.drew ?_ | with_reducible refine bl_drewN ?_ _) : Below wa.heap.size wa _) _).grown hgrow2 (by simp; omega) (fun k e => (World.ownsRow.lt HO.out k e).1)); clear hown2 hgrow2)
            go_wp2
            go_roundw
            case rel => exact ⟨q + 1, zs ++ [(q : Int)], by omega, by go_num, by simp; omega, Lib.hid (by rw [places_yes HV.out, HZ.out]), HO2, HB9⟩
            case measure => simp [intOf]; omega
          · have HV := Lib.hid (show missB ts js en n2 q = false by rw [HV0.out]; unfold missX; rw [if_pos rfl]; exact decide_eq_false h3)
            go_wp2
            go_quiet (fail)
            go_wp2
            go_roundw
            case rel => exact ⟨q + 1, zs, by omega, by go_num, by omega, Lib.hid (by rw [places_no HV.out, HZ.out]), Lib.hid (OwnZ.below HO.out (by repeat (first | with_reducible exact Below.refl _ _ | with_reducible refine Below.drew ?_ | with_reducible refine bl_drewN ?_ _))), Lib.hid (by repeat (first | with_reducible exact HB.out | with_reducible refine Below.drew ?_ | with_reducible refine bl_drewN ?_ _))⟩
            case measure => simp [intOf]; omega
        · have t1 : (x == -1) = false := by simpa using h2
          have HV := Lib.hid (show missB ts js en n2 q = false by rw [HV0.out]; unfold missX; rw [if_neg h2]; exact decide_eq_false h1)
          go_wp2
          go_quiet (fail)
          go_wp2
          go_roundw
          case rel => exact ⟨q + 1, zs, by omega, by go_num, by omega, Lib.hid (by rw [places_no HV.out, HZ.out]), Lib.hid (OwnZ.below HO.out (by repeat (first | with_reducible exact Below.refl _ _ | with_reducible refine Below.drew ?_ | with_reducible refine bl_drewN ?_ _))), Lib.hid (by repeat (first | with_reducible exact HB.out | with_reducible refine Below.drew ?_ | with_reducible refine bl_drewN ?_ _))⟩
          case measure => simp [intOf]; omega
    · obtain rfl : q = n1 := by omega
      go_wp2
      go_ret
      rw [← HZ.out]
      exact ⟨A4, c4, rfl, HO.out.less HE.out.1.size, bl_trans HE.out.1 HB.out⟩

end Go.Proofs.Ytjondedkgkohfaa
