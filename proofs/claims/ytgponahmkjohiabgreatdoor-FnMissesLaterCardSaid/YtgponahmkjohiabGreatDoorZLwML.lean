import Derived.Test.YtgponahmkjohiabGreatDoorZPmL
import Derived.Test.YtgponahmkjohiabGreatDoorZDrA
import Derived.Test.YtgponahmkjohiabGreatDoorZMcN
namespace Go.Proofs.YtgponahmkjohiabGreatDoor
open Go.RowKit
set_option linter.unusedVariables false
theorem miss_len (ts : List Tk) (js : List Jb) (en : List Int) (n : Nat) : (missV ts js en n).length ≤ js.length := by
  have key : ∀ (P : Nat → Bool) (m : Nat), (placesI P m).length ≤ m := fun P m => by
    induction m with
    | zero => exact Nat.le_refl _
    | succ m ih =>
      unfold placesI
      split
      · rw [List.length_append, List.length_singleton]; omega
      · omega
  unfold missV
  split
  · exact key _ _
  · exact Nat.zero_le _
/-- What is late after some ticks was dropped, or is late after more. -/
theorem miss_later {ts : List Tk} {js : List Jb} {p : Po} (hv : jobsB ts js = true) {m n : Nat} (hmn : m ≤ n) {z : Int} (h : z ∈ missV ts js (runM ts js p m).en m) :
    ∃ (k : Nat) (e' : Int), z = (k : Int) ∧ k < js.length ∧ (runM ts js p n).en[k]? = some e' ∧ (e' = -2 ∨ z ∈ missV ts js (runM ts js p n).en n) := by
  obtain ⟨k, rfl, hk, hl⟩ := miss_in hv h
  have he' := en_get (p := p) (n := n) hv hk
  refine ⟨k, _, rfl, hk, he', ?_⟩
  rcases late_later hv hmn (en_get (p := p) (n := m) hv hk) he' hl with h1 | h1
  · exact .inl h1
  · exact .inr (in_miss hv (en_len hv n) hk h1)
/-- Whether b0, or one of the first numbers is z. -/
def anyV (vs : List Int) (z : Int) (b0 : Bool) : Nat → Bool
  | 0 => b0
  | j + 1 => anyV vs z b0 j || vs.getD j 0 == z
theorem anyV_next (vs : List Int) (z : Int) (b0 : Bool) (j : Nat) : anyV vs z b0 (j + 1) = (anyV vs z b0 j || vs.getD j 0 == z) := rfl
theorem anyV_yes {vs : List Int} {z : Int} : ∀ j, anyV vs z true j = true
  | 0 => rfl
  | j + 1 => by rw [anyV_next, anyV_yes j]; rfl
theorem anyV_in {vs : List Int} {z : Int} {b0 : Bool} {i : Nat} (h : vs[i]? = some z) : ∀ j, i < j → anyV vs z b0 j = true
  | j + 1, hj => by
    rw [anyV_next]
    by_cases e : i = j
    · subst e; simp [List.getD, h]
    · rw [anyV_in h j (by omega)]; rfl
theorem anyV_all {vs : List Int} {z e' : Int} (h : e' = -2 ∨ z ∈ vs) : anyV vs z (e' == -2) vs.length = true := by
  rcases h with rfl | h
  · exact anyV_yes _
  · obtain ⟨i, hi⟩ := List.mem_iff_getElem?.1 h
    exact anyV_in hi _ (List.getElem?_eq_some_iff.1 hi).1
set_option maxRecDepth 100000 in
set_option maxHeartbeats 8000000 in
theorem fnMissesLater_walk (w : World) (A : Option Addr) (n c : Nat) (f : Nat → Int) (h : Code w w.heap.size A n c f) (e0 : Addr) (he : EG w e0) :
    Calls Tryz.prog 7 #[.slice A n c] w fun e w' => e = .returned (.bool true) ∧ Below w.heap.size w w' := by
  have H := Lib.hid h
  have HE := Lib.hid he
  have hle := h.le
  have hmax := h.max
  unfold maxLen at hmax
  clear h he
  by_cases hn : 1048576 < n
  · go_enter Tryz.func7, Tryz.ntmps7
    go_wp2
    go_ret
    exact ⟨rfl, Below.refl _ _⟩
  go_enter Tryz.func7, Tryz.ntmps7
  go_wp2_with fail
  refine (dDrawRun_any _ A n c f H.out).mono ?_
  rintro e w1 ⟨A1, c1, ts, A2, c2, js, pol, tk, rfl, htl, hjl, p0, p1, k0, k1, ho, hoj, hb⟩
  have HB1 := Lib.hid hb
  have HO1 := Lib.hid ho
  have HOJ1 := Lib.hid hoj
  have HT1 := Lib.hid ho.reads.2
  have HJ1 := Lib.hid hoj.reads.2
  have hct := own_le ho
  have hs1 := hb.size
  clear hb ho hoj H
  obtain ⟨s, hs⟩ : ∃ s, runR ts js pol tk = s := ⟨_, rfl⟩
  obtain ⟨b, hb⟩ : ∃ b, okR ts js pol tk = b := ⟨_, rfl⟩
  have HLN : Hid (s.en.length ≤ 61 ∧ s.tr.length ≤ 200 ∧ s.sw.length ≤ 200) := Lib.hid (by rw [← hs]; exact runR_len10 ts js pol tk hjl)
  have HRJ := Lib.hid (iRunJobs_is w1 A1 ts.length c1 ts HT1.out (by omega) A2 js.length c2 js HJ1.out pol tk e0 (HE.out.below HB1.out))
  rw [hs, hb] at HRJ
  have HS := Lib.hid hs
  have HOK := Lib.hid hb
  clear hs hb
  go_wp2_with fail
  refine HRJ.out.mono ?_
  clear HRJ
  obtain ⟨en, tr, sw, hi, wkx, nxx⟩ := s
  rintro e w2 ⟨B1, d1, B2, d2, B3, d3, rfl, o1, o2, o3, _, _, _, hb⟩
  dsimp only at o1 o2 o3 HLN ⊢
  have HB2 := Lib.hid hb
  have hs2 := hb.size
  have HE2 := Lib.hid o1
  have HTR2 := Lib.hid o2
  have HSW2 := Lib.hid o3
  clear hb o1 o2 o3
  obtain ⟨wz2, hwz2⟩ : ∃ wz, w2.alloc (.cells #[.slice none 0 0, .slice none 0 0, .slice none 0 0, .bool false] 29) = wz := ⟨_, rfl⟩
  have hz2 : Blk wz2 w2.heap.size 29 #[.slice none 0 0, .slice none 0 0, .slice none 0 0, .bool false] := hwz2 ▸ Blk.new w2 _ _
  have bz2 : Below w2.heap.size w2 wz2 := hwz2 ▸ bl_alloc (Below.refl _ _) _
  obtain ⟨za2, zb2, zc2, zd2⟩ := Blk.quad hz2
  have zf2 := hz2.frozen
  obtain ⟨w3, hwn2⟩ : ∃ wn, (((wz2.setCell ⟨w2.heap.size, 0, none⟩ (.slice B1 en.length d1)).setCell ⟨w2.heap.size, 1, none⟩ (.slice B2 tr.length d2)).setCell ⟨w2.heap.size, 2, none⟩ (.slice B3 sw.length d3)).setCell ⟨w2.heap.size, 3, none⟩ (.bool hi) = wn := ⟨_, rfl⟩
  have hX2 : Blk w3 w2.heap.size 29 #[(.slice B1 en.length d1), (.slice B2 tr.length d2), (.slice B3 sw.length d3), (.bool hi)] := by
    rw [← hwn2]
    have h := (((hz2.set_ 0 ((.slice B1 en.length d1))).set_ 1 ((.slice B2 tr.length d2))).set_ 2 ((.slice B3 sw.length d3))).set_ 3 ((.bool hi))
    simpa using h
  have hY2 : Below w2.heap.size w2 w3 := by
    rw [← hwn2]
    exact (((bl_set bz2 (by dsimp only; omega) _).setCell (by dsimp only; omega) _).setCell (by dsimp only; omega) _).setCell (by dsimp only; omega) _
  have HX3 := Lib.hid hX2
  have HY3 := Lib.hid hY2
  have hs3 := hY2.size
  have HT3 := Lib.hid ((HT1.out.below (bl_trans HB2.out HY3.out)).more (by omega : w1.heap.size ≤ w3.heap.size))
  have HJ3 := Lib.hid ((HJ1.out.below (bl_trans HB2.out HY3.out)).more (by omega : w1.heap.size ≤ w3.heap.size))
  have HSR := Lib.hid (sRunJobs_is w3 A1 ts.length c1 ts HT3.out (by omega) A2 js.length c2 js HJ3.out pol tk)
  rw [HS.out, HOK.out] at HSR
  clear hX2 hY2 hz2 bz2
  go_wp2_with fail
  refine HSR.out.mono ?_
  clear HSR za2 zb2 zc2 zd2 zf2 hwz2 hwn2
  rintro e w4 ⟨C1, f1, C2, f2, C3, f3, rfl, o1, o2, o3, _, _, _, hb⟩
  dsimp only at o1 o2 o3 ⊢
  have HB4 := Lib.hid hb
  have hs4 := hb.size
  have HE4 := Lib.hid o1
  have HTR4 := Lib.hid o2
  have HSW4 := Lib.hid o3
  clear hb o1 o2 o3
  obtain ⟨wz4, hwz4⟩ : ∃ wz, w4.alloc (.cells #[.slice none 0 0, .slice none 0 0, .slice none 0 0, .bool false] 29) = wz := ⟨_, rfl⟩
  have hz4 : Blk wz4 w4.heap.size 29 #[.slice none 0 0, .slice none 0 0, .slice none 0 0, .bool false] := hwz4 ▸ Blk.new w4 _ _
  have bz4 : Below w4.heap.size w4 wz4 := hwz4 ▸ bl_alloc (Below.refl _ _) _
  obtain ⟨za4, zb4, zc4, zd4⟩ := Blk.quad hz4
  have zf4 := hz4.frozen
  obtain ⟨w5, hwn4⟩ : ∃ wn, (((wz4.setCell ⟨w4.heap.size, 0, none⟩ (.slice C1 en.length f1)).setCell ⟨w4.heap.size, 1, none⟩ (.slice C2 tr.length f2)).setCell ⟨w4.heap.size, 2, none⟩ (.slice C3 sw.length f3)).setCell ⟨w4.heap.size, 3, none⟩ (.bool hi) = wn := ⟨_, rfl⟩
  have hX4 : Blk w5 w4.heap.size 29 #[(.slice C1 en.length f1), (.slice C2 tr.length f2), (.slice C3 sw.length f3), (.bool hi)] := by
    rw [← hwn4]
    have h := (((hz4.set_ 0 ((.slice C1 en.length f1))).set_ 1 ((.slice C2 tr.length f2))).set_ 2 ((.slice C3 sw.length f3))).set_ 3 ((.bool hi))
    simpa using h
  have hY4 : Below w4.heap.size w4 w5 := by
    rw [← hwn4]
    exact (((bl_set bz4 (by dsimp only; omega) _).setCell (by dsimp only; omega) _).setCell (by dsimp only; omega) _).setCell (by dsimp only; omega) _
  have HX5 := Lib.hid hX4
  have HY5 := Lib.hid hY4
  have hs5 := hY4.size
  have HB25 : Hid (Below w2.heap.size w2 w5) := Lib.hid (bl_trans HY3.out (bl_trans HB4.out HY5.out))
  have HB15 : Hid (Below w1.heap.size w1 w5) := Lib.hid (bl_trans HB2.out HB25.out)
  have HB05 : Hid (Below w.heap.size w w5) := Lib.hid (bl_trans HB1.out HB15.out)
  have HX35 := Lib.hid (HX3.out.below (bl_trans HB4.out HY5.out) HX3.out.lt)
  have HE5 := Lib.hid (HE2.out.below HB25.out)
  have HTR5 := Lib.hid (HTR2.out.below HB25.out)
  have HSW5 := Lib.hid (HSW2.out.below HB25.out)
  have HRN5 : Hid (RnAt w5 B1 en.length B2 tr.length B3 sw.length en tr sw) := Lib.hid ⟨HE5.out.reads, HTR5.out.reads, HSW5.out.reads⟩
  have HRM5 : Hid (RnAt w5 C1 en.length C2 tr.length C3 sw.length en tr sw) := Lib.hid ⟨(HE4.out.below HY5.out).reads, (HTR4.out.below HY5.out).reads, (HSW4.out.below HY5.out).reads⟩
  have HT5 := Lib.hid ((HT1.out.below HB15.out).more (by omega : w1.heap.size ≤ w5.heap.size))
  have HJ5 := Lib.hid ((HJ1.out.below HB15.out).more (by omega : w1.heap.size ≤ w5.heap.size))
  have HEG5 := Lib.hid (HE.out.below HB05.out)
  have HSM := Lib.hid (iSame_is w5 B1 en.length d1 B2 tr.length d2 B3 sw.length d3 hi en tr sw C1 en.length f1 C2 tr.length f2 C3 sw.length f3 hi en tr sw HRN5.out HRM5.out (by have := HLN.out; omega) (by have := HLN.out; omega) (by have := HLN.out; omega) (by have := HLN.out; omega) (by have := HLN.out; omega) (by have := HLN.out; omega) true (sameR_self _ _ _ _))
  obtain ⟨x0, x1, x2, x3⟩ := Blk.quad HX35.out
  obtain ⟨y0, y1, y2, y3⟩ := Blk.quad HX5.out
  clear hX4 hY4 hz4 bz4 HT3 HJ3 HX3 HTR4 HE4 HSW4
  cases b
  · go_wp2_with fail
    refine HSM.out.mono ?_
    rintro e w6 ⟨rfl, hb6⟩
    have HB6 := Lib.hid hb6
    have HSM2 := Lib.hid (iSame_is w6 B1 en.length d1 B2 tr.length d2 B3 sw.length d3 hi en tr sw C1 en.length f1 C2 tr.length f2 C3 sw.length f3 hi en tr sw (HRN5.out.below hb6) (HRM5.out.below hb6) (by have := HLN.out; omega) (by have := HLN.out; omega) (by have := HLN.out; omega) (by have := HLN.out; omega) (by have := HLN.out; omega) (by have := HLN.out; omega) true (sameR_self _ _ _ _))
    obtain ⟨u0, u1, u2, u3⟩ := Blk.quad (HX35.out.below hb6 HX35.out.lt)
    obtain ⟨v0, v1, v2, v3⟩ := Blk.quad (HX5.out.below hb6 HX5.out.lt)
    clear hb6 x0 x1 x2 x3 y0 y1 y2 y3 hwz4 hwn4 za4 zb4 zc4 zd4 zf4
    go_wp2_with fail
    refine HSM2.out.mono ?_
    rintro e w7 ⟨rfl, hb7⟩
    have HB7 := Lib.hid (bl_trans HB05.out (bl_trans HB6.out hb7))
    clear hb7 u0 u1 u2 u3 v0 v1 v2 v3
    go_wp2
    go_ret
    exact ⟨rfl, HB7.out⟩
  have hv : jobsB ts js = true := (okR_iff.1 HOK.out).1
  have htk : 0 ≤ tk ∧ tk ≤ 200 := (okR_iff.1 HOK.out).2.2
  obtain ⟨T, hT⟩ : ∃ T : Nat, tk = (T : Int) := ⟨tk.toNat, by omega⟩
  subst hT
  have hT2 : T ≤ 200 := by omega
  have HRUN : Hid (runM ts js (poOf ts pol) T = ⟨en, tr, sw, hi, wkx, nxx⟩) := Lib.hid (by rw [← HS.out, runR_ok HOK.out]; rfl)
  have HV := Lib.hid hv
  have hj60 : js.length ≤ 60 := (wrsB_iff.1 (jobs_wrs hv)).1
  clear hv htk
  go_wp2_with fail
  refine HSM.out.mono ?_
  clear HSM hwz4 hwn4 za4 zb4 zc4 zd4 zf4 x0 x1 x2 x3 y0 y1 y2 y3 HRM5
  rintro e w6 ⟨rfl, hb6⟩
  have HB6 := Lib.hid hb6
  have HB06 : Hid (Below w.heap.size w w6) := Lib.hid (bl_trans HB05.out hb6)
  have HX6 := Lib.hid (HX35.out.below hb6 HX35.out.lt)
  have HE6 := Lib.hid (HE5.out.below hb6)
  have HTR6 := Lib.hid (HTR5.out.below hb6)
  have HSW6 := Lib.hid (HSW5.out.below hb6)
  have HT6 := Lib.hid ((HT5.out.below hb6).more hb6.size)
  have HJ6 := Lib.hid ((HJ5.out.below hb6).more hb6.size)
  have HEG6 := Lib.hid (HEG5.out.below hb6)
  have hs6 := hb6.size
  clear hb6 HX35 HE5 HTR5 HSW5 HT5 HJ5 HEG5 HB6 HX5 HB25 HB15 HB4 HY5 HRN5 HE2 HTR2 HSW2 HT1 HJ1 HO1 HOJ1 HB1 HB2 HY3 HE
  have HD6 := Lib.hid (Below.refl w6.heap.size w6)
  have hv : jobsB ts js = true := HV.out
  have htr : tr.length = T := by
    have := tr_len (p := poOf ts pol) hv T
    rw [HRUN.out] at this
    exact this
  have hen : en.length = js.length := by
    have := en_len (p := poOf ts pol) hv T
    rw [HRUN.out] at this
    exact this
  have HTL := Lib.hid htr
  have HENL := Lib.hid hen
  have hlen := HLN.out
  clear htr hen
  obtain ⟨M, hM⟩ : ∃ M, T / 2 = M := ⟨_, rfl⟩
  have hMT : M ≤ T := by omega
  have hok8 : okR ts js pol (M : Int) = true := okR_iff.2 ⟨hv, (okR_iff.1 HOK.out).2.1, by omega, by omega⟩
  have HML := Lib.hid (fun (z : Int) (h : z ∈ missV ts js (runM ts js (poOf ts pol) M).en M) => miss_later (p := poOf ts pol) hv hMT h)
  have HT2 := Lib.hid (tr_len (p := poOf ts pol) hv M)
  rw [HRUN.out] at HML
  dsimp only at HML
  have kd : Int.tdiv (T : Int) 2 = (M : Int) := by rw [← hM]; exact Int.ofNat_tdiv T 2
  have kd2 : (T : Int) / 2 = (M : Int) := by omega
  have kw : IntKind.i64.wrap (M : Int) = (M : Int) := IntWalk.i64_in _ (by omega)
  clear hv hM
  have HR8 := Lib.hid (iRunJobs_is w6 A1 ts.length c1 ts HT6.out (by omega) A2 js.length c2 js HJ6.out pol (M : Nat) e0 HEG6.out)
  rw [hok8, runR_ok hok8, Int.toNat_natCast] at HR8
  obtain ⟨s8, hs8⟩ : ∃ s, runM ts js (poOf ts pol) M = s := ⟨_, rfl⟩
  rw [hs8] at HR8
  have HRUN8 := Lib.hid hs8
  clear hs8 hok8
  go_wp2_with fail
  refine HR8.out.mono ?_
  clear HR8
  obtain ⟨en8, tr8, sw8, hi8, wk8, nx8⟩ := s8
  rintro e v8 ⟨D1, g1, D2, g2, D3, g3, rfl, o1, o2, o3, _, _, _, hb⟩
  dsimp only at o1 o2 o3 ⊢
  have HBr8 := Lib.hid hb
  have hz80 := hb.size
  have HEr8 := Lib.hid o1
  have HTr8 := Lib.hid o2
  have HSr8 := Lib.hid o3
  clear hb o1 o2 o3
  obtain ⟨wz8, hwz8⟩ : ∃ wz, v8.alloc (.cells #[.slice none 0 0, .slice none 0 0, .slice none 0 0, .bool false] 29) = wz := ⟨_, rfl⟩
  have hz8 : Blk wz8 v8.heap.size 29 #[.slice none 0 0, .slice none 0 0, .slice none 0 0, .bool false] := hwz8 ▸ Blk.new v8 _ _
  have bz8 : Below v8.heap.size v8 wz8 := hwz8 ▸ bl_alloc (Below.refl _ _) _
  obtain ⟨za8, zb8, zc8, zd8⟩ := Blk.quad hz8
  have zf8 := hz8.frozen
  obtain ⟨u8, hwn8⟩ : ∃ wn, (((wz8.setCell ⟨v8.heap.size, 0, none⟩ (.slice D1 en8.length g1)).setCell ⟨v8.heap.size, 1, none⟩ (.slice D2 tr8.length g2)).setCell ⟨v8.heap.size, 2, none⟩ (.slice D3 sw8.length g3)).setCell ⟨v8.heap.size, 3, none⟩ (.bool hi8) = wn := ⟨_, rfl⟩
  have hX8 : Blk u8 v8.heap.size 29 #[(.slice D1 en8.length g1), (.slice D2 tr8.length g2), (.slice D3 sw8.length g3), (.bool hi8)] := by
    rw [← hwn8]
    have h := (((hz8.set_ 0 ((.slice D1 en8.length g1))).set_ 1 ((.slice D2 tr8.length g2))).set_ 2 ((.slice D3 sw8.length g3))).set_ 3 ((.bool hi8))
    simpa using h
  have hY8 : Below v8.heap.size v8 u8 := by
    rw [← hwn8]
    exact (((bl_set bz8 (by dsimp only; omega) _).setCell (by dsimp only; omega) _).setCell (by dsimp only; omega) _).setCell (by dsimp only; omega) _
  have HX8 := Lib.hid hX8
  have HD8 : Hid (Below w6.heap.size w6 u8) := Lib.hid (bl_trans HBr8.out hY8)
  have HE8 := Lib.hid (HEr8.out.below hY8)
  have HTR8 := Lib.hid (HTr8.out.below hY8)
  have HSW8 := Lib.hid (HSr8.out.below hY8)
  clear hX8 hY8 hz8 bz8 HEr8 HTr8 HSr8 HBr8
  obtain ⟨y0, y1, y2, y3⟩ := Blk.quad HX8.out
  go_wp2_with fail
  rw [HRUN8.out] at HML HT2
  dsimp only at HML HT2
  obtain ⟨us, hus⟩ : ∃ us, missV ts js en8 tr8.length = us := ⟨_, rfl⟩
  obtain ⟨vs, hvs⟩ : ∃ vs, missV ts js en tr.length = vs := ⟨_, rfl⟩
  have hul : us.length ≤ 60 := by rw [← hus]; exact Nat.le_trans (miss_len _ _ _ _) hj60
  have hvl : vs.length ≤ 60 := by rw [← hvs]; exact Nat.le_trans (miss_len _ _ _ _) hj60
  rw [HT2.out] at hus
  rw [HTL.out] at hvs
  rw [hus, hvs] at HML
  rw [← HT2.out] at hus
  rw [← HTL.out] at hvs
  have HUS := Lib.hid hus
  have HVS := Lib.hid hvs
  clear hus hvs
  refine (iMiss_is _ A1 ts.length c1 ts ((HT6.out.below HD8.out).more HD8.out.size) (by omega) A2 js.length c2 js ((HJ6.out.below HD8.out).more HD8.out.size) D1 en8.length g1 D2 tr8.length g2 D3 sw8.length g3 hi8 en8 HE8.out.reads us HUS.out).mono ?_
  rintro e w9 ⟨Au, cu, rfl, ou, hb⟩
  have HD9 := Lib.hid (bl_trans HD8.out hb)
  have HU9 := Lib.hid ou
  clear hb ou y0 y1 y2 y3 hwz8 hwn8 za8 zb8 zc8 zd8 zf8 kw kd kd2
  obtain ⟨x0, x1, x2, x3⟩ := Blk.quad (HX6.out.below HD9.out HX6.out.lt)
  go_wp2_with fail
  refine (iMiss_is _ A1 ts.length c1 ts ((HT6.out.below HD9.out).more HD9.out.size) (by omega) A2 js.length c2 js ((HJ6.out.below HD9.out).more HD9.out.size) B1 en.length d1 B2 tr.length d2 B3 sw.length d3 hi en (HE6.out.below HD9.out).reads vs HVS.out).mono ?_
  rintro e w10 ⟨Av, cv, rfl, ov, hb⟩
  have HD10 := Lib.hid (bl_trans HD9.out hb)
  have HU10 := Lib.hid (HU9.out.below hb)
  have HV10 := Lib.hid ov
  clear hb ov x0 x1 x2 x3
  go_wp2
  go_loopw [15] (fun i wr => ∃ q : Nat, q ≤ us.length ∧ i = .int .i64 q ∧ Hid (Below w10.heap.size w10 wr)) (fun i _ => us.length - (intOf i).toNat)
  case atStart => exact ⟨0, Nat.zero_le _, rfl, Lib.hid (Below.refl _ _)⟩
  case round =>
    obtain ⟨q, hq, rfl, HS⟩ := hrel
    obtain ⟨w11, hw11⟩ : ∃ W, W = wr := ⟨_, rfl⟩
    subst hw11
    by_cases hlt : q < us.length
    · have q2 : (q : Int) < (us.length : Int) := by omega
      obtain ⟨a0, a1, a2, a3⟩ := Blk.quad (HX6.out.below (bl_trans HD10.out HS.out) HX6.out.lt)
      obtain ⟨z, hz⟩ : ∃ z, us[q]? = some z := ⟨_, List.getElem?_eq_getElem hlt⟩
      obtain ⟨k, e', rfl, hk, he', hml⟩ := HML.out z (List.mem_of_getElem? hz)
      have hen8 := HENL.out
      have k1 : (k : Int) < (en.length : Int) := by omega
      obtain ⟨gu, ou, ea, hgu, cu0⟩ := (HU10.out.below HS.out).reads.at_ q _ hz
      obtain ⟨ge, oe, eb, hge, ce⟩ := (HE6.out.below (bl_trans HD10.out HS.out)).reads.at_ k _ he'
      subst ea eb
      have HZ := Lib.hid hz
      have HML2 := Lib.hid hml
      clear hz he' hen8 hml
      go_wp2
      go_quiet (fail)
      go_wp2
      clear a0 a1 a2 a3 cu0 ce
      go_loopw [16, 17] (fun v i wr => ∃ j : Nat, j ≤ vs.length ∧ i = .int .i64 j ∧ v = .bool (anyV vs (k : Int) (e' == -2) j) ∧ Hid (Below w10.heap.size w10 wr)) (fun _ i _ => vs.length - (intOf i).toNat)
      case atStart => exact ⟨0, Nat.zero_le _, rfl, rfl, Lib.hid (by repeat (first | with_reducible exact HS.out | with_reducible refine Below.drew ?_ | with_reducible refine bl_drewN ?_ _))⟩
      case round =>
        obtain ⟨j, hj, rfl, rfl, HS2⟩ := hrel
        obtain ⟨w12, hw12⟩ : ∃ W, W = wr := ⟨_, rfl⟩
        subst hw12
        by_cases hlj : j < vs.length
        · have j2 : (j : Int) < (vs.length : Int) := by omega
          have HN := Lib.hid (anyV_next vs (k : Int) (e' == -2) j)
          obtain ⟨x, hx⟩ : ∃ x, vs[j]? = some x := ⟨_, List.getElem?_eq_getElem hlj⟩
          have hgd : vs.getD j 0 = x := by simp [List.getD, hx]
          rw [hgd] at HN
          obtain ⟨gv, ov, ea, hgv, cv0⟩ := (HV10.out.below HS2.out).reads.at_ j _ hx
          have cu0 := ((HU10.out.below HS2.out).reads.get HZ.out).2
          subst ea
          clear hx hgd
          generalize anyV vs (k : Int) (e' == -2) j = b0 at *
          cases b0
          · by_cases h1 : x = (k : Int)
            · have t1 : (x == (k : Int)) = true := by rw [h1]; simp
              rw [h1] at HN
              clear h1
              go_wp2
              go_quiet (fail)
              go_wp2
              go_roundw
              case rel => exact ⟨j + 1, by omega, by go_num, by rw [HN.out]; simp, Lib.hid (by repeat (first | with_reducible exact HS2.out | with_reducible refine Below.drew ?_ | with_reducible refine bl_drewN ?_ _))⟩
              case measure => simp [intOf]; omega
            · have t1 : (x == (k : Int)) = false := beq_eq_false_iff_ne.2 h1
              rw [t1] at HN
              clear h1
              go_wp2
              go_quiet (fail)
              go_wp2
              go_roundw
              case rel => exact ⟨j + 1, by omega, by go_num, by rw [HN.out]; rfl, Lib.hid (by repeat (first | with_reducible exact HS2.out | with_reducible refine Below.drew ?_ | with_reducible refine bl_drewN ?_ _))⟩
              case measure => simp [intOf]; omega
          · go_wp2
            go_quiet (fail)
            go_wp2
            go_roundw
            case rel => exact ⟨j + 1, by omega, by go_num, by rw [HN.out]; rfl, Lib.hid (by repeat (first | with_reducible exact HS2.out | with_reducible refine Below.drew ?_ | with_reducible refine bl_drewN ?_ _))⟩
            case measure => simp [intOf]; omega
        · obtain rfl : j = vs.length := by omega
          have hall := anyV_all HML2.out
          rw [hall]
          go_wp2
          go_roundw
          case rel => exact ⟨q + 1, by omega, by go_num, HS2⟩
          case measure => simp [intOf]; omega
    · obtain rfl : q = us.length := by omega
      have HB9 := Lib.hid (bl_trans HB06.out (bl_trans HD10.out HS.out))
      go_wp2
      go_ret
      exact ⟨rfl, HB9.out⟩
end Go.Proofs.YtgponahmkjohiabGreatDoor
