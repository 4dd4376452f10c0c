import Derived.Test.YtgponahmkjohiabGreatDoorT2MsB
namespace Go.Proofs.YtgponahmkjohiabGreatDoor
open Go.RowKit
set_option linter.unusedVariables false
theorem drop_step (ts : List Tk) (js : List Jb) (en : List Int) {wk : List (Nat × Int)} {k : Nat} {q : Nat × Int} (h : wk[k]? = some q) : dropE ts js en (wk.take (k + 1)) = if (tkJ ts js q.1).cr then dropE ts js en (wk.take k) else (dropE ts js en (wk.take k)).set q.1 (-2) := by
  unfold dropE
  rw [List.take_add_one, h, Option.toList_some, List.foldl_append]
  rfl
theorem filt_step {P : Nat × Int → Bool} {wk : List (Nat × Int)} {k : Nat} {q : Nat × Int} (h : wk[k]? = some q) : (wk.take (k + 1)).filter P = (wk.take k).filter P ++ (if P q then [q] else []) := by
  rw [List.take_add_one, h, Option.toList_some, List.filter_append]
  congr 1
  simp [List.filter_cons]
set_option maxRecDepth 100000 in
set_option maxHeartbeats 4000000 in
theorem sSwitch_is (w : World) (B : Nat) (A : Option Addr) (n c : Nat) (ts : List Tk) (Aj : Option Addr) (nj cj : Nat) (js : List Jb) (hT : Tks w B A n ts) (hJ : Jbs w B Aj nj js) (hB : B ≤ w.heap.size) (hv : jobsB ts js = true) (now : Int)
    (ve vt vs vk : Value) (s : Mc) (hS : StM w B ve vt vs vk s) (he : s.en.length = js.length) (hw : ∀ q ∈ s.wk, q.1 < js.length) (hwl : s.wk.length ≤ 60) (hsl : s.sw.length ≤ 100000) (xn xd : Int) :
    Calls Tryz.prog 104 #[.slice A n c, .slice Aj nj cj, stV ve vt vs vk s.hi s.nx xn xd, .int .i64 now] w (StRes B (RowS ve vt vs vk) (swM ts js now s) xn xd w) := by
  obtain ⟨Ae, ce, rfl⟩ := hS.e.form
  obtain ⟨At, ct, rfl⟩ := hS.t.form
  obtain ⟨As, cs, rfl⟩ := hS.z.form
  obtain ⟨Ak, ck, rfl⟩ := hS.k.form
  obtain ⟨i0, hi0, hz0, hz1, hz2⟩ := info_parts info_work
  obtain ⟨i1, hi1, hy0, hy1, hy2⟩ := info_parts info_int
  obtain ⟨en, tr, sw, hi, wk, nx⟩ := s
  dsimp only at hS he hw hwl hsl ⊢
  obtain ⟨sF, hsF⟩ : ∃ sF, swM ts js now ⟨en, tr, sw, hi, wk, nx⟩ = sF := ⟨_, rfl⟩
  rw [hsF]
  have HSF := Lib.hid hsF
  have HV := Lib.hid hv
  have HT := Lib.hid hT
  have HJ := Lib.hid hJ
  have HLJ := Lib.hid hJ.len
  have HE := Lib.hid he
  have HW := Lib.hid hw
  obtain ⟨R, hR⟩ : ∃ R, RowS (.slice Ae en.length ce) (.slice At tr.length ct) (.slice As sw.length cs) (.slice Ak wk.length ck) = R := ⟨_, rfl⟩
  obtain ⟨wa, hwa⟩ : ∃ wa, (w.alloc (.cells (stC (.slice Ae en.length ce) (.slice At tr.length ct) (.slice As sw.length cs) (.slice Ak wk.length ck) hi nx xn xd) 92)).alloc (.cells zeroC 92) = wa := ⟨_, rfl⟩
  have HKa : Hid (Kp w (wa.alloc (.cells #[] 136)) R) := Lib.hid (Kp.alloc (hwa ▸ kp_box _ _) _)
  have hsz : wa.heap.size = w.heap.size + 1 + 1 := by rw [← hwa]; simp
  have HSa : Hid (StM (wa.alloc (.cells #[] 136)) B (.slice Ae en.length ce) (.slice At tr.length ct) (.slice As sw.length cs) (.slice Ak wk.length ck) ⟨dropE ts js en (wk.take 0), tr, sw, hi, wk, nx⟩) := Lib.hid (StM.alloc (hwa ▸ (hS.alloc _).alloc _) _)
  have HBa : Hid (Blk (wa.alloc (.cells #[] 136)) w.heap.size 92 (stC (.slice Ae en.length ce) (.slice At tr.length ct) (.slice As sw.length cs) (.slice Ak wk.length ck) hi nx xn xd)) := Lib.hid (Blk.alloc (hwa ▸ (Blk.new w _ _).alloc _) _)
  have HRa : Hid (Blk (wa.alloc (.cells #[] 136)) (w.heap.size + 1) 92 zeroC) := Lib.hid (Blk.alloc (hwa ▸ (by simpa using Blk.new (w.alloc (.cells (stC (.slice Ae en.length ce) (.slice At tr.length ct) (.slice As sw.length cs) (.slice Ak wk.length ck) hi nx xn xd) 92)) 92 zeroC)) _)
  have HLa : Hid (OwnW (wa.alloc (.cells #[] 136)) (w.heap.size + 2) (.slice (some ⟨w.heap.size + 1 + 1, 0, none⟩) 0 0) []) := Lib.hid (by have h := OwnW.empty wa; rw [hsz] at h; exact h)
  have HRB : Hid (∀ k, R k → B ≤ k ∧ k < w.heap.size) := Lib.hid (hR ▸ hS.lt)
  have HRR := Lib.hid hR
  have hRt : ∀ k, (Value.slice At tr.length ct).ownBlock = some k → R k := fun k e => hR ▸ (Or.inr (Or.inl e))
  have HRE : Hid (∀ k, RowS (.slice Ae en.length ce) (.slice At tr.length ct) (.slice As sw.length cs) (.slice Ak wk.length ck) k → R k) := Lib.hid (fun k e => hR ▸ e)
  unfold stV
  unfold stC zeroC at hwa
  clear hv hT hJ hS hR hRt he hw hsF
  go_enter Tryz.func104, Tryz.ntmps104
  go_wp2
  try rw [hwa]
  go_loopw [9, 10] (fun v i wr => ∃ q : Nat, ∃ lw : List (Nat × Int), q ≤ wk.length ∧ i = .int .i64 (q : Int) ∧ lw.length ≤ q ∧ Hid (lw = (wk.take q).filter (fun p => (tkJ ts js p.1).cr)) ∧ Hid (OwnW wr (w.heap.size + 2) v lw) ∧ Hid (StM wr B (.slice Ae en.length ce) (.slice At tr.length ct) (.slice As sw.length cs) (.slice Ak wk.length ck) ⟨dropE ts js en (wk.take q), tr, sw, hi, wk, nx⟩) ∧ Hid (Kp w wr R) ∧ Hid (Blk wr w.heap.size 92 (stC (.slice Ae en.length ce) (.slice At tr.length ct) (.slice As sw.length cs) (.slice Ak wk.length ck) hi nx xn xd)) ∧ Hid (Blk wr (w.heap.size + 1) 92 zeroC)) (fun _ i _ => wk.length - (intOf i).toNat)
  case atStart => exact ⟨0, [], Nat.zero_le _, rfl, Nat.le_refl _, Lib.hid rfl, HLa, HSa, HKa, HBa, HRa⟩
  case round =>
    obtain ⟨q, lw, hq, rfl, hlw, HZ, HL, HS, HK, HB, HR⟩ := hrel
    obtain ⟨Al, cl, rfl⟩ := HL.out.form
    obtain ⟨b0, b1, b2, b3, b4, b5, b6, b7⟩ := Blk.eight HB.out
    have f0 := HB.out.frozen
    have hw1 : w.heap.size + 2 ≤ wr.heap.size := by have := HR.out.lt; omega
    have HBw : Hid (Below B w wr) := Lib.hid (HK.out.below hB (fun x hx => (HRB.out x hx).1))
    have HNB : Hid (¬ RowS (.slice Ae en.length ce) (.slice At tr.length ct) (.slice As sw.length cs) (.slice Ak wk.length ck) w.heap.size) := Lib.hid (fun e => by have := (HRB.out _ (HRE.out _ e)).2; omega)
    have HNR : Hid (¬ RowS (.slice Ae en.length ce) (.slice At tr.length ct) (.slice As sw.length cs) (.slice Ak wk.length ck) (w.heap.size + 1)) := Lib.hid (fun e => by have := (HRB.out _ (HRE.out _ e)).2; omega)
    by_cases hlt : q < wk.length
    · have q1 : (q : Int) < (wk.length : Int) := by omega
      have q0 : (0 : Int) ≤ (q : Int) := by omega
      obtain ⟨x, hx⟩ : ∃ x, wk[q]? = some x := ⟨wk[q], List.getElem?_eq_getElem _⟩
      obtain ⟨k, d⟩ := x
      have hk : k < js.length := HW.out _ (List.mem_of_getElem? hx)
      have hjo := job_ok HV.out (k := k) hk
      obtain ⟨j, hj⟩ : ∃ j, js[k]? = some j := ⟨js[k], List.getElem?_eq_getElem _⟩
      have ejob := job_of hj
      obtain ⟨bj, oj, rfl, hbj, a0, a1, a2⟩ := (HJ.out.below HBw.out).at_ k j hj
      rw [ejob] at hjo
      obtain ⟨ta, tm, ne⟩ := j
      dsimp only at a0 a1 a2 hjo
      obtain ⟨p, rfl⟩ := Int.eq_ofNat_of_zero_le hjo.2.2.2.1
      have hpl : p < ts.length := by have := hjo.2.2.2.2.1; omega
      have q5 : (p : Int) < (n : Int) := by have := HT.out.len; omega
      have q6 : (0 : Int) ≤ (p : Int) := by omega
      have q7 : (k : Int) < (nj : Int) := by have := HLJ.out; omega
      have q8 : (0 : Int) ≤ (k : Int) := by omega
      obtain ⟨t, ht⟩ : ∃ t, ts[p]? = some t := ⟨ts[p], List.getElem?_eq_getElem _⟩
      obtain ⟨bt, ot, rfl, hbt, ⟨_, _, _, _, t4⟩⟩ := (HT.out.below HBw.out).at_ p t ht
      have etk : tkJ ts js k = t := by unfold tkJ; rw [ejob]; exact tkOf_get ht
      obtain ⟨gk, ck2, hgk⟩ := HS.out.k.some_ (show 0 < wk.length by omega)
      injection hgk with hgk1 hgk2 hgk3
      subst hgk1 hgk3
      clear hgk2
      obtain ⟨k0, k1⟩ := OwnW.at_ HS.out.k hx
      dsimp only at k0 k1
      have HD := Lib.hid (drop_step ts js en hx)
      have HFI := Lib.hid (filt_step (P := fun p => (tkJ ts js p.1).cr) hx)
      have etk2 : (tkJ ts js (k, d).1).cr = t.cr := by dsimp only; rw [etk]
      rw [etk2] at HD HFI
      clear etk etk2 ejob hj ht hjo hx
      cases hcr : t.cr
      · rw [hcr] at t4 HD HFI
        have hel : en.length = js.length := HE.out
        have hdl := drop_len ts js (wk.take q) en
        obtain ⟨ge, ce2, hge, _, _⟩ := World.ownsRow.form HS.out.e (show 0 < (dropE ts js en (wk.take q)).length by omega)
        injection hge with hge1 hge2 hge3
        subst hge1 hge3
        have ec := OwnZ.celld HS.out.e (show k < (dropE ts js en (wk.take q)).length by omega)
        have fe := OwnZ.frozen HS.out.e k
        have q4 : (k : Int) < (en.length : Int) := by omega
        have hgR : RowS (.slice (some ⟨ge, 0, none⟩) en.length ce) (.slice At tr.length ct) (.slice As sw.length cs) (.slice (some ⟨gk, 0, none⟩) wk.length ck) ge := .inl rfl
        have hgb : ge < w.heap.size := (HRB.out _ (HRE.out _ hgR)).2
        have HSP := Lib.hid (HS.out.putE (w' := wr.setCell ⟨ge, k, none⟩ (.int .i64 (-2))) (gb_set1 _ _ _ _) (OwnZ.put HS.out.e k (-2)) (fun k e => .inl e))
        have HK4 := Lib.hid (HK.out.set (a := ⟨ge, k, none⟩) (.inl (HRE.out _ hgR)) (.int .i64 (-2)))
        have HB4 := Lib.hid (HB.out.far (p := ⟨ge, k, none⟩) (by dsimp only; omega) (.int .i64 (-2)))
        have HR4 := Lib.hid (HR.out.far (p := ⟨ge, k, none⟩) (by dsimp only; omega) (.int .i64 (-2)))
        have HL4 : Hid (OwnW (wr.setCell ⟨ge, k, none⟩ (.int .i64 (-2))) (w.heap.size + 2) (.slice Al lw.length cl) lw) := Lib.hid (ownsRow_kp HL.out (S := fun x => x = ge) ((Kp.refl wr (fun x => x = ge)).set (a := ⟨ge, k, none⟩) (.inl rfl) _) (fun x e e2 => by have := (World.ownsRow.lt HL.out x e).1; omega))
        clear hel hdl hge2 hgR
        go_wp2
        go_roundw
        case rel => exact ⟨q + 1, lw, by omega, by go_num, by omega, Lib.hid (by rw [HFI.out, if_neg (by decide), List.append_nil]; exact HZ.out), HL4, Lib.hid (by rw [HD.out, if_neg (by decide)]; exact HSP.out), HK4, HB4, HR4⟩
        case measure => simp [intOf]; omega
      · rw [hcr] at t4 HD HFI
        have hrow : ∀ x, (Value.slice Al lw.length cl).ownBlock = some x → w.heap.size + 2 ≤ x := fun x e => (World.ownsRow.lt HL.out x e).1
        have HROW := Lib.hid hrow
        have hl60 : lw.length ≤ 60 := by omega
        clear hrow
        go_wp2_with (at_builtin; refine wpList_append_lies _ rfl (.tmp 35) (.tmp 41) 90 rfl (w.heap.size + 2) 136 i0 _ 2 16 Tryz.underlying90 hi0 hz0 hz1 hz2 rfl (by decide) (.slice Al lw.length cl) lw.length (lw.flatMap wkC) rfl (World.ownsRow.alloc HL.out _) ⟨wr.heap.size, 0, none⟩ 1 1 (wkC (k, d)) rfl rfl (cell_newW _ (k, d) _ _ rfl) (by intro u hu; exact wkC_one [(k, d)] u (by simpa using hu)) (by omega) (by unfold maxLen; omega) (by omega) (by simp; omega) _ rfl ?_; intro g2 cap2 w2 hown2 hgrow2 hat2 hlt2; have HO2 := Lib.hid (OwnW.snoc hown2); have HG2 := Lib.hid hgrow2; clear hown2 hgrow2 hat2)
        have HB4 := Lib.hid ((HB.out.alloc _).grown HG2.out (fun e => by have := HROW.out _ e.symm; omega))
        have HR4 := Lib.hid ((HR.out.alloc _).grown HG2.out (fun e => by have := HROW.out _ e.symm; omega))
        have HK4 := Lib.hid ((HK.out.alloc _).grown HG2.out (fun x e => by have := HROW.out _ e; right; omega))
        have HS4 := Lib.hid ((HS.out.alloc _).kp (kpG HG2.out) (fun x e e2 => by have := HROW.out _ e2; have := (HRB.out _ (HRE.out _ e)).2; omega))
        have hwl : (lw ++ [(k, d)]).length = lw.length + 1 := by simp
        go_wp2
        go_roundw
        case rel => exact ⟨q + 1, lw ++ [(k, d)], by omega, by go_num, by omega, Lib.hid (by rw [HFI.out, if_pos (by decide), HZ.out]), HO2, Lib.hid (by rw [HD.out, if_pos (by decide)]; exact HS4.out), HK4, HB4, HR4⟩
        case measure => simp [intOf]; omega
    · have q1 : ¬ (q : Int) < (wk.length : Int) := by omega
      obtain rfl : q = wk.length := by omega
      rw [List.take_length] at HS HZ
      have HB1 := Lib.hid ((HB.out.set_ 4 (.slice Al lw.length cl)).set_ 3 (.bool true))
      have HB0 := Lib.hid (HB.out.set_ 4 (.slice Al lw.length cl))
      have g0 := HB0.out.cell 3
      have g1 := HB0.out.frozen
      obtain ⟨c0, c1, c2, c3, c4, c5, c6, c7⟩ := Blk.eight (w := (wr.setCell ⟨w.heap.size, 4, none⟩ (.slice Al lw.length cl)).setCell ⟨w.heap.size, 3, none⟩ (.bool true)) HB1.out
      have f1 := HB1.out.frozen
      have HSb := Lib.hid ((HS.out.setb (a := ⟨w.heap.size, 4, none⟩) HNB.out (.slice Al lw.length cl)).setb (a := ⟨w.heap.size, 3, none⟩) HNB.out (.bool true))
      have HLb : Hid (OwnW ((wr.setCell ⟨w.heap.size, 4, none⟩ (.slice Al lw.length cl)).setCell ⟨w.heap.size, 3, none⟩ (.bool true)) (w.heap.size + 2) (.slice Al lw.length cl) lw) := Lib.hid (ownsRow_kp HL.out (S := fun x => x = w.heap.size) (((Kp.refl wr (fun x => x = w.heap.size)).set (a := ⟨w.heap.size, 4, none⟩) (.inl rfl) _).set (a := ⟨w.heap.size, 3, none⟩) (.inl rfl) _) (fun x e e2 => by have := (World.ownsRow.lt HL.out x e).1; omega))
      have HKb := Lib.hid ((HK.out.set (a := ⟨w.heap.size, 4, none⟩) (.inr (Nat.le_refl _)) (.slice Al lw.length cl)).set (a := ⟨w.heap.size, 3, none⟩) (.inr (Nat.le_refl _)) (.bool true))
      have HRb := Lib.hid ((HR.out.far (p := ⟨w.heap.size, 4, none⟩) (by dsimp only; omega) (.slice Al lw.length cl)).far (p := ⟨w.heap.size, 3, none⟩) (by dsimp only; omega) (.bool true))
      obtain ⟨W1, hW1⟩ : ∃ W1, (wr.setCell ⟨w.heap.size, 4, none⟩ (.slice Al lw.length cl)).setCell ⟨w.heap.size, 3, none⟩ (.bool true) = W1 := ⟨_, rfl⟩
      have hsW : W1.heap.size = wr.heap.size := by rw [← hW1]; simp [World.setCell]
      have HSW := Lib.hid hsW
      rw [hW1] at HB1 HSb HLb HKb HRb c0 c1 c2 c3 c4 c5 c6 c7 f1
      have HSz : Hid (OwnZ W1 B (.slice As sw.length cs) sw) := Lib.hid HSb.out.z
      have hro : ∀ x, (Value.slice As sw.length cs).ownBlock = some x → R x := fun x e => HRE.out x (.inr (.inr (.inl e)))
      have HRO := Lib.hid hro
      clear hro
      go_wp2_with (at_builtin; refine wpList_append_lies _ rfl (.tmp 54) (.tmp 56) 27 rfl B 3 i1 _ 1 8 Tryz.underlying27 hi1 hy0 hy1 hy2 rfl (by decide) (.slice As sw.length cs) sw.length (sw.map (Value.int .i64)) rfl (World.ownsRow.alloc HSz.out _) _ 1 1 [Value.int .i64 now] rfl rfl (cell_new1_at _ _ _ _ (by first | exact HSW.out.symm | rfl)) (by intro u hu; rw [List.mem_singleton.1 hu]; rfl) (by omega) (by unfold maxLen; omega) (by omega) (by simp; omega) _ rfl ?_; intro g2 cap2 w2 hown2 hgrow2 hat2 hlt2; have HO2 := Lib.hid (OwnZ.snoc hown2); have HG2 := Lib.hid hgrow2; have HAT2 : Hid (∀ k, (Value.slice (some ⟨g2, 0, none⟩) (sw.length + 1) cap2).ownBlock = some k → (Value.slice As sw.length cs).ownBlock = some k ∨ wr.heap.size < k) := Lib.hid (fun k e => by have e2 : g2 = k := Option.some.inj e; subst e2; rcases hat2 with h | h; exact .inl h; right; simp at h; omega); have HB2 := Lib.hid ((HB1.out.alloc _).grown HG2.out (fun e => by have := (HRB.out _ (HRO.out _ e.symm)).2; omega)); have HR2 := Lib.hid ((HRb.out.alloc _).grown HG2.out (fun e => by have := (HRB.out _ (HRO.out _ e.symm)).2; omega)); have y2 := HB2.out.cell 2; have fy := HB2.out.frozen; have HB3 := Lib.hid (HB2.out.set_ 2 (.slice (some ⟨g2, 0, none⟩) (sw.length + 1) cap2)); have HR3 := Lib.hid (HR2.out.far (p := ⟨w.heap.size, 2, none⟩) (by dsimp only; omega) (.slice (some ⟨g2, 0, none⟩) (sw.length + 1) cap2)); obtain ⟨W3, hW3⟩ : ∃ W3, w2.setCell ⟨w.heap.size, 2, none⟩ (.slice (some ⟨g2, 0, none⟩) (sw.length + 1) cap2) = W3 := ⟨_, rfl⟩; rw [hW3] at HB3 HR3; obtain ⟨b0, b1, b2, b3, b4, b5, b6, b7⟩ := Blk.eight HB3.out; obtain ⟨r0, r1, r2, r3, r4, r5, r6, r7⟩ := Blk.eight HR3.out; have fr := HR3.out.frozen; clear hown2 hgrow2 hat2)
      have hZ := HR3.out.fill8 (v0 := .slice Ae en.length ce) (v1 := .slice At tr.length ct) (v2 := .slice (some ⟨g2, 0, none⟩) (sw.length + 1) cap2) (v3 := .bool true) (v4 := .slice Al lw.length cl) (v5 := .int .i64 (nx : Int)) (v6 := .int .i64 xn) (v7 := .int .i64 xd)
      unfold Go.Proofs.YtgponahmkjohiabGreatDoor.fill8 at hZ
      obtain ⟨z0, z1, z2, z3, z4, z5, z6, z7⟩ := Blk.eight hZ
      clear hZ
      have hswl : (sw ++ [now]).length = sw.length + 1 := by simp
      have HSN := Lib.hid ((HSb.out.alloc (.cells #[.int .i64 now] 3)).putS HG2.out HO2.out (fun k e => (HAT2.out k e).imp id (fun e => by simp; omega)))
      have HU2 : Hid (∀ k, RowS (.slice Ae en.length ce) (.slice At tr.length ct) (.slice (some ⟨g2, 0, none⟩) (sw.length + 1) cap2) (.slice Al lw.length cl) k → R k ∨ w.heap.size + 2 ≤ k) := Lib.hid (RowS.subK (RowS.subS (fun k e => .inl (HRE.out k e)) (fun k e => (HAT2.out k e).imp id (fun e => by omega))) (fun k e => .inr (World.ownsRow.lt HL.out k e).1))
      have HNB2 : Hid (¬ RowS (.slice Ae en.length ce) (.slice At tr.length ct) (.slice (some ⟨g2, 0, none⟩) (sw.length + 1) cap2) (.slice Al lw.length cl) w.heap.size) := Lib.hid (fun e => by rcases HU2.out _ e with e2 | e2; have := (HRB.out _ e2).2; omega; omega)
      have HNR2 : Hid (¬ RowS (.slice Ae en.length ce) (.slice At tr.length ct) (.slice (some ⟨g2, 0, none⟩) (sw.length + 1) cap2) (.slice Al lw.length cl) (w.heap.size + 1)) := Lib.hid (fun e => by rcases HU2.out _ e with e2 | e2; have := (HRB.out _ e2).2; omega; omega)
      have HLl : Hid (∀ x, (Value.slice Al lw.length cl).ownBlock = some x → w.heap.size + 2 ≤ x ∧ x < wr.heap.size) := Lib.hid (fun x e => World.ownsRow.lt HL.out x e)
      have HSV : Hid (∀ x, (Value.slice As sw.length cs).ownBlock = some x → x < w.heap.size) := Lib.hid (fun x e => (HRB.out _ (HRO.out x e)).2)
      have HNBs : Hid (¬ RowS (.slice Ae en.length ce) (.slice At tr.length ct) (.slice (some ⟨g2, 0, none⟩) (sw.length + 1) cap2) (.slice Ak wk.length ck) w.heap.size) := Lib.hid (fun e => by rcases RowS.subS (R := R) (H := w.heap.size + 2) (fun k e => .inl (HRE.out k e)) (fun k e => (HAT2.out k e).imp id (fun e => by omega)) _ e with e2 | e2; have := (HRB.out _ e2).2; omega; omega)
      have HS3 : Hid (StM W3 B (.slice Ae en.length ce) (.slice At tr.length ct) (.slice (some ⟨g2, 0, none⟩) (sw.length + 1) cap2) (.slice Al lw.length cl) ⟨dropE ts js en wk, tr, sw ++ [now], hi, lw, nx⟩) := Lib.hid (by
        rw [← hW3]
        refine (HSN.out.setb (a := ⟨w.heap.size, 2, none⟩) HNBs.out (.slice (some ⟨g2, 0, none⟩) (sw.length + 1) cap2)).newK ?_ (fun x e1 e2 => ?_) (fun x e1 e2 => ?_) (fun x e1 e2 => ?_)
        · exact OwnW.less (ownsRow_kp (ownsRow_kp (World.ownsRow.alloc HLb.out _) (kpG HG2.out) (fun x e e2 => by have := (HLl.out x e).1; have := HSV.out x e2; omega)) (S := fun x => x = w.heap.size) ((Kp.refl w2 (fun x => x = w.heap.size)).set (a := ⟨w.heap.size, 2, none⟩) (.inl rfl) _) (fun x e e2 => by have := (HLl.out x e).1; omega)) (by omega)
        · have := (HLl.out x e2).1
          have := (HRB.out _ (HRE.out x (.inl e1))).2
          omega
        · have := (HLl.out x e2).1
          have := (HRB.out _ (HRE.out x (.inr (.inl e1)))).2
          omega
        · have := HLl.out x e2
          rcases HAT2.out x e1 with e3 | e3
          · have := HSV.out x e3
            omega
          · omega)
      have HK3 : Hid (Kp w W3 R) := Lib.hid (hW3 ▸ (((HKb.out.alloc _).grown HG2.out (fun x e => .inl (HRO.out x e))).set (a := ⟨w.heap.size, 2, none⟩) (.inr (Nat.le_refl _)) _))
      refine bodyPost_ret (v := .agg #[.slice Ae en.length ce, .slice At tr.length ct, .slice (some ⟨g2, 0, none⟩) (sw.length + 1) cap2, .bool true, .slice Al lw.length cl, .int .i64 (nx : Int), .int .i64 xn, .int .i64 xd]) (by simp [results, Tryz.results104, go_sem, z0, z1, z2, z3, z4, z5, z6, z7]) rfl ?_
      rw [HRR.out, ← HSF.out]
      unfold swM
      dsimp only
      rw [← HZ.out]
      exact ⟨_, _, _, _, rfl, (HS3.out.hi true).fill8 HNR2.out, ⟨HK3.out.fill8 (.inr (by omega)), fun k h => (HU2.out k h).imp id (fun e => by omega)⟩⟩
end Go.Proofs.YtgponahmkjohiabGreatDoor
