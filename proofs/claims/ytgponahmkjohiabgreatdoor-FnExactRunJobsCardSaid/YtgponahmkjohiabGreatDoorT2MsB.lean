import Derived.LoopTactic
import Derived.Deep.AppendLies
import Derived.Test.YtgponahmkjohiabGreatDoorT2MsA
namespace Go.Proofs.YtgponahmkjohiabGreatDoor
open Go.RowKit
set_option linter.unusedVariables false
theorem cell_newW (w : World) (q : Nat × Int) (ty : TypeId) (g : Nat) (hg : g = w.heap.size) : ∀ j u, (wkC q)[j]? = some u → (w.alloc (.cells #[.int .i64 (q.1 : Int), .int .i64 q.2] ty)).cell? ((⟨g, 0, none⟩ : Addr).add j) = some u := by
  intro j u hu
  subst hg
  exact World.news_of_block (Blk.new w ty #[.int .i64 (q.1 : Int), .int .i64 q.2]) j u hu
theorem come_stop {ts : List Tk} {js : List Jb} {now : Int} {s : Mc} : ∀ f, (s.nx < js.length → (jobOf js s.nx).tm ≠ now) → f ≤ js.length - s.nx → comeM ts js now f s = s
  | 0, _, _ => rfl
  | f + 1, h, hf => by rw [comeM, if_neg (h (by omega))]
theorem come_step {ts : List Tk} {js : List Jb} {now : Int} {s : Mc} (hn : s.nx < js.length) (h : (jobOf js s.nx).tm = now) : comeM ts js now (js.length - s.nx) s = comeM ts js now (js.length - (oneM ts js s).nx) (oneM ts js s) := by
  have e : (oneM ts js s).nx = s.nx + 1 := by unfold oneM; split <;> rfl
  rw [e, show js.length - s.nx = (js.length - (s.nx + 1)) + 1 by omega, comeM, if_pos h]
theorem wk_len {ts : List Tk} {js : List Jb} {now : Int} {g : Nat → Int} {s : Mc} (h : InvM ts js now g s) (h60 : js.length ≤ 60) : s.wk.length ≤ 60 := by
  have h1 : ∀ (l : List Nat) (a m : Nat), l.Pairwise (· < ·) → (∀ x ∈ l, a ≤ x ∧ x < m) → a ≤ m → l.length ≤ m - a := by
    intro l
    induction l with
    | nil => intro a m _ _ _; simp
    | cons x l ih =>
      intro a m hp hm ham
      have hx := hm x (by simp)
      have h2 := ih (x + 1) m (List.pairwise_cons.1 hp).2 (fun y hy => ⟨(List.pairwise_cons.1 hp).1 y hy, (hm y (by simp [hy])).2⟩) (by omega)
      rw [List.length_cons]; omega
  have h2 := h1 (s.wk.map Prod.fst) 0 s.nx h.srt (fun x hx => by
    obtain ⟨q, hq, rfl⟩ := List.mem_map.1 hx
    exact ⟨Nat.zero_le _, (h.wk q hq).1⟩) (Nat.zero_le _)
  rw [List.length_map] at h2
  have := h.nx
  omega
def zeroC : Array Value := #[.slice none 0 0, .slice none 0 0, .slice none 0 0, .bool false, .slice none 0 0, .int .i64 0, .int .i64 0, .int .i64 0]
/-- The block of a state: a variable of the call's own. -/
theorem kp_box {w : World} {R : Nat → Prop} (o o2 : Obj) : Kp w ((w.alloc o).alloc o2) R := ((Kp.refl w R).alloc o).alloc o2
set_option maxRecDepth 100000 in
set_option maxHeartbeats 4000000 in
theorem sCome_is (w : World) (B : Nat) (A : Option Addr) (n c : Nat) (ts : List Tk) (Aj : Option Addr) (nj cj : Nat) (js : List Jb) (hT : Tks w B A n ts) (hJ : Jbs w B Aj nj js) (hB : B ≤ w.heap.size) (hv : jobsB ts js = true) (now : Int) (g : Nat → Int)
    (ve vt vs vk : Value) (s : Mc) (hS : StM w B ve vt vs vk s) (hi : InvM ts js now g s) (xn xd : Int) :
    Calls Tryz.prog 102 #[.slice A n c, .slice Aj nj cj, stV ve vt vs vk s.hi s.nx xn xd, .int .i64 now] w (StRes B (RowS ve vt vs vk) (comeM ts js now (js.length - s.nx) s) xn xd w) := by
  obtain ⟨Ae, ce, rfl⟩ := hS.e.form
  obtain ⟨At, ct, rfl⟩ := hS.t.form
  obtain ⟨As, cs, rfl⟩ := hS.z.form
  obtain ⟨Ak, ck, rfl⟩ := hS.k.form
  obtain ⟨i0, hi0, hz0, hz1, hz2⟩ := info_parts info_work
  obtain ⟨sF, hsF⟩ : ∃ sF, comeM ts js now (js.length - s.nx) s = sF := ⟨_, rfl⟩
  have h60 : js.length ≤ 60 := (wrsB_iff.1 (jobs_wrs hv)).1
  have HV := Lib.hid hv
  have HT := Lib.hid hT
  have HJ := Lib.hid hJ
  have HLJ := Lib.hid hJ.len
  have HF := Lib.hid hsF
  rw [hsF]
  obtain ⟨R, hR⟩ : ∃ R, RowS (.slice Ae s.en.length ce) (.slice At s.tr.length ct) (.slice As s.sw.length cs) (.slice Ak s.wk.length ck) = R := ⟨_, rfl⟩
  obtain ⟨wa, hwa⟩ : ∃ wa, (w.alloc (.cells (stC (.slice Ae s.en.length ce) (.slice At s.tr.length ct) (.slice As s.sw.length cs) (.slice Ak s.wk.length ck) s.hi s.nx xn xd) 92)).alloc (.cells zeroC 92) = wa := ⟨_, rfl⟩
  have HKa : Hid (Kp w wa R) := Lib.hid (hwa ▸ kp_box _ _)
  have hsz : wa.heap.size = w.heap.size + 1 + 1 := by rw [← hwa]; simp
  have HSa : Hid (StM wa B (.slice Ae s.en.length ce) (.slice At s.tr.length ct) (.slice As s.sw.length cs) (.slice Ak s.wk.length ck) s) := Lib.hid (hwa ▸ (hS.alloc _).alloc _)
  have HBa : Hid (Blk wa w.heap.size 92 (stC (.slice Ae s.en.length ce) (.slice At s.tr.length ct) (.slice As s.sw.length cs) (.slice Ak s.wk.length ck) s.hi s.nx xn xd)) := Lib.hid (hwa ▸ (Blk.new w _ _).alloc _)
  have HRa : Hid (Blk wa (w.heap.size + 1) 92 zeroC) := Lib.hid (hwa ▸ (by simpa using Blk.new (w.alloc (.cells (stC (.slice Ae s.en.length ce) (.slice At s.tr.length ct) (.slice As s.sw.length cs) (.slice Ak s.wk.length ck) s.hi s.nx xn xd) 92)) 92 zeroC))
  have HRB : Hid (∀ k, R k → B ≤ k ∧ k < w.heap.size) := Lib.hid (hR ▸ hS.lt)
  have HI := Lib.hid hi
  have HRR := Lib.hid hR
  unfold stV
  unfold stC zeroC at hwa
  clear hv hT hJ hsF hS hi hR
  go_enter Tryz.func102, Tryz.ntmps102
  go_wp2
  try rw [hwa]
  go_loopw [] (fun wr => ∃ (Ae ce At ct As cs Ak ck : _) (s' : Mc), Hid (StM wr B (.slice Ae s'.en.length ce) (.slice At s'.tr.length ct) (.slice As s'.sw.length cs) (.slice Ak s'.wk.length ck) s') ∧ Hid (InvM ts js now g s') ∧ Hid (comeM ts js now (js.length - s'.nx) s' = sF) ∧ Hid (Kp w wr R) ∧ Hid (∀ k, RowS (.slice Ae s'.en.length ce) (.slice At s'.tr.length ct) (.slice As s'.sw.length cs) (.slice Ak s'.wk.length ck) k → R k ∨ w.heap.size + 2 ≤ k) ∧ Hid (Blk wr w.heap.size 92 (stC (.slice Ae s'.en.length ce) (.slice At s'.tr.length ct) (.slice As s'.sw.length cs) (.slice Ak s'.wk.length ck) s'.hi s'.nx xn xd)) ∧ Hid (Blk wr (w.heap.size + 1) 92 zeroC)) (fun wr => nj - (intOf ((wr.cell? ⟨w.heap.size, 5, none⟩).getD (.int .i64 0))).toNat)
  case atStart => exact ⟨_, _, _, _, _, _, _, _, s, HSa, HI, HF, HKa, Lib.hid (by rw [← HRR.out]; exact fun k h => .inl h), HBa, HRa⟩
  case round =>
    obtain ⟨Ae, ce, At, ct, As, cs, Ak, ck, s, HS, HI, HF2, HK, HU, HB, HR⟩ := hrel
    obtain ⟨en, tr, sw, hi, wk, nx⟩ := s
    dsimp only at HS HI HF2 HU HB HR
    obtain ⟨b0, b1, b2, b3, b4, b5, b6, b7⟩ := Blk.eight HB.out
    have f0 := HB.out.frozen
    have HM0 := Lib.hid b5
    have hw1 : w.heap.size + 2 ≤ wr.heap.size := by have := HR.out.lt; omega
    have hnx : nx ≤ js.length := HI.out.nx
    have hln := HLJ.out
    have HBw : Hid (Below B w wr) := Lib.hid (HK.out.below hB (fun x hx => (HRB.out x hx).1))
    have HNB : Hid (¬ RowS (.slice Ae en.length ce) (.slice At tr.length ct) (.slice As sw.length cs) (.slice Ak wk.length ck) w.heap.size) := Lib.hid (fun e => by rcases HU.out _ e with e2 | e2; have := (HRB.out _ e2).2; omega; omega)
    have HNR : Hid (¬ RowS (.slice Ae en.length ce) (.slice At tr.length ct) (.slice As sw.length cs) (.slice Ak wk.length ck) (w.heap.size + 1)) := Lib.hid (fun e => by rcases HU.out _ e with e2 | e2; have := (HRB.out _ e2).2; omega; omega)
    have wkl : wk.length ≤ 60 := wk_len HI.out h60
    by_cases hlt : nx < nj
    · have q1 : (nx : Int) < (nj : Int) := by omega
      have q0 : (0 : Int) ≤ (nx : Int) := by omega
      obtain ⟨j, hj⟩ : ∃ j, js[nx]? = some j := ⟨js[nx]'(by omega), List.getElem?_eq_getElem _⟩
      have ejob := job_of hj
      obtain ⟨bj, oj, rfl, hbj, a0, a1, a2⟩ := (HJ.out.below HBw.out).at_ nx j hj
      have hjo := job_ok HV.out (k := nx) (by omega)
      rw [ejob] at hjo
      obtain ⟨ta, tm, ne⟩ := j
      dsimp only at a0 a1 a2 hjo
      by_cases htm : tm = now
      · have t1 : (tm == now) = true := by simpa using htm
        obtain ⟨p, rfl⟩ := Int.eq_ofNat_of_zero_le hjo.2.2.2.1
        have hpl : p < ts.length := by have := hjo.2.2.2.2.1; omega
        have q5 : (p : Int) < (n : Int) := by have := HT.out.len; omega
        have q6 : (0 : Int) ≤ (p : Int) := by omega
        obtain ⟨t, ht⟩ : ∃ t, ts[p]? = some t := ⟨ts[p], List.getElem?_eq_getElem _⟩
        obtain ⟨bt, ot, rfl, hbt, ⟨_, _, _, _, t4⟩⟩ := (HT.out.below HBw.out).at_ p t ht
        have etk : tkJ ts js nx = t := by unfold tkJ; rw [ejob]; exact tkOf_get ht
        cases hhi : hi
        · have HST := Lib.hid (come_step (ts := ts) (js := js) (now := now) (s := ⟨en, tr, sw, hi, wk, nx⟩) (by dsimp only; omega) (by rw [ejob]; exact htm))
          have eone : oneM ts js ⟨en, tr, sw, hi, wk, nx⟩ = ⟨en, tr, sw, hi, wk ++ [(nx, 0)], nx + 1⟩ := by unfold oneM; dsimp only; rw [if_neg (by rw [etk, hhi]; simp)]
          have HI2 := Lib.hid (eone ▸ one_inv HV.out HI.out (by dsimp only; omega) (by rw [ejob]; exact htm))
          rw [eone] at HST
          clear eone ejob etk hj ht hjo
          subst hhi
          go_wp2_with (at_builtin; refine wpList_append_lies _ rfl (.tmp 47) (.tmp 51) 90 rfl B 136 i0 _ 2 16 Tryz.underlying90 hi0 hz0 hz1 hz2 rfl (by decide) (.slice Ak wk.length ck) wk.length (wk.flatMap wkC) rfl (World.ownsRow.alloc HS.out.k _) ⟨wr.heap.size, 0, none⟩ 1 1 (wkC (nx, 0)) rfl rfl (cell_newW _ (nx, 0) _ _ rfl) (by intro u hu; exact wkC_one [(nx, 0)] u (by simpa using hu)) (by omega) (by unfold maxLen; omega) (by omega) (by simp; omega) _ rfl ?_; intro g2 cap2 w2 hown2 hgrow2 hat2 hlt2; have HO2 := Lib.hid (OwnW.snoc hown2); have HB2 := Lib.hid ((HB.out.alloc _).grown hgrow2 (fun e => HNB.out (.inr (.inr (.inr e.symm))))); have HR2 := Lib.hid ((HR.out.alloc _).grown hgrow2 (fun e => HNR.out (.inr (.inr (.inr e.symm))))); have HG2 := Lib.hid hgrow2; have HAT2 : Hid (∀ k, (Value.slice (some ⟨g2, 0, none⟩) (wk.length + 1) cap2).ownBlock = some k → (Value.slice Ak wk.length ck).ownBlock = some k ∨ wr.heap.size < k) := Lib.hid (fun k e => by have e2 : g2 = k := Option.some.inj e; subst e2; rcases hat2 with h | h; exact .inl h; right; simp at h; omega); have HB3 := Lib.hid (HB2.out.set_ 4 (.slice (some ⟨g2, 0, none⟩) (wk.length + 1) cap2)); obtain ⟨b0, b1, b2, b3, b4, b5, b6, b7⟩ := Blk.eight (w := w2.setCell ⟨w.heap.size, 4, none⟩ (.slice (some ⟨g2, 0, none⟩) (wk.length + 1) cap2)) HB3.out; have y4 := HB2.out.cell 4; have f0 := HB2.out.frozen; have f1 := HB3.out.frozen; clear hown2 hgrow2 hat2)
          have HS2 := Lib.hid ((StM.putK (HS.out.alloc (.cells #[.int .i64 (nx : Int), .int .i64 0] 136)) HG2.out (fun k e => HS.out.rowK k e) HO2.out (fun k e => by rcases HAT2.out k e with h | h; exact .inl h; right; simp; omega)).nx (nx + 1))
          have HU2 := Lib.hid (RowS.subK (v' := .slice (some ⟨g2, 0, none⟩) (wk.length + 1) cap2) HU.out (fun k e => (HAT2.out k e).imp id (fun e => by omega)))
          have HNB2 : Hid (¬ RowS (.slice Ae en.length ce) (.slice At tr.length ct) (.slice As sw.length cs) (.slice (some ⟨g2, 0, none⟩) (wk.length + 1) cap2) w.heap.size) := Lib.hid (fun e => by rcases HU2.out _ e with e2 | e2; have := (HRB.out _ e2).2; omega; omega)
          have HK2 := Lib.hid (((HK.out.alloc (.cells #[.int .i64 (nx : Int), .int .i64 0] 136)).grown HG2.out (fun k e => (HU.out k (.inr (.inr (.inr e)))).imp id (fun e => by omega))))
          have HK4 := Lib.hid ((HK2.out.set (a := ⟨w.heap.size, 4, none⟩) (.inr (Nat.le_refl _)) (.slice (some ⟨g2, 0, none⟩) (wk.length + 1) cap2)).set (a := ⟨w.heap.size, 5, none⟩) (.inr (Nat.le_refl _)) (.int .i64 ((nx : Int) + 1)))
          have HS4 := Lib.hid ((HS2.out.setb (a := ⟨w.heap.size, 4, none⟩) HNB2.out (.slice (some ⟨g2, 0, none⟩) (wk.length + 1) cap2)).setb (a := ⟨w.heap.size, 5, none⟩) HNB2.out (.int .i64 ((nx : Int) + 1)))
          have HB4 := Lib.hid (HB3.out.set_ 5 (.int .i64 ((nx : Int) + 1)))
          have HR4 := Lib.hid ((HR2.out.far (p := ⟨w.heap.size, 4, none⟩) (by dsimp only; omega) (.slice (some ⟨g2, 0, none⟩) (wk.length + 1) cap2)).far (p := ⟨w.heap.size, 5, none⟩) (by dsimp only; omega) (.int .i64 ((nx : Int) + 1)))
          have hm5 := HB4.out.cell 5
          have hwl : (wk ++ [(nx, (0 : Int))]).length = wk.length + 1 := by simp
          go_wp2
          go_roundw
          case rel => exact ⟨Ae, ce, At, ct, As, cs, some ⟨g2, 0, none⟩, cap2, ⟨en, tr, sw, false, wk ++ [(nx, 0)], nx + 1⟩, Lib.hid (by dsimp only; rw [hwl]; exact HS4.out), HI2, Lib.hid (HST.out.symm.trans HF2.out), HK4, Lib.hid (by dsimp only; rw [hwl]; exact HU2.out), Lib.hid (by dsimp only; rw [hwl]; exact HB4.out), HR4⟩
          case measure => rw [hm5, HM0.out]; simp [stC, intOf]; omega
        · cases hcr : t.cr
          ·
            have HST := Lib.hid (come_step (ts := ts) (js := js) (now := now) (s := ⟨en, tr, sw, hi, wk, nx⟩) (by dsimp only; omega) (by rw [ejob]; exact htm))
            have eone : oneM ts js ⟨en, tr, sw, hi, wk, nx⟩ = ⟨en.set nx (-2), tr, sw, hi, wk, nx + 1⟩ := by unfold oneM; dsimp only; rw [if_pos (by rw [etk, hhi, hcr]; rfl)]
            have HI2 := Lib.hid (eone ▸ one_inv HV.out HI.out (by dsimp only; omega) (by rw [ejob]; exact htm))
            rw [eone] at HST
            have hel : en.length = js.length := HI.out.enl
            clear eone ejob etk hj ht hjo
            subst hhi
            rw [hcr] at t4
            obtain ⟨ge, cap, hge, _, _⟩ := World.ownsRow.form HS.out.e (show 0 < en.length by omega)
            injection hge with hge1 hge2 hge3
            subst hge1 hge3
            clear hge2
            have HSP := Lib.hid ((HS.out.putE (w' := wr.setCell ⟨ge, nx, none⟩ (.int .i64 (-2))) (World.ownsRow.stored HS.out.e nx (.int .i64 (-2))).2 (OwnZ.put HS.out.e nx (-2)) (fun k e => .inl e)).nx (nx + 1))
            have fe := OwnZ.frozen HS.out.e nx
            have ec := OwnZ.celld HS.out.e (show nx < en.length by omega)
            have hgb : ge ≠ w.heap.size := fun e => HNB.out (by rw [← e]; exact .inl rfl)
            have hgr : ge ≠ w.heap.size + 1 := fun e => HNR.out (by rw [← e]; exact .inl rfl)
            have HB2 := Lib.hid (HB.out.far (p := ⟨ge, nx, none⟩) (by dsimp only; omega) (.int .i64 (-2)))
            have HR2 := Lib.hid (HR.out.far (p := ⟨ge, nx, none⟩) (by dsimp only; omega) (.int .i64 (-2)))
            obtain ⟨y0, y1, y2, y3, y4, y5, y6, y7⟩ := Blk.eight HB2.out
            have f2 := HB2.out.frozen
            have HK4 := Lib.hid ((HK.out.set (a := ⟨ge, nx, none⟩) ((HU.out ge (.inl rfl)).imp id (fun e => by dsimp only; omega)) (.int .i64 (-2))).set (a := ⟨w.heap.size, 5, none⟩) (.inr (Nat.le_refl _)) (.int .i64 ((nx : Int) + 1)))
            have HS4 := Lib.hid (HSP.out.setb (a := ⟨w.heap.size, 5, none⟩) HNB.out (.int .i64 ((nx : Int) + 1)))
            have HB4 := Lib.hid (HB2.out.set_ 5 (.int .i64 ((nx : Int) + 1)))
            have HR4 := Lib.hid (HR2.out.far (p := ⟨w.heap.size, 5, none⟩) (by dsimp only; omega) (.int .i64 ((nx : Int) + 1)))
            have hm5 := HB4.out.cell 5
            have q4 : (nx : Int) < (en.length : Int) := by omega
            clear hel
            have HEL : Hid ((en.set nx (-2 : Int)).length = en.length) := Lib.hid (by simp)
            go_wp2
            go_roundw
            case rel => exact ⟨some ⟨ge, 0, none⟩, ce, At, ct, As, cs, Ak, ck, ⟨en.set nx (-2), tr, sw, true, wk, nx + 1⟩, Lib.hid (by dsimp only; rw [HEL.out]; exact HS4.out), HI2, Lib.hid (HST.out.symm.trans HF2.out), HK4, Lib.hid (by dsimp only; rw [HEL.out]; exact HU.out), Lib.hid (by dsimp only; rw [HEL.out]; exact HB4.out), HR4⟩
            case measure => rw [hm5, HM0.out]; simp [stC, intOf]; omega
          ·
            have HST := Lib.hid (come_step (ts := ts) (js := js) (now := now) (s := ⟨en, tr, sw, hi, wk, nx⟩) (by dsimp only; omega) (by rw [ejob]; exact htm))
            have eone : oneM ts js ⟨en, tr, sw, hi, wk, nx⟩ = ⟨en, tr, sw, hi, wk ++ [(nx, 0)], nx + 1⟩ := by unfold oneM; dsimp only; rw [if_neg (by rw [etk, hhi]; simp [hcr])]
            have HI2 := Lib.hid (eone ▸ one_inv HV.out HI.out (by dsimp only; omega) (by rw [ejob]; exact htm))
            rw [eone] at HST
            clear eone ejob etk hj ht hjo
            subst hhi
            rw [hcr] at t4
            go_wp2_with (at_builtin; refine wpList_append_lies _ rfl (.tmp 47) (.tmp 51) 90 rfl B 136 i0 _ 2 16 Tryz.underlying90 hi0 hz0 hz1 hz2 rfl (by decide) (.slice Ak wk.length ck) wk.length (wk.flatMap wkC) rfl (World.ownsRow.alloc HS.out.k _) ⟨wr.heap.size, 0, none⟩ 1 1 (wkC (nx, 0)) rfl rfl (cell_newW _ (nx, 0) _ _ rfl) (by intro u hu; exact wkC_one [(nx, 0)] u (by simpa using hu)) (by omega) (by unfold maxLen; omega) (by omega) (by simp; omega) _ rfl ?_; intro g2 cap2 w2 hown2 hgrow2 hat2 hlt2; have HO2 := Lib.hid (OwnW.snoc hown2); have HB2 := Lib.hid ((HB.out.alloc _).grown hgrow2 (fun e => HNB.out (.inr (.inr (.inr e.symm))))); have HR2 := Lib.hid ((HR.out.alloc _).grown hgrow2 (fun e => HNR.out (.inr (.inr (.inr e.symm))))); have HG2 := Lib.hid hgrow2; have HAT2 : Hid (∀ k, (Value.slice (some ⟨g2, 0, none⟩) (wk.length + 1) cap2).ownBlock = some k → (Value.slice Ak wk.length ck).ownBlock = some k ∨ wr.heap.size < k) := Lib.hid (fun k e => by have e2 : g2 = k := Option.some.inj e; subst e2; rcases hat2 with h | h; exact .inl h; right; simp at h; omega); have HB3 := Lib.hid (HB2.out.set_ 4 (.slice (some ⟨g2, 0, none⟩) (wk.length + 1) cap2)); obtain ⟨b0, b1, b2, b3, b4, b5, b6, b7⟩ := Blk.eight (w := w2.setCell ⟨w.heap.size, 4, none⟩ (.slice (some ⟨g2, 0, none⟩) (wk.length + 1) cap2)) HB3.out; have y4 := HB2.out.cell 4; have f0 := HB2.out.frozen; have f1 := HB3.out.frozen; clear hown2 hgrow2 hat2)
            have HS2 := Lib.hid ((StM.putK (HS.out.alloc (.cells #[.int .i64 (nx : Int), .int .i64 0] 136)) HG2.out (fun k e => HS.out.rowK k e) HO2.out (fun k e => by rcases HAT2.out k e with h | h; exact .inl h; right; simp; omega)).nx (nx + 1))
            have HU2 := Lib.hid (RowS.subK (v' := .slice (some ⟨g2, 0, none⟩) (wk.length + 1) cap2) HU.out (fun k e => (HAT2.out k e).imp id (fun e => by omega)))
            have HNB2 : Hid (¬ RowS (.slice Ae en.length ce) (.slice At tr.length ct) (.slice As sw.length cs) (.slice (some ⟨g2, 0, none⟩) (wk.length + 1) cap2) w.heap.size) := Lib.hid (fun e => by rcases HU2.out _ e with e2 | e2; have := (HRB.out _ e2).2; omega; omega)
            have HK2 := Lib.hid (((HK.out.alloc (.cells #[.int .i64 (nx : Int), .int .i64 0] 136)).grown HG2.out (fun k e => (HU.out k (.inr (.inr (.inr e)))).imp id (fun e => by omega))))
            have HK4 := Lib.hid ((HK2.out.set (a := ⟨w.heap.size, 4, none⟩) (.inr (Nat.le_refl _)) (.slice (some ⟨g2, 0, none⟩) (wk.length + 1) cap2)).set (a := ⟨w.heap.size, 5, none⟩) (.inr (Nat.le_refl _)) (.int .i64 ((nx : Int) + 1)))
            have HS4 := Lib.hid ((HS2.out.setb (a := ⟨w.heap.size, 4, none⟩) HNB2.out (.slice (some ⟨g2, 0, none⟩) (wk.length + 1) cap2)).setb (a := ⟨w.heap.size, 5, none⟩) HNB2.out (.int .i64 ((nx : Int) + 1)))
            have HB4 := Lib.hid (HB3.out.set_ 5 (.int .i64 ((nx : Int) + 1)))
            have HR4 := Lib.hid ((HR2.out.far (p := ⟨w.heap.size, 4, none⟩) (by dsimp only; omega) (.slice (some ⟨g2, 0, none⟩) (wk.length + 1) cap2)).far (p := ⟨w.heap.size, 5, none⟩) (by dsimp only; omega) (.int .i64 ((nx : Int) + 1)))
            have hm5 := HB4.out.cell 5
            have hwl : (wk ++ [(nx, (0 : Int))]).length = wk.length + 1 := by simp
            go_wp2
            go_roundw
            case rel => exact ⟨Ae, ce, At, ct, As, cs, some ⟨g2, 0, none⟩, cap2, ⟨en, tr, sw, true, wk ++ [(nx, 0)], nx + 1⟩, Lib.hid (by dsimp only; rw [hwl]; exact HS4.out), HI2, Lib.hid (HST.out.symm.trans HF2.out), HK4, Lib.hid (by dsimp only; rw [hwl]; exact HU2.out), Lib.hid (by dsimp only; rw [hwl]; exact HB4.out), HR4⟩
            case measure => rw [hm5, HM0.out]; simp [stC, intOf]; omega
      · have t1 : (tm == now) = false := by simpa using htm
        have HEND : Hid ((⟨en, tr, sw, hi, wk, nx⟩ : Mc) = sF) := Lib.hid (by rw [← HF2.out]; exact (come_stop _ (fun _ => by rw [ejob]; exact htm) (Nat.le_refl _)).symm)
        clear a0 a2 hjo ejob hj
        obtain ⟨r0, r1, r2, r3, r4, r5, r6, r7⟩ := Blk.eight HR.out
        have fr := HR.out.frozen
        have hZ := HR.out.fill8 (v0 := .slice Ae en.length ce) (v1 := .slice At tr.length ct) (v2 := .slice As sw.length cs) (v3 := .bool hi) (v4 := .slice Ak wk.length ck) (v5 := .int .i64 (nx : Int)) (v6 := .int .i64 xn) (v7 := .int .i64 xd)
        unfold Go.Proofs.YtgponahmkjohiabGreatDoor.fill8 at hZ
        obtain ⟨z0, z1, z2, z3, z4, z5, z6, z7⟩ := Blk.eight hZ
        have HSZ := Lib.hid (HS.out.fill8 HNR.out (v0 := .slice Ae en.length ce) (v1 := .slice At tr.length ct) (v2 := .slice As sw.length cs) (v3 := .bool hi) (v4 := .slice Ak wk.length ck) (v5 := .int .i64 (nx : Int)) (v6 := .int .i64 xn) (v7 := .int .i64 xd))
        have HKZ := Lib.hid (HK.out.fill8 (b := w.heap.size + 1) (.inr (by omega)) (v0 := .slice Ae en.length ce) (v1 := .slice At tr.length ct) (v2 := .slice As sw.length cs) (v3 := .bool hi) (v4 := .slice Ak wk.length ck) (v5 := .int .i64 (nx : Int)) (v6 := .int .i64 xn) (v7 := .int .i64 xd))
        clear hZ
        go_wp2
        refine bodyPost_ret (v := .agg #[.slice Ae en.length ce, .slice At tr.length ct, .slice As sw.length cs, .bool hi, .slice Ak wk.length ck, .int .i64 (nx : Int), .int .i64 xn, .int .i64 xd]) (by simp [results, Tryz.results102, go_sem, z0, z1, z2, z3, z4, z5, z6, z7]) rfl ?_
        rw [HRR.out, ← HEND.out]
        exact ⟨_, _, _, _, rfl, HSZ.out, ⟨HKZ.out, fun k h => (HU.out k h).imp id (fun e => by omega)⟩⟩
    · have q1 : ¬ (nx : Int) < (nj : Int) := by omega
      have HEND : Hid ((⟨en, tr, sw, hi, wk, nx⟩ : Mc) = sF) := Lib.hid (by rw [← HF2.out]; exact (come_stop _ (fun h => by dsimp only at h; omega) (Nat.le_refl _)).symm)
      obtain ⟨r0, r1, r2, r3, r4, r5, r6, r7⟩ := Blk.eight HR.out
      have fr := HR.out.frozen
      have hZ := HR.out.fill8 (v0 := .slice Ae en.length ce) (v1 := .slice At tr.length ct) (v2 := .slice As sw.length cs) (v3 := .bool hi) (v4 := .slice Ak wk.length ck) (v5 := .int .i64 (nx : Int)) (v6 := .int .i64 xn) (v7 := .int .i64 xd)
      unfold Go.Proofs.YtgponahmkjohiabGreatDoor.fill8 at hZ
      obtain ⟨z0, z1, z2, z3, z4, z5, z6, z7⟩ := Blk.eight hZ
      have HSZ := Lib.hid (HS.out.fill8 HNR.out (v0 := .slice Ae en.length ce) (v1 := .slice At tr.length ct) (v2 := .slice As sw.length cs) (v3 := .bool hi) (v4 := .slice Ak wk.length ck) (v5 := .int .i64 (nx : Int)) (v6 := .int .i64 xn) (v7 := .int .i64 xd))
      have HKZ := Lib.hid (HK.out.fill8 (b := w.heap.size + 1) (.inr (by omega)) (v0 := .slice Ae en.length ce) (v1 := .slice At tr.length ct) (v2 := .slice As sw.length cs) (v3 := .bool hi) (v4 := .slice Ak wk.length ck) (v5 := .int .i64 (nx : Int)) (v6 := .int .i64 xn) (v7 := .int .i64 xd))
      clear hZ
      go_wp2
      refine bodyPost_ret (v := .agg #[.slice Ae en.length ce, .slice At tr.length ct, .slice As sw.length cs, .bool hi, .slice Ak wk.length ck, .int .i64 (nx : Int), .int .i64 xn, .int .i64 xd]) (by simp [results, Tryz.results102, go_sem, z0, z1, z2, z3, z4, z5, z6, z7]) rfl ?_
      rw [HRR.out, ← HEND.out]
      exact ⟨_, _, _, _, rfl, HSZ.out, ⟨HKZ.out, fun k h => (HU.out k h).imp id (fun e => by omega)⟩⟩
end Go.Proofs.YtgponahmkjohiabGreatDoor
