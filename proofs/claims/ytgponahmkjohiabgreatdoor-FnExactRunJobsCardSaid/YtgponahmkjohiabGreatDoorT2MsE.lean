import Derived.Deep.Cut
import Derived.Deep.RegionHeld3
import Derived.Test.YtgponahmkjohiabGreatDoorT2MsC
import Derived.Test.YtgponahmkjohiabGreatDoorT2MsD
namespace Go.Proofs.YtgponahmkjohiabGreatDoor
open Go.RowKit
set_option linter.unusedVariables false
theorem step_append_ownM {P : Program} {ops : Array Oper} {o : Oper} {a : Act} {w : World} {K : Act → World → Prop} {Q : Exit → Act → World → Prop} {E : Prop} (hgd : o.guard = none) (s x : Operand) (t : TypeId)
    (ho : o.op = .call { callee := .builtin .append, args := #[s, x], argTypes := #[t, t] })
    (base : Nat) (e : TypeId) (i : TypeInfo) (z : Value) (size bytes : Nat) (ht : P.underlying t = some (.slice e)) (hi : P.info? e = some i) (hz : i.zero = some z)
    (hsize : i.size = size) (hby : i.bytes = bytes) (hzs : z.cells.size = size) (hsz : 0 < size)
    (v : Value) (n : Nat) (xs : List Value) (hs : a.eval s = v) (hown : w.ownsRow base e size v n xs)
    (ad : Addr) (m c : Nat) (news : List Value) (hx : a.eval x = .slice (some ad) m c) (hl : news.length = m * size) (hnews : ∀ j u, news[j]? = some u → w.cell? (ad.add j) = some u) (h1 : ∀ u ∈ news, u.oneCell' = true)
    (h63 : n + m ≤ maxLen) (hbytes : (n + m) * bytes ≤ 140737488355328) (hbase : base ≤ w.heap.size)
    (h : ∀ v' w', w'.ownsRow base e size v' (n + m) (xs ++ news) → w.grownBy w' v.ownBlock → (v' = .slice none 0 0 ↔ v = .slice none 0 0 ∧ m = 0) → K (a.put o.dst v') w') :
    if Region.wanted o (yielded ops a.tmps) = true then Oper.wp P o a w K Q else E := by
  have hw : Region.wanted o (yielded ops a.tmps) = true := by simp [Region.wanted, hgd]
  rw [if_pos hw]
  exact wp_append_own w s x t ho base e i z size bytes ht hi hz hsize hby hzs hsz v n xs hs hown ad m c news hx hl hnews h1 h63 hbytes hbase h
theorem tick_empty {ts : List Tk} {js : List Jb} {p : Po} {now : Int} {s s1 : Mc} (h : openM ts js now s = s1) (hw : s1.wk = []) : tickM ts js p now s = { s1 with tr := s1.tr ++ [-1] } := by
  unfold tickM
  rw [h]
  have e : s1.wk[bestM ts js p s1]? = none := by rw [hw]; rfl
  rw [e]
theorem tick_full {ts : List Tk} {js : List Jb} {p : Po} {now : Int} {s s1 : Mc} {b k : Nat} {d : Int} (h : openM ts js now s = s1) (hb : bestM ts js p s1 = b) (hw : s1.wk[b]? = some (k, d)) : tickM ts js p now s = closeM ts js now b k d s1 := by
  unfold tickM
  rw [h, hb, hw]
set_option maxRecDepth 100000 in
set_option maxHeartbeats 8000000 in
theorem sTick_is (w : World) (B : Nat) (A : Option Addr) (n c : Nat) (ts : List Tk) (Aj : Option Addr) (nj cj : Nat) (js : List Jb) (hT : Tks w B A n ts) (hJ : Jbs w B Aj nj js) (hB : B ≤ w.heap.size) (hv : jobsB ts js = true) (now : Int) (g : Nat → Int)
    (ve vt vs vk : Value) (s : Mc) (hS : StM w B ve vt vs vk s) (hi : InvM ts js now g s) (n0 : 0 ≤ now) (n1 : now ≤ 1000) (htl : s.tr.length ≤ 100000) (hsl : s.sw.length ≤ 100000)
    (xn xd : Int) (x0 : 0 ≤ xn) (x1 : xn ≤ 1000000000) (y0 : 0 ≤ xd) (y1 : xd ≤ 1000000000) (pol : Int) (due : Bool) (hp : due = (pol == 1)) :
    Calls Tryz.prog 51 #[.slice A n c, .slice Aj nj cj, stV ve vt vs vk s.hi s.nx xn xd, .int .i64 pol, .int .i64 now] w (StRes B (RowS ve vt vs vk) (tickM ts js ⟨due, xn, xd⟩ now s) xn xd w) := by
  obtain ⟨Ae, ce, rfl⟩ := hS.e.form
  obtain ⟨At, ct, rfl⟩ := hS.t.form
  obtain ⟨As, cs, rfl⟩ := hS.z.form
  obtain ⟨Ak, ck, rfl⟩ := hS.k.form
  obtain ⟨i1, hi1, hy0, hy1, hy2⟩ := info_parts info_int
  obtain ⟨i0, hi0, hz0, hz1, hz2⟩ := info_parts info_work
  obtain ⟨hso, hco, _⟩ := open_inv hv hi
  obtain ⟨s1, hs1⟩ : ∃ s1, openM ts js now s = s1 := ⟨_, rfl⟩
  obtain ⟨sF, hsF⟩ : ∃ sF, tickM ts js ⟨due, xn, xd⟩ now s = sF := ⟨_, rfl⟩
  have HS1 := Lib.hid hs1
  have HF : Hid (tickM ts js ⟨due, xn, xd⟩ now s = sF) := Lib.hid hsF
  rw [hsF]
  rw [hs1] at hso hco
  have HI1 := Lib.hid hso
  have htr1 : s1.tr.length ≤ 100000 := by rw [hco.tr]; exact htl
  have hsw1 : s1.sw.length ≤ 100000 := by rw [hco.sw]; exact hsl
  have hlow : comeM ts js now (js.length - s.nx) (lowM s) = s1 := hs1
  have h60 : js.length ≤ 60 := (wrsB_iff.1 (jobs_wrs hv)).1
  have HIL := Lib.hid (low_inv hi)
  obtain ⟨en, tr, sw, hi', wk, nx⟩ := s
  dsimp only at hS htl hsl hlow ⊢
  obtain ⟨h', hh⟩ : ∃ h', (hi' && !wk.isEmpty) = h' := ⟨_, rfl⟩
  have elow : lowM ⟨en, tr, sw, hi', wk, nx⟩ = ⟨en, tr, sw, h', wk, nx⟩ := by unfold lowM; dsimp only; rw [hh]
  rw [elow] at hlow HIL
  have HLOW := Lib.hid hlow
  have HH := Lib.hid hh
  have HV := Lib.hid hv
  have HT := Lib.hid hT
  have HJ := Lib.hid hJ
  have HLJ := Lib.hid hJ.len
  have HP := Lib.hid hp
  have HST := Lib.hid (jobs_set hv)
  obtain ⟨R, hR⟩ : ∃ R, RowS (.slice Ae en.length ce) (.slice At tr.length ct) (.slice As sw.length cs) (.slice Ak wk.length ck) = R := ⟨_, rfl⟩
  obtain ⟨wa, hwa⟩ : ∃ wa, (w.alloc (.cells #[.slice Ae en.length ce, .slice At tr.length ct, .slice As sw.length cs, .bool hi', .slice Ak wk.length ck, .int .i64 (nx : Int), .int .i64 xn, .int .i64 xd] 92)).alloc (.cells #[.slice none 0 0, .slice none 0 0, .slice none 0 0, .bool false, .slice none 0 0, .int .i64 0, .int .i64 0, .int .i64 0] 92) = wa := ⟨_, rfl⟩
  have HKa : Hid (Kp w wa R) := Lib.hid (hwa ▸ kp_box _ _)
  have hsz : wa.heap.size = w.heap.size + 2 := by rw [← hwa]; simp
  have HSa : Hid (StM wa B (.slice Ae en.length ce) (.slice At tr.length ct) (.slice As sw.length cs) (.slice Ak wk.length ck) ⟨en, tr, sw, hi', wk, nx⟩) := Lib.hid (hwa ▸ (hS.alloc _).alloc _)
  have HBa : Hid (Blk wa w.heap.size 92 #[.slice Ae en.length ce, .slice At tr.length ct, .slice As sw.length cs, .bool hi', .slice Ak wk.length ck, .int .i64 (nx : Int), .int .i64 xn, .int .i64 xd]) := Lib.hid (hwa ▸ (Blk.new w _ _).alloc _)
  have HRa : Hid (Blk wa (w.heap.size + 1) 92 #[.slice none 0 0, .slice none 0 0, .slice none 0 0, .bool false, .slice none 0 0, .int .i64 0, .int .i64 0, .int .i64 0]) := Lib.hid (hwa ▸ (by simpa using Blk.new (w.alloc (.cells #[.slice Ae en.length ce, .slice At tr.length ct, .slice As sw.length cs, .bool hi', .slice Ak wk.length ck, .int .i64 (nx : Int), .int .i64 xn, .int .i64 xd] 92)) 92 #[.slice none 0 0, .slice none 0 0, .slice none 0 0, .bool false, .slice none 0 0, .int .i64 0, .int .i64 0, .int .i64 0]))
  have HRB : Hid (∀ k, R k → B ≤ k ∧ k < w.heap.size) := Lib.hid (hR ▸ hS.lt)
  have HRR := Lib.hid hR
  have HRE : Hid (∀ k, RowS (.slice Ae en.length ce) (.slice At tr.length ct) (.slice As sw.length cs) (.slice Ak wk.length ck) k → R k) := Lib.hid (fun k e => hR ▸ e)
  have HNB : Hid (¬ RowS (.slice Ae en.length ce) (.slice At tr.length ct) (.slice As sw.length cs) (.slice Ak wk.length ck) w.heap.size) := Lib.hid (fun e => by have := (HRB.out _ (HRE.out _ e)).2; omega)
  unfold stV
  clear hv hT hJ hS hR hp hi hs1 hsF hso hco hlow elow hh
  obtain ⟨b0, b1, b2, b3, b4, b5, b6, b7⟩ := Blk.eight HBa.out
  have f0 := HBa.out.frozen
  go_enter Tryz.func51, Tryz.ntmps51
  go_upto_if 19 with (fail)
  try rw [hwa]
  go_cut [] from 16 (fun wc => Hid (StM wc B (.slice Ae en.length ce) (.slice At tr.length ct) (.slice As sw.length cs) (.slice Ak wk.length ck) ⟨en, tr, sw, h', wk, nx⟩) ∧ Hid (Kp w wc R) ∧ Hid (Blk wc w.heap.size 92 #[.slice Ae en.length ce, .slice At tr.length ct, .slice As sw.length cs, .bool h', .slice Ak wk.length ck, .int .i64 (nx : Int), .int .i64 xn, .int .i64 xd]) ∧ Hid (Blk wc (w.heap.size + 1) 92 #[.slice none 0 0, .slice none 0 0, .slice none 0 0, .bool false, .slice none 0 0, .int .i64 0, .int .i64 0, .int .i64 0]))
  case first =>
    by_cases hw0 : wk.length = 0
    · have t1 : ((wk.length : Int) == 0) = true := by rw [hw0]; rfl
      have t2 : (wk.length : Int) = 0 := by omega
      obtain rfl : wk = [] := List.length_eq_zero_iff.1 hw0
      obtain rfl : h' = false := by rw [← HH.out]; simp
      have HB2 := Lib.hid (HBa.out.set_ 3 (.bool false))
      have HR2 := Lib.hid (HRa.out.far (p := ⟨w.heap.size, 3, none⟩) (by dsimp only; omega) (.bool false))
      have HS2 := Lib.hid ((HSa.out.hi false).setb (a := ⟨w.heap.size, 3, none⟩) HNB.out (.bool false))
      have HK2 := Lib.hid (HKa.out.set (a := ⟨w.heap.size, 3, none⟩) (.inr (Nat.le_refl _)) (.bool false))
      go_wp2
      go_meet
      case rel => exact ⟨HS2, HK2, HB2, HR2⟩
    · have t1 : ((wk.length : Int) == 0) = false := by rw [beq_eq_false_iff_ne]; omega
      have t2 : ¬ (wk.length : Int) = 0 := by omega
      obtain rfl : h' = hi' := by rw [← HH.out]; cases wk with
        | nil => simp at hw0
        | cons _ _ => simp
      go_wp2
      go_meet
      case rel => exact ⟨HSa, HKa, HBa, HRa⟩
  case rest =>
    obtain ⟨HSc, HKc, HBc, HRc⟩ := hcut
    clear b0 b1 b2 b3 b4 b5 b6 b7 f0 hwa HSa HKa HBa HRa hsz HH
    obtain ⟨b0, b1, b2, b3, b4, b5, b6, b7⟩ := Blk.eight HBc.out
    have f0 := HBc.out.frozen
    have hwc : w.heap.size + 2 ≤ wc.heap.size := by have := HRc.out.lt; omega
    have HBw : Hid (Below B w wc) := Lib.hid (HKc.out.below hB (fun x hx => (HRB.out x hx).1))
    go_wp2_with fail
    refine (sCome_is _ B A n c ts Aj nj cj js (HT.out.below HBw.out) (HJ.out.below HBw.out) (by omega) HV.out now g _ _ _ _ ⟨en, tr, sw, h', wk, nx⟩ HSc.out HIL.out xn xd).mono ?_
    rw [HLOW.out]
    rintro e w1 ⟨ve1, vt1, vs1, vk1, rfl, hS1, hF1⟩
    obtain ⟨en1, tr1, sw1, hi1', wk1, nx1⟩ := s1
    dsimp only at hS1 htr1 hsw1 ⊢
    obtain ⟨Ae1, ce1, rfl⟩ := hS1.e.form
    obtain ⟨At1, ct1, rfl⟩ := hS1.t.form
    obtain ⟨As1, cs1, rfl⟩ := hS1.z.form
    obtain ⟨Ak1, ck1, rfl⟩ := hS1.k.form
    dsimp only at hS1 hF1 ⊢
    have hs1 : wc.heap.size ≤ w1.heap.size := hF1.kp.size
    have HB1 := Lib.hid (HBc.out.kp hF1.kp HNB.out)
    have HR1 := Lib.hid (HRc.out.kp hF1.kp (fun e => by have := (HRB.out _ (HRE.out _ e)).2; omega))
    have HK1 := Lib.hid (HKc.out.trans hF1.kp (fun x e => .inl (HRE.out x e)))
    have HU1 : Hid (∀ k, RowS (.slice Ae1 en1.length ce1) (.slice At1 tr1.length ct1) (.slice As1 sw1.length cs1) (.slice Ak1 wk1.length ck1) k → R k ∨ w.heap.size + 2 ≤ k) := Lib.hid (fun k e => by rcases hF1.sub k e with e2 | e2; exact .inl (HRE.out k e2); right; omega)
    have HSS1 := Lib.hid hS1
    have HNB1 : Hid (¬ RowS (.slice Ae1 en1.length ce1) (.slice At1 tr1.length ct1) (.slice As1 sw1.length cs1) (.slice Ak1 wk1.length ck1) w.heap.size) := Lib.hid (fun e => by rcases HU1.out _ e with e2 | e2; have := (HRB.out _ e2).2; omega; omega)
    have HNR1 : Hid (¬ RowS (.slice Ae1 en1.length ce1) (.slice At1 tr1.length ct1) (.slice As1 sw1.length cs1) (.slice Ak1 wk1.length ck1) (w.heap.size + 1)) := Lib.hid (fun e => by rcases HU1.out _ e with e2 | e2; have := (HRB.out _ e2).2; omega; omega)
    clear hF1 hS1 b0 b1 b2 b3 b4 b5 b6 b7 f0 HSc HKc HBc HRc
    obtain ⟨b0, b1, b2, b3, b4, b5, b6, b7⟩ := Blk.eight HB1.out
    have f0 := HB1.out.frozen
    unfold stV
    go_upto_if 30 with (fail)
    have HBf := Lib.hid (HB1.out.fill8 (v0 := .slice Ae1 en1.length ce1) (v1 := .slice At1 tr1.length ct1) (v2 := .slice As1 sw1.length cs1) (v3 := .bool hi1') (v4 := .slice Ak1 wk1.length ck1) (v5 := .int .i64 (nx1 : Int)) (v6 := .int .i64 xn) (v7 := .int .i64 xd))
    have HRf := Lib.hid (HR1.out.off8 (b := w.heap.size) (by omega) (v0 := .slice Ae1 en1.length ce1) (v1 := .slice At1 tr1.length ct1) (v2 := .slice As1 sw1.length cs1) (v3 := .bool hi1') (v4 := .slice Ak1 wk1.length ck1) (v5 := .int .i64 (nx1 : Int)) (v6 := .int .i64 xn) (v7 := .int .i64 xd))
    have HSf := Lib.hid (HSS1.out.fill8 HNB1.out (v0 := .slice Ae1 en1.length ce1) (v1 := .slice At1 tr1.length ct1) (v2 := .slice As1 sw1.length cs1) (v3 := .bool hi1') (v4 := .slice Ak1 wk1.length ck1) (v5 := .int .i64 (nx1 : Int)) (v6 := .int .i64 xn) (v7 := .int .i64 xd))
    have HKf := Lib.hid (HK1.out.fill8 (b := w.heap.size) (.inr (Nat.le_refl _)) (v0 := .slice Ae1 en1.length ce1) (v1 := .slice At1 tr1.length ct1) (v2 := .slice As1 sw1.length cs1) (v3 := .bool hi1') (v4 := .slice Ak1 wk1.length ck1) (v5 := .int .i64 (nx1 : Int)) (v6 := .int .i64 xn) (v7 := .int .i64 xd))
    obtain ⟨W2, hW2⟩ : ∃ W2, fill8 w1 w.heap.size (.slice Ae1 en1.length ce1) (.slice At1 tr1.length ct1) (.slice As1 sw1.length cs1) (.bool hi1') (.slice Ak1 wk1.length ck1) (.int .i64 (nx1 : Int)) (.int .i64 xn) (.int .i64 xd) = W2 := ⟨_, rfl⟩
    rw [hW2] at HBf HRf HSf HKf
    unfold fill8 at hW2
    rw [hW2]
    clear hW2 b0 b1 b2 b3 b4 b5 b6 b7 f0 HB1 HR1 HSS1 HK1
    obtain ⟨b0, b1, b2, b3, b4, b5, b6, b7⟩ := Blk.eight HBf.out
    have f0 := HBf.out.frozen
    have hW2s : w.heap.size + 2 ≤ W2.heap.size := by have := HRf.out.lt; omega
    have HTz : Hid (OwnZ W2 B (.slice At1 tr1.length ct1) tr1) := Lib.hid HSf.out.t
    have HNT : Hid (¬ (Value.slice At1 tr1.length ct1).ownBlock = some w.heap.size) := Lib.hid (fun e => HNB1.out (.inr (.inl e)))
    have HNTr : Hid (¬ (Value.slice At1 tr1.length ct1).ownBlock = some (w.heap.size + 1)) := Lib.hid (fun e => HNR1.out (.inr (.inl e)))
    by_cases hwk : wk1.length = 0
    · have t1 : ((wk1.length : Int) == 0) = true := by rw [hwk]; rfl
      have HEND : Hid ((⟨en1, tr1 ++ [-1], sw1, hi1', wk1, nx1⟩ : Mc) = sF) := Lib.hid (by rw [← HF.out, tick_empty HS1.out (List.length_eq_zero_iff.1 hwk)])
      clear hwk
      go_wp2_with (at_builtin; refine wpList_append_lies _ rfl (.tmp 33) (.tmp 34) 27 rfl B 3 i1 _ 1 8 Tryz.underlying27 hi1 hy0 hy1 hy2 rfl (by decide) (.slice At1 tr1.length ct1) tr1.length (tr1.map (Value.int .i64)) rfl (World.ownsRow.alloc HTz.out _) _ 1 1 [Value.int .i64 (-1)] rfl rfl (cell_new1_at _ _ _ _ rfl) (by intro u hu; rw [List.mem_singleton.1 hu]; rfl) (by omega) (by unfold maxLen; omega) (by omega) (by simp; omega) _ rfl ?_; intro g3 cap3 w3 hown3 hgrow3 hat3 hlt3; have HO3 := Lib.hid (OwnZ.snoc hown3); have HG3 := Lib.hid hgrow3; have HAT3 : Hid (∀ k, (Value.slice (some ⟨g3, 0, none⟩) (tr1.length + 1) cap3).ownBlock = some k → (Value.slice At1 tr1.length ct1).ownBlock = some k ∨ W2.heap.size < k) := Lib.hid (fun k e => by have e2 : g3 = k := Option.some.inj e; subst e2; rcases hat3 with h | h; exact .inl h; right; simp at h; omega); have HB3 := Lib.hid ((HBf.out.alloc _).grown HG3.out (fun e => HNT.out (e.symm))); have HR3 := Lib.hid ((HRf.out.alloc _).grown HG3.out (fun e => HNTr.out e.symm)); have y1 := HB3.out.cell 1; have fy := HB3.out.frozen; have HB4 := Lib.hid (HB3.out.set_ 1 (.slice (some ⟨g3, 0, none⟩) (tr1.length + 1) cap3)); have HR4 := Lib.hid (HR3.out.far (p := ⟨w.heap.size, 1, none⟩) (by dsimp only; omega) (.slice (some ⟨g3, 0, none⟩) (tr1.length + 1) cap3)); obtain ⟨W4, hW4⟩ : ∃ W4, w3.setCell ⟨w.heap.size, 1, none⟩ (.slice (some ⟨g3, 0, none⟩) (tr1.length + 1) cap3) = W4 := ⟨_, rfl⟩; rw [hW4] at HB4 HR4; obtain ⟨b0, b1, b2, b3, b4, b5, b6, b7⟩ := Blk.eight HB4.out; have f4 := HB4.out.frozen; obtain ⟨r0, r1, r2, r3, r4, r5, r6, r7⟩ := Blk.eight HR4.out; have fr := HR4.out.frozen; clear hown3 hgrow3 hat3)
      have hTl : (tr1 ++ [(-1 : Int)]).length = tr1.length + 1 := by simp
      have HS3 := Lib.hid ((HSf.out.alloc _).putT HG3.out HO3.out (fun k e => (HAT3.out k e).imp id (fun e => by simp; omega)))
      have HU4 := Lib.hid (RowS.subT (v' := .slice (some ⟨g3, 0, none⟩) (tr1.length + 1) cap3) HU1.out (fun k e => (HAT3.out k e).imp id (fun e => by omega)))
      have HNB4 : Hid (¬ RowS (.slice Ae1 en1.length ce1) (.slice (some ⟨g3, 0, none⟩) (tr1.length + 1) cap3) (.slice As1 sw1.length cs1) (.slice Ak1 wk1.length ck1) w.heap.size) := Lib.hid (fun e => by rcases HU4.out _ e with e2 | e2; have := (HRB.out _ e2).2; omega; omega)
      have HS4 : Hid (StM W4 B (.slice Ae1 en1.length ce1) (.slice (some ⟨g3, 0, none⟩) (tr1.length + 1) cap3) (.slice As1 sw1.length cs1) (.slice Ak1 wk1.length ck1) ⟨en1, tr1 ++ [-1], sw1, hi1', wk1, nx1⟩) := Lib.hid (by
        rw [← hW4]
        exact HS3.out.setb HNB4.out _)
      have HK4 : Hid (Kp w W4 R) := Lib.hid (hW4 ▸ (((HKf.out.alloc _).grown HG3.out (fun x e => (HU1.out x (.inr (.inl e))).imp id (fun e => by omega))).set (a := ⟨w.heap.size, 1, none⟩) (.inr (Nat.le_refl _)) _))
      have hZ := HR4.out.fill8 (v0 := .slice Ae1 en1.length ce1) (v1 := .slice (some ⟨g3, 0, none⟩) (tr1.length + 1) cap3) (v2 := .slice As1 sw1.length cs1) (v3 := .bool hi1') (v4 := .slice Ak1 wk1.length ck1) (v5 := .int .i64 (nx1 : Int)) (v6 := .int .i64 xn) (v7 := .int .i64 xd)
      unfold Go.Proofs.YtgponahmkjohiabGreatDoor.fill8 at hZ
      obtain ⟨z0, z1, z2, z3, z4, z5, z6, z7⟩ := Blk.eight hZ
      clear hZ
      refine bodyPost_ret (v := .agg #[.slice Ae1 en1.length ce1, .slice (some ⟨g3, 0, none⟩) (tr1.length + 1) cap3, .slice As1 sw1.length cs1, .bool hi1', .slice Ak1 wk1.length ck1, .int .i64 (nx1 : Int), .int .i64 xn, .int .i64 xd]) (by simp [results, Tryz.results51, go_sem, z0, z1, z2, z3, z4, z5, z6, z7]) rfl ?_
      rw [HRR.out, ← HEND.out]
      exact ⟨_, _, _, _, rfl, HS4.out.fill8 (fun e => by rcases HU4.out _ e with e2 | e2; have := (HRB.out _ e2).2; omega; omega), ⟨HK4.out.fill8 (.inr (by omega)), fun k h => (HU4.out k h).imp id (fun e => by omega)⟩⟩
    have t1 : ((wk1.length : Int) == 0) = false := by rw [beq_eq_false_iff_ne]; omega
    rw [t1]
    have HW0 : Hid (0 < wk1.length) := Lib.hid (by omega)
    clear t1 hwk
    go_wp2
    have hW0 := HW0.out
    have HT2 : Hid (Tks W2 W2.heap.size A n ts) := Lib.hid ((HT.out.below (HKf.out.below hB (fun x hx => (HRB.out x hx).1))).more (by omega))
    have HJ2 : Hid (Jbs W2 W2.heap.size Aj nj js) := Lib.hid ((HJ.out.below (HKf.out.below hB (fun x hx => (HRB.out x hx).1))).more (by omega))
    have hwl : wk1.length ≤ 60 := wk_len HI1.out h60
    have HWK : Hid (∀ q ∈ wk1, q.1 < js.length) := Lib.hid (fun q hq => Nat.lt_of_lt_of_le (HI1.out.wk q hq).1 HI1.out.nx)
    obtain ⟨gk, ckx, hgk⟩ := HSf.out.k.some_ HW0.out
    injection hgk with hgk1 hgk2 hgk3
    subst hgk1 hgk3
    clear hgk2
    obtain ⟨bj, oj, hAj⟩ : ∃ bj oj, Aj = some ⟨bj, oj, none⟩ := by
      have hk := HWK.out _ (List.getElem_mem HW0.out)
      obtain ⟨bj, oj, e, _⟩ := HJ2.out.at_ _ _ (List.getElem?_eq_getElem hk)
      exact ⟨bj, oj, e⟩
    subst hAj
    have HLJ2 : Hid (bj < W2.heap.size) := Lib.hid (by
      have hk := HWK.out _ (List.getElem_mem HW0.out)
      exact (Jbs.get HJ2.out (List.getElem?_eq_getElem hk)).1)
    have HKW : Hid (OwnW W2 B (.slice (some ⟨gk, 0, none⟩) wk1.length ck1) wk1) := Lib.hid HSf.out.k
    have HGK : Hid (B ≤ gk ∧ gk < W2.heap.size) := Lib.hid (World.ownsRow.lt HSf.out.k gk rfl)
    go_loopw [11, 12] (fun b i wr => ∃ q : Nat, 1 ≤ q ∧ q ≤ wk1.length ∧ i = .int .i64 (q : Int) ∧ b = .int .i64 ((bestTo (ltM ts js ⟨due, xn, xd⟩ hi1') (wk1.map Prod.fst) (q - 1) : Nat) : Int) ∧ Hid (Below W2.heap.size W2 wr)) (fun _ i _ => wk1.length - (intOf i).toNat)
    case atStart => exact ⟨1, Nat.le_refl _, by omega, rfl, rfl, Lib.hid (Below.refl _ _)⟩
    case round =>
      obtain ⟨q, hq1, hq, rfl, rfl, HB⟩ := hrel
      clear b0 b1 b2 b3 b4 b5 b6 b7 f0
      have hbs : W2.heap.size ≤ wr.heap.size := HB.out.size
      have HBx := Lib.hid (HBf.out.below HB.out HBf.out.lt)
      by_cases hlt : q < wk1.length
      · obtain ⟨b0, b1, b2, b3, b4, b5, b6, b7⟩ := Blk.eight HBf.out
        have q1 : (q : Int) < (wk1.length : Int) := by omega
        have q0 : (0 : Int) ≤ (q : Int) := by omega
        obtain ⟨m, hm⟩ : ∃ m, bestTo (ltM ts js ⟨due, xn, xd⟩ hi1') (wk1.map Prod.fst) (q - 1) = m := ⟨_, rfl⟩
        have hml : m ≤ q - 1 := hm ▸ best_le _ _ _
        have m1 : (m : Int) < (wk1.length : Int) := by omega
        have m0 : (0 : Int) ≤ (m : Int) := by omega
        obtain ⟨x, hx⟩ : ∃ x, wk1[q]? = some x := ⟨wk1[q], List.getElem?_eq_getElem _⟩
        obtain ⟨y, hy⟩ : ∃ y, wk1[m]? = some y := ⟨wk1[m]'(by omega), List.getElem?_eq_getElem _⟩
        have hk1 := HWK.out _ (List.mem_of_getElem? hx)
        have hk2 := HWK.out _ (List.mem_of_getElem? hy)
        obtain ⟨k1, d1⟩ := x
        obtain ⟨k2, d2⟩ := y
        dsimp only at hk1 hk2
        have o1 := (OwnW.at_ HKW.out hx).1
        have o2 := (OwnW.at_ HKW.out hy).1
        dsimp only at o1 o2
        obtain ⟨j1, hj1⟩ : ∃ j1, js[k1]? = some j1 := ⟨js[k1], List.getElem?_eq_getElem _⟩
        obtain ⟨j2, hj2⟩ : ∃ j2, js[k2]? = some j2 := ⟨js[k2], List.getElem?_eq_getElem _⟩
        have e1 := job_of hj1
        have e2 := job_of hj2
        have g1 := job_ok HV.out hk1
        have g2 := job_ok HV.out hk2
        rw [e1] at g1
        rw [e2] at g2
        have hb1 := Jbs.get HJ2.out hj1
        have hb2 := Jbs.get HJ2.out hj2
        obtain ⟨_, a0, a1, a2⟩ := hb1
        obtain ⟨_, c0, c1, c2⟩ := hb2
        have q7 : (k1 : Int) < (nj : Int) := by have := HLJ.out; omega
        have q8 : (0 : Int) ≤ (k1 : Int) := by omega
        have q9 : (k2 : Int) < (nj : Int) := by have := HLJ.out; omega
        have q10 : (0 : Int) ≤ (k2 : Int) := by omega
        have G1 := Lib.hid g1
        have G2 := Lib.hid g2
        obtain ⟨r, hr⟩ : ∃ r, firstB ts ⟨due, xn, xd⟩ hi1' j1 j2 = r := ⟨_, rfl⟩
        have HX := Lib.hid hr
        have HBST : Hid (bestTo (ltM ts js ⟨due, xn, xd⟩ hi1') (wk1.map Prod.fst) q = if r then q else m) := Lib.hid (by
          obtain ⟨q', rfl⟩ : ∃ q', q = q' + 1 := ⟨q - 1, by omega⟩
          rw [bestTo]
          rw [show q' + 1 - 1 = q' by omega] at hm
          rw [hm]
          have l1 : (wk1.map Prod.fst).getD (q' + 1) 0 = k1 := by simp [List.getD, hx]
          have l2 : (wk1.map Prod.fst).getD m 0 = k2 := by simp [List.getD, hy]
          rw [l1, l2]
          unfold ltM
          rw [e1, e2, hr])
        rw [hm]
        clear hr hm hx hy hj1 hj2 e1 e2 g1 g2 hk1 hk2
        have lw : w.heap.size < W2.heap.size := by omega
        have lg : gk < W2.heap.size := HGK.out.2
        have lj : bj < W2.heap.size := HLJ2.out
        have HS0 : Hid ((W2.cell? ⟨w.heap.size, 0, none⟩ = some (.slice Ae1 en1.length ce1)) ∧ (W2.cell? ⟨w.heap.size, 1, none⟩ = some (.slice At1 tr1.length ct1)) ∧ (W2.cell? ⟨w.heap.size, 2, none⟩ = some (.slice As1 sw1.length cs1)) ∧ (W2.cell? ⟨w.heap.size, 3, none⟩ = some (.bool hi1')) ∧ (W2.cell? ⟨w.heap.size, 4, none⟩ = some (.slice (some ⟨gk, 0, none⟩) wk1.length ck1)) ∧ (W2.cell? ⟨w.heap.size, 5, none⟩ = some (.int .i64 (nx1 : Int))) ∧ (W2.cell? ⟨w.heap.size, 6, none⟩ = some (.int .i64 xn)) ∧ (W2.cell? ⟨w.heap.size, 7, none⟩ = some (.int .i64 xd)) ∧ (W2.cell? ⟨gk, q * 2, none⟩ = some (.int .i64 (k1 : Int))) ∧ (W2.cell? ⟨gk, m * 2, none⟩ = some (.int .i64 (k2 : Int))) ∧ (W2.cell? ⟨bj, oj + k1 * 3, none⟩ = some (.int .i64 j1.ta)) ∧ (W2.cell? ⟨bj, oj + k1 * 3 + 1, none⟩ = some (.int .i64 j1.tm)) ∧ (W2.cell? ⟨bj, oj + k1 * 3 + 2, none⟩ = some (.int .i64 j1.ne)) ∧ (W2.cell? ⟨bj, oj + k2 * 3, none⟩ = some (.int .i64 j2.ta)) ∧ (W2.cell? ⟨bj, oj + k2 * 3 + 1, none⟩ = some (.int .i64 j2.tm)) ∧ (W2.cell? ⟨bj, oj + k2 * 3 + 2, none⟩ = some (.int .i64 j2.ne))) := Lib.hid ⟨b0, b1, b2, b3, b4, b5, b6, b7, o1, o2, a0, a1, a2, c0, c1, c2⟩
        have hS0 : (wr.cell? ⟨w.heap.size, 0, none⟩ = some (.slice Ae1 en1.length ce1)) ∧ (wr.cell? ⟨w.heap.size, 1, none⟩ = some (.slice At1 tr1.length ct1)) ∧ (wr.cell? ⟨w.heap.size, 2, none⟩ = some (.slice As1 sw1.length cs1)) ∧ (wr.cell? ⟨w.heap.size, 3, none⟩ = some (.bool hi1')) ∧ (wr.cell? ⟨w.heap.size, 4, none⟩ = some (.slice (some ⟨gk, 0, none⟩) wk1.length ck1)) ∧ (wr.cell? ⟨w.heap.size, 5, none⟩ = some (.int .i64 (nx1 : Int))) ∧ (wr.cell? ⟨w.heap.size, 6, none⟩ = some (.int .i64 xn)) ∧ (wr.cell? ⟨w.heap.size, 7, none⟩ = some (.int .i64 xd)) ∧ (wr.cell? ⟨gk, q * 2, none⟩ = some (.int .i64 (k1 : Int))) ∧ (wr.cell? ⟨gk, m * 2, none⟩ = some (.int .i64 (k2 : Int))) ∧ (wr.cell? ⟨bj, oj + k1 * 3, none⟩ = some (.int .i64 j1.ta)) ∧ (wr.cell? ⟨bj, oj + k1 * 3 + 1, none⟩ = some (.int .i64 j1.tm)) ∧ (wr.cell? ⟨bj, oj + k1 * 3 + 2, none⟩ = some (.int .i64 j1.ne)) ∧ (wr.cell? ⟨bj, oj + k2 * 3, none⟩ = some (.int .i64 j2.ta)) ∧ (wr.cell? ⟨bj, oj + k2 * 3 + 1, none⟩ = some (.int .i64 j2.tm)) ∧ (wr.cell? ⟨bj, oj + k2 * 3 + 2, none⟩ = some (.int .i64 j2.ne)) := ⟨(HB.out.cell (p := ⟨w.heap.size, 0, none⟩) lw).trans HS0.out.1, (HB.out.cell (p := ⟨w.heap.size, 1, none⟩) lw).trans HS0.out.2.1, (HB.out.cell (p := ⟨w.heap.size, 2, none⟩) lw).trans HS0.out.2.2.1, (HB.out.cell (p := ⟨w.heap.size, 3, none⟩) lw).trans HS0.out.2.2.2.1, (HB.out.cell (p := ⟨w.heap.size, 4, none⟩) lw).trans HS0.out.2.2.2.2.1, (HB.out.cell (p := ⟨w.heap.size, 5, none⟩) lw).trans HS0.out.2.2.2.2.2.1, (HB.out.cell (p := ⟨w.heap.size, 6, none⟩) lw).trans HS0.out.2.2.2.2.2.2.1, (HB.out.cell (p := ⟨w.heap.size, 7, none⟩) lw).trans HS0.out.2.2.2.2.2.2.2.1, (HB.out.cell (p := ⟨gk, q * 2, none⟩) lg).trans HS0.out.2.2.2.2.2.2.2.2.1, (HB.out.cell (p := ⟨gk, m * 2, none⟩) lg).trans HS0.out.2.2.2.2.2.2.2.2.2.1, (HB.out.cell (p := ⟨bj, oj + k1 * 3, none⟩) lj).trans HS0.out.2.2.2.2.2.2.2.2.2.2.1, (HB.out.cell (p := ⟨bj, oj + k1 * 3 + 1, none⟩) lj).trans HS0.out.2.2.2.2.2.2.2.2.2.2.2.1, (HB.out.cell (p := ⟨bj, oj + k1 * 3 + 2, none⟩) lj).trans HS0.out.2.2.2.2.2.2.2.2.2.2.2.2.1, (HB.out.cell (p := ⟨bj, oj + k2 * 3, none⟩) lj).trans HS0.out.2.2.2.2.2.2.2.2.2.2.2.2.2.1, (HB.out.cell (p := ⟨bj, oj + k2 * 3 + 1, none⟩) lj).trans HS0.out.2.2.2.2.2.2.2.2.2.2.2.2.2.2.1, (HB.out.cell (p := ⟨bj, oj + k2 * 3 + 2, none⟩) lj).trans HS0.out.2.2.2.2.2.2.2.2.2.2.2.2.2.2.2⟩
        clear b0 b1 b2 b3 b4 b5 b6 b7 o1 o2 a0 a1 a2 c0 c1 c2
        go_wp2_with fail
        go_region_held3 (fun W => (W.cell? ⟨w.heap.size, 0, none⟩ = some (.slice Ae1 en1.length ce1)) ∧ (W.cell? ⟨w.heap.size, 1, none⟩ = some (.slice At1 tr1.length ct1)) ∧ (W.cell? ⟨w.heap.size, 2, none⟩ = some (.slice As1 sw1.length cs1)) ∧ (W.cell? ⟨w.heap.size, 3, none⟩ = some (.bool hi1')) ∧ (W.cell? ⟨w.heap.size, 4, none⟩ = some (.slice (some ⟨gk, 0, none⟩) wk1.length ck1)) ∧ (W.cell? ⟨w.heap.size, 5, none⟩ = some (.int .i64 (nx1 : Int))) ∧ (W.cell? ⟨w.heap.size, 6, none⟩ = some (.int .i64 xn)) ∧ (W.cell? ⟨w.heap.size, 7, none⟩ = some (.int .i64 xd)) ∧ (W.cell? ⟨gk, q * 2, none⟩ = some (.int .i64 (k1 : Int))) ∧ (W.cell? ⟨gk, m * 2, none⟩ = some (.int .i64 (k2 : Int))) ∧ (W.cell? ⟨bj, oj + k1 * 3, none⟩ = some (.int .i64 j1.ta)) ∧ (W.cell? ⟨bj, oj + k1 * 3 + 1, none⟩ = some (.int .i64 j1.tm)) ∧ (W.cell? ⟨bj, oj + k1 * 3 + 2, none⟩ = some (.int .i64 j1.ne)) ∧ (W.cell? ⟨bj, oj + k2 * 3, none⟩ = some (.int .i64 j2.ta)) ∧ (W.cell? ⟨bj, oj + k2 * 3 + 1, none⟩ = some (.int .i64 j2.tm)) ∧ (W.cell? ⟨bj, oj + k2 * 3 + 2, none⟩ = some (.int .i64 j2.ne))) (first | exact hS0 | exact hS1)
          ((first
            | (go_at_call 103
               refine (sFirst_is _ A n c ts ((HT2.out.below (by repeat (first | with_reducible exact HB.out | with_reducible refine Below.drew ?_ | with_reducible refine bl_drewN ?_ _ | with_reducible refine bl_alloc ?_ _))).more (Below.size (by repeat (first | with_reducible exact HB.out | with_reducible refine Below.drew ?_ | with_reducible refine bl_drewN ?_ _ | with_reducible refine bl_alloc ?_ _) : Below W2.heap.size W2 _))) HST.out j1 j2 ⟨G1.out.2.2.2.1, G1.out.2.2.2.2.1, G1.out.2.1, G1.out.2.2.1⟩ ⟨G2.out.2.2.2.1, G2.out.2.2.2.2.1, G2.out.2.1, G2.out.2.2.1⟩ _ _ _ _ hi1' nx1 xn xd x0 x1 y0 y1 pol due HP.out r HX.out).mono ?_
               rintro e w5 ⟨rfl, hb⟩
               have HB5 := Lib.hid (bl_trans (by repeat (first | with_reducible exact HB.out | with_reducible refine Below.drew ?_ | with_reducible refine bl_drewN ?_ _ | with_reducible refine bl_alloc ?_ _) : Below W2.heap.size W2 _) hb)
               have hS1 : (w5.cell? ⟨w.heap.size, 0, none⟩ = some (.slice Ae1 en1.length ce1)) ∧ (w5.cell? ⟨w.heap.size, 1, none⟩ = some (.slice At1 tr1.length ct1)) ∧ (w5.cell? ⟨w.heap.size, 2, none⟩ = some (.slice As1 sw1.length cs1)) ∧ (w5.cell? ⟨w.heap.size, 3, none⟩ = some (.bool hi1')) ∧ (w5.cell? ⟨w.heap.size, 4, none⟩ = some (.slice (some ⟨gk, 0, none⟩) wk1.length ck1)) ∧ (w5.cell? ⟨w.heap.size, 5, none⟩ = some (.int .i64 (nx1 : Int))) ∧ (w5.cell? ⟨w.heap.size, 6, none⟩ = some (.int .i64 xn)) ∧ (w5.cell? ⟨w.heap.size, 7, none⟩ = some (.int .i64 xd)) ∧ (w5.cell? ⟨gk, q * 2, none⟩ = some (.int .i64 (k1 : Int))) ∧ (w5.cell? ⟨gk, m * 2, none⟩ = some (.int .i64 (k2 : Int))) ∧ (w5.cell? ⟨bj, oj + k1 * 3, none⟩ = some (.int .i64 j1.ta)) ∧ (w5.cell? ⟨bj, oj + k1 * 3 + 1, none⟩ = some (.int .i64 j1.tm)) ∧ (w5.cell? ⟨bj, oj + k1 * 3 + 2, none⟩ = some (.int .i64 j1.ne)) ∧ (w5.cell? ⟨bj, oj + k2 * 3, none⟩ = some (.int .i64 j2.ta)) ∧ (w5.cell? ⟨bj, oj + k2 * 3 + 1, none⟩ = some (.int .i64 j2.tm)) ∧ (w5.cell? ⟨bj, oj + k2 * 3 + 2, none⟩ = some (.int .i64 j2.ne)) := ⟨(HB5.out.cell (p := ⟨w.heap.size, 0, none⟩) lw).trans HS0.out.1, (HB5.out.cell (p := ⟨w.heap.size, 1, none⟩) lw).trans HS0.out.2.1, (HB5.out.cell (p := ⟨w.heap.size, 2, none⟩) lw).trans HS0.out.2.2.1, (HB5.out.cell (p := ⟨w.heap.size, 3, none⟩) lw).trans HS0.out.2.2.2.1, (HB5.out.cell (p := ⟨w.heap.size, 4, none⟩) lw).trans HS0.out.2.2.2.2.1, (HB5.out.cell (p := ⟨w.heap.size, 5, none⟩) lw).trans HS0.out.2.2.2.2.2.1, (HB5.out.cell (p := ⟨w.heap.size, 6, none⟩) lw).trans HS0.out.2.2.2.2.2.2.1, (HB5.out.cell (p := ⟨w.heap.size, 7, none⟩) lw).trans HS0.out.2.2.2.2.2.2.2.1, (HB5.out.cell (p := ⟨gk, q * 2, none⟩) lg).trans HS0.out.2.2.2.2.2.2.2.2.1, (HB5.out.cell (p := ⟨gk, m * 2, none⟩) lg).trans HS0.out.2.2.2.2.2.2.2.2.2.1, (HB5.out.cell (p := ⟨bj, oj + k1 * 3, none⟩) lj).trans HS0.out.2.2.2.2.2.2.2.2.2.2.1, (HB5.out.cell (p := ⟨bj, oj + k1 * 3 + 1, none⟩) lj).trans HS0.out.2.2.2.2.2.2.2.2.2.2.2.1, (HB5.out.cell (p := ⟨bj, oj + k1 * 3 + 2, none⟩) lj).trans HS0.out.2.2.2.2.2.2.2.2.2.2.2.2.1, (HB5.out.cell (p := ⟨bj, oj + k2 * 3, none⟩) lj).trans HS0.out.2.2.2.2.2.2.2.2.2.2.2.2.2.1, (HB5.out.cell (p := ⟨bj, oj + k2 * 3 + 1, none⟩) lj).trans HS0.out.2.2.2.2.2.2.2.2.2.2.2.2.2.2.1, (HB5.out.cell (p := ⟨bj, oj + k2 * 3 + 2, none⟩) lj).trans HS0.out.2.2.2.2.2.2.2.2.2.2.2.2.2.2.2⟩
               clear hb)))
        clear hS0
        cases r
        · go_wp2
          go_roundw
          case rel => exact ⟨q + 1, by omega, by omega, by go_num, by rw [show q + 1 - 1 = q by omega, HBST.out]; rfl, HB5⟩
          case measure => simp [intOf]; omega
        · go_wp2
          go_roundw
          case rel => exact ⟨q + 1, by omega, by omega, by go_num, by rw [show q + 1 - 1 = q by omega, HBST.out]; rfl, HB5⟩
          case measure => simp [intOf]; omega
      · obtain ⟨b0, b1, b2, b3, b4, b5, b6, b7⟩ := Blk.eight HBx.out
        have f0 := HBx.out.frozen
        have q1 : ¬ (q : Int) < (wk1.length : Int) := by omega
        obtain rfl : q = wk1.length := by omega
        have hm0 : bestTo (ltM ts js ⟨due, xn, xd⟩ hi1') (wk1.map Prod.fst) (wk1.length - 1) = bestM ts js ⟨due, xn, xd⟩ ⟨en1, tr1, sw1, hi1', wk1, nx1⟩ := rfl
        obtain ⟨m, hm⟩ : ∃ m, bestTo (ltM ts js ⟨due, xn, xd⟩ hi1') (wk1.map Prod.fst) (wk1.length - 1) = m := ⟨_, rfl⟩
        have hml : m ≤ wk1.length - 1 := hm ▸ best_le _ _ _
        rw [hm]
        rw [hm] at hm0
        obtain ⟨x, hx⟩ : ∃ x, wk1[m]? = some x := ⟨wk1[m]'(by omega), List.getElem?_eq_getElem _⟩
        obtain ⟨k, d⟩ := x
        have hk : k < js.length := HWK.out _ (List.mem_of_getElem? hx)
        have hd := (HI1.out.wk _ (List.mem_of_getElem? hx)).2.2
        have hpos := HI1.out.pos k
        obtain ⟨j, hj⟩ : ∃ j, js[k]? = some j := ⟨js[k], List.getElem?_eq_getElem _⟩
        have ejob := job_of hj
        have hjo := job_ok HV.out hk
        have htk := tk_nums hjo.2.2.2.2.2.2.2
        have HTF := Lib.hid (tick_full (p := ⟨due, xn, xd⟩) (b := m) HS1.out hm0.symm hx)
        have etk : tkJ ts js k = tkOf ts (jobOf js k).ta := rfl
        obtain ⟨_, a0, a1, a2⟩ := Jbs.get (HJ2.out.below HB.out) hj
        rw [ejob] at hjo hd etk
        obtain ⟨ta, tm, ne⟩ := j
        dsimp only at a0 a1 a2 hjo hd etk
        have d0 : 0 ≤ d := by omega
        have d1 : d ≤ 1000 := by omega
        obtain ⟨p, rfl⟩ := Int.eq_ofNat_of_zero_le hjo.2.2.2.1
        have hpl : p < ts.length := by have := hjo.2.2.2.2.1; omega
        obtain ⟨t, ht⟩ : ∃ t, ts[p]? = some t := ⟨ts[p], List.getElem?_eq_getElem _⟩
        rw [tkOf_get ht] at etk
        have q5 : (p : Int) < (n : Int) := by have := HT2.out.len; omega
        have q6 : (0 : Int) ≤ (p : Int) := by omega
        have q7 : (k : Int) < (nj : Int) := by have := HLJ.out; omega
        have q8 : (0 : Int) ≤ (k : Int) := by omega
        have m1 : (m : Int) < (wk1.length : Int) := by omega
        have m0 : (0 : Int) ≤ (m : Int) := by omega
        have HX := Lib.hid hx
        have HEK := Lib.hid etk
        have HTT := Lib.hid ht
        have HEJ := Lib.hid ejob
        have HKK := Lib.hid hk
        have HSr := Lib.hid (HSf.out.bel HB.out)
        have HKr := Lib.hid (HKf.out.bel HB.out)
        have HRr := Lib.hid (HRf.out.below HB.out HRf.out.lt)
        obtain ⟨k0, k1⟩ := OwnW.at_ HSr.out.k hx
        dsimp only at k0 k1
        clear hm hm0 hx hj ejob hjo htk etk ht hd hpos hpl hk
        obtain ⟨Wj, hWj⟩ : ∃ Wj, wr.alloc (.cells #[.int .i64 (p : Int), .int .i64 tm, .int .i64 ne] 46) = Wj := ⟨_, rfl⟩
        have HJb : Hid (Blk Wj wr.heap.size 46 #[.int .i64 (p : Int), .int .i64 tm, .int .i64 ne]) := Lib.hid (hWj ▸ Blk.new wr _ _)
        have hsj : Wj.heap.size = wr.heap.size + 1 := by rw [← hWj]; simp
        have HSJ := Lib.hid hsj
        have hBws : w.heap.size + 2 ≤ wr.heap.size := by omega
        have HBj : Hid (Blk Wj w.heap.size 92 #[.slice Ae1 en1.length ce1, .slice At1 tr1.length ct1, .slice As1 sw1.length cs1, .bool hi1', .slice (some ⟨gk, 0, none⟩) wk1.length ck1, .int .i64 (nx1 : Int), .int .i64 xn, .int .i64 xd]) := Lib.hid (hWj ▸ HBx.out.alloc _)
        have HRj : Hid (Blk Wj (w.heap.size + 1) 92 #[.slice none 0 0, .slice none 0 0, .slice none 0 0, .bool false, .slice none 0 0, .int .i64 0, .int .i64 0, .int .i64 0]) := Lib.hid (hWj ▸ HRr.out.alloc _)
        have HSj : Hid (StM Wj B (.slice Ae1 en1.length ce1) (.slice At1 tr1.length ct1) (.slice As1 sw1.length cs1) (.slice (some ⟨gk, 0, none⟩) wk1.length ck1) ⟨en1, tr1, sw1, hi1', wk1, nx1⟩) := Lib.hid (hWj ▸ HSr.out.alloc _)
        have HKj : Hid (Kp w Wj R) := Lib.hid (hWj ▸ HKr.out.alloc _)
        have HTj : Hid (OwnZ Wj B (.slice At1 tr1.length ct1) tr1) := Lib.hid HSj.out.t
        have HNTj : Hid (∀ x, (Value.slice At1 tr1.length ct1).ownBlock = some x → x ≠ w.heap.size ∧ x ≠ w.heap.size + 1 ∧ x ≠ wr.heap.size ∧ x ≠ gk) := Lib.hid (fun x e => ⟨fun e2 => HNT.out (e2 ▸ e), fun e2 => HNTr.out (e2 ▸ e), fun e2 => by have := (World.ownsRow.lt HSr.out.t x e).2; omega, fun e2 => HSj.out.tk x e (e2 ▸ rfl)⟩)
        have HGN : Hid (gk ≠ w.heap.size ∧ gk ≠ w.heap.size + 1 ∧ gk ≠ wr.heap.size) := Lib.hid ⟨fun e => HNB1.out (e ▸ .inr (.inr (.inr rfl))), fun e => HNR1.out (e ▸ .inr (.inr (.inr rfl))), fun e => by have := (World.ownsRow.lt HSr.out.k gk rfl).2; omega⟩
        obtain ⟨jb0, jb1, jb2⟩ := HJb.out.tri
        have bj1 := HBj.out.cell 1
        clear hsj
        go_upto_if 104 with (at_builtin; refine wpList_append_lies _ rfl (.tmp 81) (.tmp 84) 27 rfl B 3 i1 _ 1 8 Tryz.underlying27 hi1 hy0 hy1 hy2 rfl (by decide) (.slice At1 tr1.length ct1) tr1.length (tr1.map (Value.int .i64)) rfl (World.ownsRow.alloc HTj.out _) _ 1 1 [Value.int .i64 (p : Int)] rfl rfl (cell_new1_at _ _ _ _ (by first | rfl | exact HSJ.out.symm)) (by intro u hu; rw [List.mem_singleton.1 hu]; rfl) (by omega) (by unfold maxLen; omega) (by omega) (by have := HSJ.out; simp; omega) _ rfl ?_; intro g3 cap3 w3 hown3 hgrow3 hat3 hlt3; have HO3 := Lib.hid (OwnZ.snoc hown3); have HG3 := Lib.hid hgrow3; have HAT3 : Hid (∀ k, (Value.slice (some ⟨g3, 0, none⟩) (tr1.length + 1) cap3).ownBlock = some k → (Value.slice At1 tr1.length ct1).ownBlock = some k ∨ Wj.heap.size < k) := Lib.hid (fun k e => by have e2 : g3 = k := Option.some.inj e; subst e2; rcases hat3 with h | h; exact .inl h; right; simp at h; omega); have HB3 := Lib.hid ((HBj.out.alloc _).grown HG3.out (fun e => (HNTj.out _ e.symm).1 rfl)); have HR3 := Lib.hid ((HRj.out.alloc _).grown HG3.out (fun e => (HNTj.out _ e.symm).2.1 rfl)); have HJ3 := Lib.hid ((HJb.out.alloc _).grown HG3.out (fun e => (HNTj.out _ e.symm).2.2.1 rfl)); have y1 := HB3.out.cell 1; have fy := HB3.out.frozen; have HB4 := Lib.hid (HB3.out.set_ 1 (.slice (some ⟨g3, 0, none⟩) (tr1.length + 1) cap3)); have HR4 := Lib.hid (HR3.out.far (p := ⟨w.heap.size, 1, none⟩) (by dsimp only; omega) (.slice (some ⟨g3, 0, none⟩) (tr1.length + 1) cap3)); have HJ4 := Lib.hid (HJ3.out.far (p := ⟨w.heap.size, 1, none⟩) (by dsimp only; omega) (.slice (some ⟨g3, 0, none⟩) (tr1.length + 1) cap3)); have HS3 := Lib.hid ((HSj.out.alloc _).putT HG3.out HO3.out (fun k e => (HAT3.out k e).imp id (fun e => by simp; omega))); have HU4 := Lib.hid (RowS.subT (v' := .slice (some ⟨g3, 0, none⟩) (tr1.length + 1) cap3) HU1.out (fun k e => (HAT3.out k e).imp id (fun e => by have := HSJ.out; omega))); have HNB4 : Hid (¬ RowS (.slice Ae1 en1.length ce1) (.slice (some ⟨g3, 0, none⟩) (tr1.length + 1) cap3) (.slice As1 sw1.length cs1) (.slice (some ⟨gk, 0, none⟩) wk1.length ck1) w.heap.size) := Lib.hid (fun e => by rcases HU4.out _ e with e2 | e2; have := (HRB.out _ e2).2; omega; omega); have HS4 := Lib.hid (HS3.out.setb (a := ⟨w.heap.size, 1, none⟩) HNB4.out (.slice (some ⟨g3, 0, none⟩) (tr1.length + 1) cap3)); have HK4 := Lib.hid (((HKj.out.alloc _).grown HG3.out (fun x e => (HU1.out x (.inr (.inl e))).imp id (fun e => by omega))).set (a := ⟨w.heap.size, 1, none⟩) (.inr (Nat.le_refl _)) (.slice (some ⟨g3, 0, none⟩) (tr1.length + 1) cap3)); obtain ⟨W4, hW4⟩ : ∃ W4, w3.setCell ⟨w.heap.size, 1, none⟩ (.slice (some ⟨g3, 0, none⟩) (tr1.length + 1) cap3) = W4 := ⟨_, rfl⟩; rw [hW4] at HB4 HR4 HJ4 HS4 HK4; obtain ⟨b0, b1, b2, b3, b4, b5, b6, b7⟩ := Blk.eight HB4.out; have f4 := HB4.out.frozen; have hk4 := OwnW.at_ HS4.out.k HX.out; obtain ⟨k0, k1⟩ := hk4; have fk := OwnW.frozen HS4.out.k; have HJ5 := Lib.hid (HJ4.out.far (p := ⟨gk, m * 2 + 1, none⟩) (fun e => HGN.out.2.2 e.symm) (.int .i64 (d + 1))); have HB5 := Lib.hid (HB4.out.far (p := ⟨gk, m * 2 + 1, none⟩) (fun e => HGN.out.1 e.symm) (.int .i64 (d + 1))); have HR5 := Lib.hid (HR4.out.far (p := ⟨gk, m * 2 + 1, none⟩) (fun e => HGN.out.2.1 e.symm) (.int .i64 (d + 1))); have HW5 := Lib.hid (OwnW.put HS4.out.k HX.out (d + 1)); obtain ⟨W5, hW5⟩ : ∃ W5, W4.setCell ⟨gk, m * 2 + 1, none⟩ (.int .i64 (d + 1)) = W5 := ⟨_, rfl⟩; rw [hW5] at HJ5 HB5 HR5 HW5; obtain ⟨jb0, jb1, jb2⟩ := HJ5.out.tri; dsimp only at k0 k1; clear hown3 hgrow3 hat3)
        have HNR4 : Hid (¬ RowS (.slice Ae1 en1.length ce1) (.slice (some ⟨g3, 0, none⟩) (tr1.length + 1) cap3) (.slice As1 sw1.length cs1) (.slice (some ⟨gk, 0, none⟩) wk1.length ck1) (w.heap.size + 1)) := Lib.hid (fun e => by rcases HU4.out _ e with e2 | e2; have := (HRB.out _ e2).2; omega; omega)
        have HS5 : Hid (StM W5 B (.slice Ae1 en1.length ce1) (.slice (some ⟨g3, 0, none⟩) (tr1.length + 1) cap3) (.slice As1 sw1.length cs1) (.slice (some ⟨gk, 0, none⟩) wk1.length ck1) ⟨en1, tr1 ++ [(p : Int)], sw1, hi1', wk1.set m (k, d + 1), nx1⟩) := Lib.hid (HS4.out.putK (row := some gk) (hW5 ▸ gb_set1 _ _ _ _) (fun x e => by injection e with e; subst e; exact HS4.out.rowK gk rfl) HW5.out (fun k e => .inl e))
        have HK5 : Hid (Kp w W5 R) := Lib.hid (hW5 ▸ HK4.out.set (a := ⟨gk, m * 2 + 1, none⟩) ((HU4.out gk (.inr (.inr (.inr rfl)))).imp id (fun e => by dsimp only; omega)) _)
        clear b0 b1 b2 b3 b4 b5 b6 b7 f4 k0 k1 fk a0 a1 a2 y1 fy bj1 hWj hW4 hW5
        by_cases he : d + 1 = ne
        · have t1 : (d + 1 == ne) = true := by simpa using he
          rw [t1]
          have HEND : Hid ((⟨en1.set k (now + 1), tr1 ++ [(p : Int)], sw1, hi1', wk1.eraseIdx m, nx1⟩ : Mc) = sF) := Lib.hid (by rw [← HF.out, HTF.out]; unfold closeM; rw [HEJ.out, if_pos he])
          clear t1 he
          have hel : en1.length = js.length := HI1.out.enl
          have hkl := HKK.out
          obtain ⟨ge, cex, hge, _, _⟩ := World.ownsRow.form HS5.out.e (show 0 < en1.length by omega)
          injection hge with hge1 hge2 hge3
          subst hge1 hge3
          have ec := OwnZ.celld HS5.out.e (show k < en1.length by omega)
          have fe := OwnZ.frozen HS5.out.e k
          have q4 : (k : Int) < (en1.length : Int) := by omega
          have hgR : RowS (.slice (some ⟨ge, 0, none⟩) en1.length ce1) (.slice (some ⟨g3, 0, none⟩) (tr1.length + 1) cap3) (.slice As1 sw1.length cs1) (.slice (some ⟨gk, 0, none⟩) wk1.length ck1) ge := .inl rfl
          have hgb : ge ≠ w.heap.size := fun e => HNB4.out (e ▸ hgR)
          have hgr : ge ≠ w.heap.size + 1 := fun e => HNR4.out (e ▸ hgR)
          have HS6 := Lib.hid (HS5.out.putE (w' := W5.setCell ⟨ge, k, none⟩ (.int .i64 (now + 1))) (gb_set1 _ _ _ _) (OwnZ.put HS5.out.e k (now + 1)) (fun k e => .inl e))
          have HK6 := Lib.hid (HK5.out.set (a := ⟨ge, k, none⟩) ((HU4.out ge hgR).imp id (fun e => by dsimp only; omega)) (.int .i64 (now + 1)))
          have HB6 := Lib.hid (HB5.out.far (p := ⟨ge, k, none⟩) (fun e => hgb e.symm) (.int .i64 (now + 1)))
          have HR6 := Lib.hid (HR5.out.far (p := ⟨ge, k, none⟩) (fun e => hgr e.symm) (.int .i64 (now + 1)))
          obtain ⟨W6, hW6⟩ : ∃ W6, W5.setCell ⟨ge, k, none⟩ (.int .i64 (now + 1)) = W6 := ⟨_, rfl⟩
          rw [hW6] at HS6 HK6 HB6 HR6
          have HW6 : Hid (OwnW W6 B (.slice (some ⟨gk, 0, none⟩) wk1.length ck1) (wk1.set m (k, d + 1))) := Lib.hid HS6.out.k
          have HG6 : Hid (gk < W6.heap.size) := Lib.hid (World.ownsRow.lt HW6.out gk rfl).2
          have HNB6 := HNB4
          have HNR6 := HNR4
          have HBs6 : Hid (w.heap.size + 2 ≤ W6.heap.size) := Lib.hid (by have := HR6.out.lt; omega)
          have hbs6 := HBs6.out
          obtain ⟨c0, c1, c2, c3, c4, c5, c6, c7⟩ := Blk.eight HB5.out
          obtain ⟨b0, b1, b2, b3, b4, b5, b6, b7⟩ := Blk.eight HB6.out
          have hcl := HW6.out.le
          rw [List.length_set] at hcl
          have i1x : (m : Int) ≤ (ck1 : Int) := by omega
          have i2x : (m : Int) + 1 ≤ (wk1.length : Int) := by omega
          have i3x : (m : Int) + 1 ≤ (ck1 : Int) := by omega
          have i4x : (wk1.length : Int) ≤ (ck1 : Int) := by omega
          have i5x : (0 : Int) ≤ (m : Int) + 1 := by omega
          have kwx : IntKind.i64.wrap ((m : Int) + 1) = (m : Int) + 1 := IntWalk.i64_in _ (by omega)
          have knx : ((m : Int) + 1).toNat = m + 1 := by omega
          clear hel hkl hge2 hgR hcl
          by_cases hkc : m + 1 = ck1
          · subst hkc
            have wlx : wk1.length = m + 1 := by omega
            clear i1x i2x i3x i4x
            have i1x : (m : Int) ≤ (m : Int) + 1 := by omega
            have i2x : ((wk1.length : Nat) : Int) = (m : Int) + 1 := by omega
            have ba4 := (HB6.out.alloc (.cells #[] 136)).cell 4
            go_wp2
            go_region_law (first | (refine step_append_ownM rfl (.tmp 112) (.tmp 116) 90 rfl W6.heap.size 136 i0 _ 2 16 Tryz.underlying90 hi0 hz0 hz1 hz2 rfl (by decide) _ 0 [] rfl (OwnW.empty _) ⟨gk, 0, none⟩ m (m + 1) (((wk1.set m (k, d + 1)).take m).flatMap wkC) rfl (by rw [wkC_len, List.length_take, List.length_set]; rw [Nat.min_eq_left (by omega)]) (OwnW.newsTake HW6.out (fun i => (by repeat (first | with_reducible exact Below.refl W6.heap.size W6 | with_reducible refine Below.drew ?_ | with_reducible refine bl_drewN ?_ _ | with_reducible refine bl_alloc ?_ _) : Below W6.heap.size W6 _).cell (p := ⟨gk, i, none⟩) HG6.out) m) (wkC_one _) (by unfold maxLen; omega) (by omega) (by simp) ?_; intro v1 w7 hown1 hgrow1 _; have HOA := Lib.hid (show OwnW w7 W6.heap.size v1 ((wk1.set m (k, d + 1)).take m) from by unfold OwnW; rw [List.length_take, List.length_set, Nat.min_eq_left (by omega)]; simpa using hown1); have HBA := Lib.hid (show Below W6.heap.size W6 w7 from (by repeat (first | with_reducible exact Below.refl W6.heap.size W6 | with_reducible refine Below.drew ?_ | with_reducible refine bl_drewN ?_ _ | with_reducible refine bl_alloc ?_ _) : Below W6.heap.size W6 _).grown hgrow1 (by simp) (fun q e => Nat.le_of_eq (Option.some.inj e))); have HSA := HBA.out.size; have HB7 := Lib.hid (HB6.out.below HBA.out HB6.out.lt); obtain ⟨b0, b1, b2, b3, b4, b5, b6, b7⟩ := Blk.eight HB7.out; clear hown1 hgrow1) | (refine step_append_ownM rfl (.tmp 117) (.tmp 122) 90 rfl W6.heap.size 136 i0 _ 2 16 Tryz.underlying90 hi0 hz0 hz1 hz2 rfl (by decide) v1 ((wk1.set m (k, d + 1)).take m).length (((wk1.set m (k, d + 1)).take m).flatMap wkC) rfl HOA.out ⟨gk, 0, none⟩ 0 0 ([]) rfl rfl (fun j u hu => by simp at hu) (fun u hu => by simp at hu) (by unfold maxLen; rw [List.length_take, List.length_set]; omega) (by rw [List.length_take, List.length_set]; omega) HSA ?_; intro v2 w8 hown2 hgrow2 _; have HBB := Lib.hid (show Below W6.heap.size W6 w8 from HBA.out.grown hgrow2 HSA (fun q e => (World.ownsRow.lt HOA.out q e).1)); have HOB := Lib.hid (show OwnW w8 W6.heap.size v2 ((wk1.set m (k, d + 1)).take m) from by unfold OwnW; simpa using hown2); have HB8 := Lib.hid (HB6.out.below HBB.out HB6.out.lt); have HR8 := Lib.hid (HR6.out.below HBB.out HR6.out.lt); have yb := HB8.out.cell 4; have fy := HB8.out.frozen; have HB9 := Lib.hid (HB8.out.set_ 4 v2); have HR9 := Lib.hid (HR8.out.far (p := ⟨w.heap.size, 4, none⟩) (by dsimp only; omega) v2); have HO9 : Hid (OwnW (w8.setCell ⟨w.heap.size, 4, none⟩ v2) W6.heap.size v2 ((wk1.set m (k, d + 1)).take m)) := Lib.hid (ownsRow_kp HOB.out (S := fun x => x = w.heap.size) ((Kp.refl w8 (fun x => x = w.heap.size)).set (a := ⟨w.heap.size, 4, none⟩) (.inl rfl) _) (fun x e e2 => by have := (World.ownsRow.lt HOB.out x e).1; have := HBs6.out; omega)); have HS9 := Lib.hid ((HS6.out.bel HBB.out).setb (a := ⟨w.heap.size, 4, none⟩) HNB6.out v2); have HK9 := Lib.hid ((HK6.out.bel HBB.out).set (a := ⟨w.heap.size, 4, none⟩) (.inr (Nat.le_refl _)) v2); obtain ⟨w9, hw9⟩ : ∃ w9, w8.setCell ⟨w.heap.size, 4, none⟩ v2 = w9 := ⟨_, rfl⟩; rw [hw9] at HB9 HR9 HO9 HS9 HK9; obtain ⟨A9, c9, hv9⟩ := HOB.out.form; obtain ⟨L9, hL9⟩ : ∃ L9, ((wk1.set m (k, d + 1)).take m).length = L9 := ⟨_, rfl⟩; rw [hL9] at hv9; subst hv9; have HL9 := Lib.hid hL9; clear hL9; obtain ⟨b0, b1, b2, b3, b4, b5, b6, b7⟩ := Blk.eight HB9.out; have f9 := HB9.out.frozen; obtain ⟨r0, r1, r2, r3, r4, r5, r6, r7⟩ := Blk.eight HR9.out; have fr := HR9.out.frozen; clear hown2 hgrow2))
            all_goals
              go_wp2
              have hZ := HR9.out.fill8 (v0 := .slice (some ⟨ge, 0, none⟩) en1.length ce1) (v1 := .slice (some ⟨g3, 0, none⟩) (tr1.length + 1) cap3) (v2 := .slice As1 sw1.length cs1) (v3 := .bool hi1') (v4 := .slice A9 L9 c9) (v5 := .int .i64 (nx1 : Int)) (v6 := .int .i64 xn) (v7 := .int .i64 xd)
              unfold Go.Proofs.YtgponahmkjohiabGreatDoor.fill8 at hZ
              obtain ⟨z0, z1, z2, z3, z4, z5, z6, z7⟩ := Blk.eight hZ
              clear hZ
              have hat9 : ∀ x, (Value.slice A9 L9 c9).ownBlock = some x → W6.heap.size ≤ x := fun x e => (World.ownsRow.lt HOB.out x e).1
              have HSN := Lib.hid (HS9.out.newK (OwnW.less HO9.out (by have := HBs6.out; omega)) (fun x e1 e2 => by have := hat9 x e2; have := (HS6.out.lt x (.inl e1)).2; omega) (fun x e1 e2 => by have := hat9 x e2; have := (HS6.out.lt x (.inr (.inl e1))).2; omega) (fun x e1 e2 => by have := hat9 x e2; have := (HS6.out.lt x (.inr (.inr (.inl e1)))).2; omega))
              have HUN : Hid (∀ x, RowS (.slice (some ⟨ge, 0, none⟩) en1.length ce1) (.slice (some ⟨g3, 0, none⟩) (tr1.length + 1) cap3) (.slice As1 sw1.length cs1) (.slice A9 L9 c9) x → R x ∨ w.heap.size + 2 ≤ x) := Lib.hid (RowS.subK HU4.out (fun x e => .inr (by have := hat9 x e; have := HBs6.out; omega)))
              have ewk : ((wk1.set m (k, d + 1)).take m : List (Nat × Int)) = wk1.eraseIdx m := by rw [← set_takeM wk1 m (k, d + 1), List.drop_eq_nil_of_le (by rw [List.length_set]; omega), List.append_nil]
              refine bodyPost_ret (v := .agg #[.slice (some ⟨ge, 0, none⟩) en1.length ce1, .slice (some ⟨g3, 0, none⟩) (tr1.length + 1) cap3, .slice As1 sw1.length cs1, .bool hi1', .slice A9 L9 c9, .int .i64 (nx1 : Int), .int .i64 xn, .int .i64 xd]) (by simp [results, Tryz.results51, go_sem, z0, z1, z2, z3, z4, z5, z6, z7]) rfl ?_
              rw [HRR.out, ← HEND.out, ← ewk]
              exact ⟨_, _, _, _, rfl, HSN.out.fill8 (fun e => by rcases HUN.out _ e with e2 | e2; have := (HRB.out _ e2).2; omega; omega), ⟨HK9.out.fill8 (.inr (by omega)), fun x h => (HUN.out x h).imp id (fun e => by omega)⟩⟩
          · have j1x : ((m : Int) + 1 == (ck1 : Int)) = false := by rw [beq_eq_false_iff_ne]; omega
            have j2x : ¬ (m : Int) + 1 = (ck1 : Int) := by omega
            have j4x : ¬ ck1 = m + 1 := by omega
            have ba4 := (HB6.out.alloc (.cells #[] 136)).cell 4
            go_wp2
            go_region_law (first | (refine step_append_ownM rfl (.tmp 112) (.tmp 116) 90 rfl W6.heap.size 136 i0 _ 2 16 Tryz.underlying90 hi0 hz0 hz1 hz2 rfl (by decide) _ 0 [] rfl (OwnW.empty _) ⟨gk, 0, none⟩ m ck1 (((wk1.set m (k, d + 1)).take m).flatMap wkC) rfl (by rw [wkC_len, List.length_take, List.length_set]; rw [Nat.min_eq_left (by omega)]) (OwnW.newsTake HW6.out (fun i => (by repeat (first | with_reducible exact Below.refl W6.heap.size W6 | with_reducible refine Below.drew ?_ | with_reducible refine bl_drewN ?_ _ | with_reducible refine bl_alloc ?_ _) : Below W6.heap.size W6 _).cell (p := ⟨gk, i, none⟩) HG6.out) m) (wkC_one _) (by unfold maxLen; omega) (by omega) (by simp) ?_; intro v1 w7 hown1 hgrow1 _; have HOA := Lib.hid (show OwnW w7 W6.heap.size v1 ((wk1.set m (k, d + 1)).take m) from by unfold OwnW; rw [List.length_take, List.length_set, Nat.min_eq_left (by omega)]; simpa using hown1); have HBA := Lib.hid (show Below W6.heap.size W6 w7 from (by repeat (first | with_reducible exact Below.refl W6.heap.size W6 | with_reducible refine Below.drew ?_ | with_reducible refine bl_drewN ?_ _ | with_reducible refine bl_alloc ?_ _) : Below W6.heap.size W6 _).grown hgrow1 (by simp) (fun q e => Nat.le_of_eq (Option.some.inj e))); have HSA := HBA.out.size; have HB7 := Lib.hid (HB6.out.below HBA.out HB6.out.lt); obtain ⟨b0, b1, b2, b3, b4, b5, b6, b7⟩ := Blk.eight HB7.out; clear hown1 hgrow1) | (refine step_append_ownM rfl (.tmp 117) (.tmp 122) 90 rfl W6.heap.size 136 i0 _ 2 16 Tryz.underlying90 hi0 hz0 hz1 hz2 rfl (by decide) v1 ((wk1.set m (k, d + 1)).take m).length (((wk1.set m (k, d + 1)).take m).flatMap wkC) rfl HOA.out ⟨gk, (m + 1) * 2, none⟩ (wk1.length - (m + 1)) (ck1 - (m + 1)) (((wk1.set m (k, d + 1)).drop (m + 1)).flatMap wkC) rfl (by rw [wkC_len, List.length_drop, List.length_set]) (OwnW.newsDrop HW6.out (fun i => HBA.out.cell (p := ⟨gk, i, none⟩) HG6.out) (m + 1) (by rw [List.length_set]; omega)) (wkC_one _) (by unfold maxLen; rw [List.length_take, List.length_set]; omega) (by rw [List.length_take, List.length_set]; omega) HSA ?_; intro v2 w8 hown2 hgrow2 _; have HBB := Lib.hid (show Below W6.heap.size W6 w8 from HBA.out.grown hgrow2 HSA (fun q e => (World.ownsRow.lt HOA.out q e).1)); have HOB := Lib.hid (show OwnW w8 W6.heap.size v2 ((wk1.set m (k, d + 1)).take m ++ (wk1.set m (k, d + 1)).drop (m + 1)) from by unfold OwnW; rw [List.length_append, List.length_drop, List.length_set, List.flatMap_append]; exact hown2); have HB8 := Lib.hid (HB6.out.below HBB.out HB6.out.lt); have HR8 := Lib.hid (HR6.out.below HBB.out HR6.out.lt); have yb := HB8.out.cell 4; have fy := HB8.out.frozen; have HB9 := Lib.hid (HB8.out.set_ 4 v2); have HR9 := Lib.hid (HR8.out.far (p := ⟨w.heap.size, 4, none⟩) (by dsimp only; omega) v2); have HO9 : Hid (OwnW (w8.setCell ⟨w.heap.size, 4, none⟩ v2) W6.heap.size v2 ((wk1.set m (k, d + 1)).take m ++ (wk1.set m (k, d + 1)).drop (m + 1))) := Lib.hid (ownsRow_kp HOB.out (S := fun x => x = w.heap.size) ((Kp.refl w8 (fun x => x = w.heap.size)).set (a := ⟨w.heap.size, 4, none⟩) (.inl rfl) _) (fun x e e2 => by have := (World.ownsRow.lt HOB.out x e).1; have := HBs6.out; omega)); have HS9 := Lib.hid ((HS6.out.bel HBB.out).setb (a := ⟨w.heap.size, 4, none⟩) HNB6.out v2); have HK9 := Lib.hid ((HK6.out.bel HBB.out).set (a := ⟨w.heap.size, 4, none⟩) (.inr (Nat.le_refl _)) v2); obtain ⟨w9, hw9⟩ : ∃ w9, w8.setCell ⟨w.heap.size, 4, none⟩ v2 = w9 := ⟨_, rfl⟩; rw [hw9] at HB9 HR9 HO9 HS9 HK9; obtain ⟨A9, c9, hv9⟩ := HOB.out.form; obtain ⟨L9, hL9⟩ : ∃ L9, ((wk1.set m (k, d + 1)).take m ++ (wk1.set m (k, d + 1)).drop (m + 1)).length = L9 := ⟨_, rfl⟩; rw [hL9] at hv9; subst hv9; have HL9 := Lib.hid hL9; clear hL9; obtain ⟨b0, b1, b2, b3, b4, b5, b6, b7⟩ := Blk.eight HB9.out; have f9 := HB9.out.frozen; obtain ⟨r0, r1, r2, r3, r4, r5, r6, r7⟩ := Blk.eight HR9.out; have fr := HR9.out.frozen; clear hown2 hgrow2))
            all_goals
              go_wp2
              have hZ := HR9.out.fill8 (v0 := .slice (some ⟨ge, 0, none⟩) en1.length ce1) (v1 := .slice (some ⟨g3, 0, none⟩) (tr1.length + 1) cap3) (v2 := .slice As1 sw1.length cs1) (v3 := .bool hi1') (v4 := .slice A9 L9 c9) (v5 := .int .i64 (nx1 : Int)) (v6 := .int .i64 xn) (v7 := .int .i64 xd)
              unfold Go.Proofs.YtgponahmkjohiabGreatDoor.fill8 at hZ
              obtain ⟨z0, z1, z2, z3, z4, z5, z6, z7⟩ := Blk.eight hZ
              clear hZ
              have hat9 : ∀ x, (Value.slice A9 L9 c9).ownBlock = some x → W6.heap.size ≤ x := fun x e => (World.ownsRow.lt HOB.out x e).1
              have HSN := Lib.hid (HS9.out.newK (OwnW.less HO9.out (by have := HBs6.out; omega)) (fun x e1 e2 => by have := hat9 x e2; have := (HS6.out.lt x (.inl e1)).2; omega) (fun x e1 e2 => by have := hat9 x e2; have := (HS6.out.lt x (.inr (.inl e1))).2; omega) (fun x e1 e2 => by have := hat9 x e2; have := (HS6.out.lt x (.inr (.inr (.inl e1)))).2; omega))
              have HUN : Hid (∀ x, RowS (.slice (some ⟨ge, 0, none⟩) en1.length ce1) (.slice (some ⟨g3, 0, none⟩) (tr1.length + 1) cap3) (.slice As1 sw1.length cs1) (.slice A9 L9 c9) x → R x ∨ w.heap.size + 2 ≤ x) := Lib.hid (RowS.subK HU4.out (fun x e => .inr (by have := hat9 x e; have := HBs6.out; omega)))
              have ewk : ((wk1.set m (k, d + 1)).take m ++ (wk1.set m (k, d + 1)).drop (m + 1) : List (Nat × Int)) = wk1.eraseIdx m := by rw [← set_takeM wk1 m (k, d + 1)]
              refine bodyPost_ret (v := .agg #[.slice (some ⟨ge, 0, none⟩) en1.length ce1, .slice (some ⟨g3, 0, none⟩) (tr1.length + 1) cap3, .slice As1 sw1.length cs1, .bool hi1', .slice A9 L9 c9, .int .i64 (nx1 : Int), .int .i64 xn, .int .i64 xd]) (by simp [results, Tryz.results51, go_sem, z0, z1, z2, z3, z4, z5, z6, z7]) rfl ?_
              rw [HRR.out, ← HEND.out, ← ewk]
              exact ⟨_, _, _, _, rfl, HSN.out.fill8 (fun e => by rcases HUN.out _ e with e2 | e2; have := (HRB.out _ e2).2; omega; omega), ⟨HK9.out.fill8 (.inr (by omega)), fun x h => (HUN.out x h).imp id (fun e => by omega)⟩⟩
        · have t1 : (d + 1 == ne) = false := by simpa using he
          rw [t1]
          clear t1
          obtain ⟨b0, b1, b2, b3, b4, b5, b6, b7⟩ := Blk.eight HB5.out
          have f5 := HB5.out.frozen
          have hBw5 : Below B w W5 := HK5.out.below hB (fun x hx => (HRB.out x hx).1)
          obtain ⟨bt, ot, rfl, hbt, ⟨c0, c1, c2, c3, c4⟩⟩ := (HT.out.below hBw5).at_ p t HTT.out
          clear hBw5
          cases hi1'
          case true =>
            have HEND : Hid ((⟨en1, tr1 ++ [(p : Int)], sw1, true, wk1.set m (k, d + 1), nx1⟩ : Mc) = sF) := Lib.hid (by rw [← HF.out, HTF.out]; unfold closeM; rw [HEJ.out, if_neg he, if_neg (by simp)])
            clear he
            obtain ⟨r0, r1, r2, r3, r4, r5, r6, r7⟩ := Blk.eight HR5.out
            have fr := HR5.out.frozen
            go_wp2
            have hZ := HR5.out.fill8 (v0 := .slice Ae1 en1.length ce1) (v1 := .slice (some ⟨g3, 0, none⟩) (tr1.length + 1) cap3) (v2 := .slice As1 sw1.length cs1) (v3 := .bool true) (v4 := .slice (some ⟨gk, 0, none⟩) wk1.length ck1) (v5 := .int .i64 (nx1 : Int)) (v6 := .int .i64 xn) (v7 := .int .i64 xd)
            unfold Go.Proofs.YtgponahmkjohiabGreatDoor.fill8 at hZ
            obtain ⟨z0, z1, z2, z3, z4, z5, z6, z7⟩ := Blk.eight hZ
            clear hZ
            refine bodyPost_ret (v := .agg #[.slice Ae1 en1.length ce1, .slice (some ⟨g3, 0, none⟩) (tr1.length + 1) cap3, .slice As1 sw1.length cs1, .bool true, .slice (some ⟨gk, 0, none⟩) wk1.length ck1, .int .i64 (nx1 : Int), .int .i64 xn, .int .i64 xd]) (by simp [results, Tryz.results51, go_sem, z0, z1, z2, z3, z4, z5, z6, z7]) rfl ?_
            rw [HRR.out, ← HEND.out]
            exact ⟨_, _, _, _, rfl, HS5.out.fill8 HNR4.out, ⟨HK5.out.fill8 (.inr (by omega)), fun x h => (HU4.out x h).imp id (fun e => by omega)⟩⟩
          cases hcr : t.cr
          · rw [hcr] at c4
            have HEND : Hid ((⟨en1, tr1 ++ [(p : Int)], sw1, false, wk1.set m (k, d + 1), nx1⟩ : Mc) = sF) := Lib.hid (by rw [← HF.out, HTF.out]; unfold closeM; rw [HEJ.out, if_neg he, if_neg (by rw [HEK.out]; simp [hcr])])
            clear he
            obtain ⟨r0, r1, r2, r3, r4, r5, r6, r7⟩ := Blk.eight HR5.out
            have fr := HR5.out.frozen
            go_wp2
            have hZ := HR5.out.fill8 (v0 := .slice Ae1 en1.length ce1) (v1 := .slice (some ⟨g3, 0, none⟩) (tr1.length + 1) cap3) (v2 := .slice As1 sw1.length cs1) (v3 := .bool false) (v4 := .slice (some ⟨gk, 0, none⟩) wk1.length ck1) (v5 := .int .i64 (nx1 : Int)) (v6 := .int .i64 xn) (v7 := .int .i64 xd)
            unfold Go.Proofs.YtgponahmkjohiabGreatDoor.fill8 at hZ
            obtain ⟨z0, z1, z2, z3, z4, z5, z6, z7⟩ := Blk.eight hZ
            clear hZ
            refine bodyPost_ret (v := .agg #[.slice Ae1 en1.length ce1, .slice (some ⟨g3, 0, none⟩) (tr1.length + 1) cap3, .slice As1 sw1.length cs1, .bool false, .slice (some ⟨gk, 0, none⟩) wk1.length ck1, .int .i64 (nx1 : Int), .int .i64 xn, .int .i64 xd]) (by simp [results, Tryz.results51, go_sem, z0, z1, z2, z3, z4, z5, z6, z7]) rfl ?_
            rw [HRR.out, ← HEND.out]
            exact ⟨_, _, _, _, rfl, HS5.out.fill8 HNR4.out, ⟨HK5.out.fill8 (.inr (by omega)), fun x h => (HU4.out x h).imp id (fun e => by omega)⟩⟩
          · rw [hcr] at c4
            by_cases hlo : d + 1 = t.lo
            · have t2 : (d + 1 == t.lo) = true := by simpa using hlo
              · have HEND : Hid (swM ts js (now + 1) ⟨en1, tr1 ++ [(p : Int)], sw1, false, wk1.set m (k, d + 1), nx1⟩ = sF) := Lib.hid (by rw [← HF.out, HTF.out]; unfold closeM; rw [HEJ.out, if_neg he, if_pos (by rw [HEK.out]; simp [hcr, hlo])])
                clear he
                have hBx5 : Below B w W5 := HK5.out.below hB (fun x hx => (HRB.out x hx).1)
                have HBx5 := Lib.hid hBx5
                have hs5 : w.heap.size + 2 ≤ W5.heap.size := by have := HR5.out.lt; omega
                clear hBx5
                have kwn : IntKind.i64.wrap (now + 1) = now + 1 := IntWalk.i64_in _ (by omega)
                go_wp2_with fail
                refine (sSwitch_is _ B _ n c ts _ nj cj js (HT.out.below HBx5.out) (HJ.out.below HBx5.out) (by omega) HV.out (now + 1) _ _ _ _ ⟨en1, tr1 ++ [(p : Int)], sw1, false, wk1.set m (k, d + 1), nx1⟩ HS5.out HI1.out.enl (fun q hq => by
                  rcases List.mem_or_eq_of_mem_set hq with h | h
                  · exact HWK.out q h
                  · rw [h]; exact HKK.out) (by dsimp only; rw [List.length_set]; exact hwl) hsw1 xn xd).mono ?_
                rw [HEND.out]
                rintro e w9 ⟨ve2, vt2, vs2, vk2, rfl, hS2, hF2⟩
                obtain ⟨en2, tr2, sw2, hi2', wk2, nx2⟩ := sF
                dsimp only at hS2 ⊢
                obtain ⟨Ae2, ce2, rfl⟩ := hS2.e.form
                obtain ⟨At2, ct2, rfl⟩ := hS2.t.form
                obtain ⟨As2, cs2, rfl⟩ := hS2.z.form
                obtain ⟨Ak2, ck2, rfl⟩ := hS2.k.form
                dsimp only at hS2 hF2 ⊢
                have HR9 := Lib.hid (HR5.out.kp hF2.kp HNR4.out)
                have HK9 := Lib.hid (HK5.out.trans hF2.kp (fun x e => (HU4.out x e).imp id (fun e => by omega)))
                have HU9 : Hid (∀ x, RowS (.slice Ae2 en2.length ce2) (.slice At2 tr2.length ct2) (.slice As2 sw2.length cs2) (.slice Ak2 wk2.length ck2) x → R x ∨ w.heap.size + 2 ≤ x) := Lib.hid (fun x e => by rcases hF2.sub x e with e2 | e2; exact HU4.out x e2; right; omega)
                have HS9 := Lib.hid hS2
                clear hS2 hF2
                obtain ⟨r0, r1, r2, r3, r4, r5, r6, r7⟩ := Blk.eight HR9.out
                have fr := HR9.out.frozen
                unfold stV
                go_wp2
                have hZ := HR9.out.fill8 (v0 := .slice Ae2 en2.length ce2) (v1 := .slice At2 tr2.length ct2) (v2 := .slice As2 sw2.length cs2) (v3 := .bool hi2') (v4 := .slice Ak2 wk2.length ck2) (v5 := .int .i64 (nx2 : Int)) (v6 := .int .i64 xn) (v7 := .int .i64 xd)
                unfold Go.Proofs.YtgponahmkjohiabGreatDoor.fill8 at hZ
                obtain ⟨z0, z1, z2, z3, z4, z5, z6, z7⟩ := Blk.eight hZ
                clear hZ
                refine bodyPost_ret (v := .agg #[.slice Ae2 en2.length ce2, .slice At2 tr2.length ct2, .slice As2 sw2.length cs2, .bool hi2', .slice Ak2 wk2.length ck2, .int .i64 (nx2 : Int), .int .i64 xn, .int .i64 xd]) (by simp [results, Tryz.results51, go_sem, z0, z1, z2, z3, z4, z5, z6, z7]) rfl ?_
                rw [HRR.out]
                exact ⟨_, _, _, _, rfl, HS9.out.fill8 (fun e => by rcases HU9.out _ e with e2 | e2; have := (HRB.out _ e2).2; omega; omega), ⟨HK9.out.fill8 (.inr (by omega)), fun x h => (HU9.out x h).imp id (fun e => by omega)⟩⟩
            · have t2 : (d + 1 == t.lo) = false := by simpa using hlo
              have HEND : Hid ((⟨en1, tr1 ++ [(p : Int)], sw1, false, wk1.set m (k, d + 1), nx1⟩ : Mc) = sF) := Lib.hid (by rw [← HF.out, HTF.out]; unfold closeM; rw [HEJ.out, if_neg he, if_neg (by rw [HEK.out]; simp [hlo])])
              clear he hlo
              obtain ⟨r0, r1, r2, r3, r4, r5, r6, r7⟩ := Blk.eight HR5.out
              have fr := HR5.out.frozen
              go_wp2
              have hZ := HR5.out.fill8 (v0 := .slice Ae1 en1.length ce1) (v1 := .slice (some ⟨g3, 0, none⟩) (tr1.length + 1) cap3) (v2 := .slice As1 sw1.length cs1) (v3 := .bool false) (v4 := .slice (some ⟨gk, 0, none⟩) wk1.length ck1) (v5 := .int .i64 (nx1 : Int)) (v6 := .int .i64 xn) (v7 := .int .i64 xd)
              unfold Go.Proofs.YtgponahmkjohiabGreatDoor.fill8 at hZ
              obtain ⟨z0, z1, z2, z3, z4, z5, z6, z7⟩ := Blk.eight hZ
              clear hZ
              refine bodyPost_ret (v := .agg #[.slice Ae1 en1.length ce1, .slice (some ⟨g3, 0, none⟩) (tr1.length + 1) cap3, .slice As1 sw1.length cs1, .bool false, .slice (some ⟨gk, 0, none⟩) wk1.length ck1, .int .i64 (nx1 : Int), .int .i64 xn, .int .i64 xd]) (by simp [results, Tryz.results51, go_sem, z0, z1, z2, z3, z4, z5, z6, z7]) rfl ?_
              rw [HRR.out, ← HEND.out]
              exact ⟨_, _, _, _, rfl, HS5.out.fill8 HNR4.out, ⟨HK5.out.fill8 (.inr (by omega)), fun x h => (HU4.out x h).imp id (fun e => by omega)⟩⟩
end Go.Proofs.YtgponahmkjohiabGreatDoor
