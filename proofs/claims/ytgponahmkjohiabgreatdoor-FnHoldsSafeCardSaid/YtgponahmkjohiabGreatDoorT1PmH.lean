import Derived.Deep.LoopGhost
import Derived.Test.YtgponahmkjohiabGreatDoorT1PmG
namespace Go.Proofs.YtgponahmkjohiabGreatDoor
open Go.RowKit
set_option linter.unusedVariables false
theorem befO_is (w : World) (B M : Nat) (p : Pm) (A : Option Addr) (n c : Nat) (ts : List Tk) (hB : B ≤ w.heap.size) (hT : Tks w B A n ts) (hs : setB ts = true) (hp : PAt w M p) (hL : p.L = .slice A n c) (hi : Bool) (hmo : p.mo = moV hi) (P : Po) (g F X : Nat) (ho : OrdP w M p.O P g F X) (z0 : 0 ≤ P.xn) (z1 : P.xn ≤ 1000000000) (z2 : 0 ≤ P.xd) (z3 : P.xd ≤ 1000000000)
    (ta tm te sa sm se : Int) (ka : 0 ≤ ta ∧ ta < ts.length ∧ 0 ≤ tm ∧ tm ≤ 200) (kb : 0 ≤ sa ∧ sa < ts.length ∧ 0 ≤ sm ∧ sm ≤ 200) (b : Bool) (hb : firstB ts P hi ⟨ta, tm, te⟩ ⟨sa, sm, se⟩ = b) :
    Calls Tryz.prog 55 #[p.O, .agg #[.int .i64 ta, .int .i64 tm, .int .i64 te], .agg #[.int .i64 sa, .int .i64 sm, .int .i64 se]] w (BRes b w) := by
  cases hd : P.due
  · obtain ⟨e, h1⟩ := ho.place hd
    rw [e]
    exact befPl_is w g h1 ta tm te sa sm se b (by rw [← hb, befPp hd])
  · obtain ⟨e, h1, h2, h3⟩ := ho.dead hd
    rw [e]
    exact befDl_is w g B M F X p A n c ts hB hT hs hp hL hi hmo P hd z0 z1 z2 z3 h2 h3 h1 ta tm te sa sm se ka kb b hb
set_option maxRecDepth 100000 in
set_option maxHeartbeats 4000000 in
theorem iFirst_is (w : World) (B M : Nat) (A : Option Addr) (n c : Nat) (ts : List Tk) (Aj : Option Addr) (nj cj : Nat) (js : List Jb) (P : Po) (g F X : Nat) (s : Mc) (d : Nat → Int) (p : Pm) (hB : B ≤ w.heap.size) (hT : Tks w B A n ts) (hJ : Jbs w B Aj nj js) (hv : jobsB ts js = true) (hS : PS w B M A n c Aj nj cj P g F X s d p) (hLO : LeftOk s js.length)
    (z0 : 0 ≤ P.xn) (z1 : P.xn ≤ 1000000000) (z2 : 0 ≤ P.xd) (z3 : P.xd ≤ 1000000000) (hw : 0 < s.wk.length) (r : Nat) (hr : (s.wk.map Prod.fst).getD (bestM ts js P s) 0 = r) :
    Calls Tryz.prog 95 #[.pointer (some ⟨M, 0, none⟩)] w fun e w' => e = .returned (.int .i64 (r : Int)) ∧ Below w.heap.size w w' := by
  have h60 : js.length ≤ 60 := (wrsB_iff.1 (jobs_wrs hv)).1
  have hwn := left_len hLO
  have hnx := hLO.2.2
  obtain ⟨m, hm⟩ : ∃ m, s.wk.length = m := ⟨_, rfl⟩
  obtain ⟨ks, hks⟩ : ∃ ks, s.wk.map Prod.fst = ks := ⟨_, rfl⟩
  have hkl : ks.length = m := by rw [← hks, List.length_map, hm]
  have hkj : ∀ i, i < m → ks.getD i 0 < js.length := fun i hi => by
    have h1 : ks[i]? = some (ks.getD i 0) := by simp [List.getD, List.getElem?_eq_getElem (show i < ks.length by omega)]
    have h2 : ks.getD i 0 ∈ s.wk.map Prod.fst := by rw [hks]; exact List.mem_of_getElem? h1
    rw [List.mem_map] at h2
    obtain ⟨q, hq, e⟩ := h2
    have := hLO.2.1 q hq
    omega
  have hlfk : ∀ i, i < m → p.lf.getD i 0 = ((ks.getD i 0 : Nat) : Int) := fun i hi => by
    have h1 : (p.lf.take s.wk.length)[i]? = (s.wk.map fI)[i]? := by rw [hS.lf]
    rw [List.getElem?_take, if_pos (by omega)] at h1
    have h2 : ks[i]? = (s.wk[i]?).map Prod.fst := by rw [← hks, List.getElem?_map]
    have h3 : (s.wk.map fI)[i]? = (s.wk[i]?).map fI := List.getElem?_map
    obtain ⟨q, hq⟩ : ∃ q, s.wk[i]? = some q := ⟨s.wk[i]'(by omega), List.getElem?_eq_getElem _⟩
    rw [h3, hq] at h1
    rw [hq] at h2
    simp [List.getD, h1, h2, fI]
  obtain ⟨lt, hlt⟩ : ∃ lt, ltM ts js P s.hi = lt := ⟨_, rfl⟩
  have hself : ∀ a, lt a a = false := fun a => by rw [← hlt]; exact first_self _
  have hr' : ks.getD (bestTo lt ks (m - 1)) 0 = r := by rw [← hr, hks]; unfold bestM; rw [hks, hlt, hm]
  have hbl : ∀ i, bestTo lt ks i ≤ i := fun i => best_le lt ks i
  have hjv : ∀ k, k < js.length → 0 ≤ (jobOf js k).ta ∧ (jobOf js k).ta < ts.length ∧ 0 ≤ (jobOf js k).tm ∧ (jobOf js k).tm ≤ 200 := fun k hk => by have := job_ok hv hk; omega
  have HBEF : Hid (∀ W : World, Below w.heap.size w W → ∀ (x y : Nat) (ta tm te sa sm se : Int), x < js.length → y < js.length → jobOf js x = ⟨ta, tm, te⟩ → jobOf js y = ⟨sa, sm, se⟩ → ∀ b, lt x y = b → Calls Tryz.prog 55 #[p.O, .agg #[.int .i64 ta, .int .i64 tm, .int .i64 te], .agg #[.int .i64 sa, .int .i64 sm, .int .i64 se]] W (BRes b W)) := Lib.hid (fun W hbW x y ta tm te sa sm se hx hy ex ey b hb => by
    have v1 := hjv x hx
    have v2 := hjv y hy
    rw [ex] at v1
    rw [ey] at v2
    refine befO_is W B M p A n c ts (by have := hbW.size; omega) (hT.below (hbW.mono hB)) (jobs_set hv) (hS.at_.bel hbW) hS.L s.hi hS.mo P g F X (hS.ord.bel hbW) z0 z1 z2 z3 ta tm te sa sm se v1 v2 b ?_
    rw [← hb, ← hlt]
    unfold ltM
    rw [ex, ey])
  have HP := Lib.hid hS.at_
  have HJV := Lib.hid hS.J
  have HJ := Lib.hid hJ
  have HKJ := Lib.hid hkj
  have HLK := Lib.hid hlfk
  have HSELF := Lib.hid hself
  have HBL := Lib.hid hbl
  have HRR := Lib.hid hr'
  have HCN : p.cn = m := by rw [hS.cn, hm]
  have HKL := Lib.hid hkl
  have HNJ := Lib.hid hJ.len
  have hm60 : m ≤ 60 := by omega
  have hm1 : 0 < m := by omega
  have HTA := iTaken_is w M p hS.at_ (by omega)
  rw [HCN] at HTA
  have HTK := Lib.hid HTA
  clear hS hLO hT hJ hkj hlfk hself hr' hr hjv hkl hwn hnx hm hw hks hlt HCN hbl HTA
  go_enter Tryz.func95, Tryz.ntmps95
  go_wp2_with fail
  refine HTK.out.mono ?_
  rintro e w1 ⟨rfl, hb⟩
  have HB1 := Lib.hid hb
  have HP1 := Lib.hid (HP.out.bel hb)
  clear hb HTK
  have l0 : w1.cell? ⟨M, 5, none⟩ = some (.int .i64 ((ks.getD 0 0 : Nat) : Int)) := by
    have h := HP1.out.left (i := 0) (by omega)
    rw [HLK.out 0 hm1] at h
    exact h
  have m0 : (0 : Int) < (m : Int) := by omega
  go_wp2
  go_loopw [4, 16] (fun v i wr => ∃ j : Nat, j ≤ m ∧ i = .int .i64 j ∧ v = .int .i64 ((ks.getD (bestTo lt ks (j - 1)) 0 : Nat) : Int) ∧ Hid (Below w.heap.size w wr)) (fun _ i _ => m - (intOf i).toNat)
  case atStart => exact ⟨0, Nat.zero_le _, rfl, rfl, HB1⟩
  case round =>
    obtain ⟨j, hj, rfl, rfl, HBR⟩ := hrel
    clear l0 m0 HP1 HB1
    by_cases hlt2 : j < m
    · obtain ⟨x, hx⟩ : ∃ x, ks.getD j 0 = x := ⟨_, rfl⟩
      obtain ⟨y, hy⟩ : ∃ y, ks.getD (bestTo lt ks (j - 1)) 0 = y := ⟨_, rfl⟩
      have hxj : x < js.length := by rw [← hx]; exact HKJ.out j hlt2
      have hyj : y < js.length := by rw [← hy]; exact HKJ.out _ (by have := HBL.out (j - 1); omega)
      obtain ⟨⟨ta, tm, te⟩, hja⟩ : ∃ a, jobOf js x = a := ⟨_, rfl⟩
      obtain ⟨⟨sa, sm, se⟩, hjb⟩ : ∃ a, jobOf js y = a := ⟨_, rfl⟩
      obtain ⟨b, hb⟩ : ∃ b, lt x y = b := ⟨_, rfl⟩
      have hPr := HP.out.bel HBR.out
      have lj : wr.cell? ⟨M, 5 + j, none⟩ = some (.int .i64 (x : Int)) := by
        have h := hPr.left (i := j) (by omega)
        rw [HLK.out j hlt2, hx] at h
        exact h
      have hstep := best_at (ks := ks) (j := j) (r := b) HSELF.out (by rw [hx, hy]; exact hb)
      rw [hx, hy] at hstep
      obtain ⟨bj, oj, eA, hbj, a0, a1, a2⟩ := HJ.out.at_ x _ (job_get hxj)
      obtain ⟨bj2, oj2, eA2, _, e0, e1, e2⟩ := HJ.out.at_ y _ (job_get hyj)
      rw [eA] at eA2
      injection eA2 with eA2
      injection eA2 with eA2 eA3
      subst eA2 eA3
      rw [hja] at a0 a1 a2
      rw [hjb] at e0 e1 e2
      dsimp only at a0 a1 a2 e0 e1 e2
      have hbjw : bj < w.heap.size := by omega
      have hc := fun o => HBR.out.cell (p := ⟨bj, o, none⟩) hbjw
      rw [← hc] at a0 a1 a2 e0 e1 e2
      have c1 : wr.cell? ⟨M, 1, none⟩ = some (.slice (some ⟨bj, oj, none⟩) nj cj) := by rw [hPr.c1, HJV.out, eA]
      have c2 : wr.cell? ⟨M, 2, none⟩ = some p.O := hPr.c2
      have j0 : (0 : Int) ≤ (j : Int) := by omega
      have j1 : (j : Int) < (m : Int) := by omega
      have x0 : (0 : Int) ≤ (x : Int) := by omega
      have x1 : (x : Int) < (nj : Int) := by have := HNJ.out; omega
      have y0 : (0 : Int) ≤ (y : Int) := by omega
      have y1 : (y : Int) < (nj : Int) := by have := HNJ.out; omega
      have HXJ := Lib.hid hxj
      have HYJ := Lib.hid hyj
      have HJA := Lib.hid hja
      have HJB := Lib.hid hjb
      have HBB := Lib.hid hb
      have HST := Lib.hid hstep
      have lM : M < wr.heap.size := hPr.lt
      have lJ : bj < wr.heap.size := by have := HBR.out.size; omega
      obtain ⟨O, hO⟩ : ∃ O, p.O = O := ⟨_, rfl⟩
      rw [hO] at c2 HBEF
      rw [hy]
      clear hx hy hxj hyj hja hjb hb hstep eA hc hPr hO
      go_wp2
      go_region_held3 (fun W => W.cell? ⟨M, 1, none⟩ = some (.slice (some ⟨bj, oj, none⟩) nj cj) ∧ W.cell? ⟨M, 2, none⟩ = some O ∧ W.cell? ⟨bj, oj + x * 3, none⟩ = some (.int .i64 ta) ∧ W.cell? ⟨bj, oj + x * 3 + 1, none⟩ = some (.int .i64 tm) ∧ W.cell? ⟨bj, oj + x * 3 + 2, none⟩ = some (.int .i64 te) ∧ W.cell? ⟨bj, oj + y * 3, none⟩ = some (.int .i64 sa) ∧ W.cell? ⟨bj, oj + y * 3 + 1, none⟩ = some (.int .i64 sm) ∧ W.cell? ⟨bj, oj + y * 3 + 2, none⟩ = some (.int .i64 se)) (first | assumption | (simp [go_sem, *]; done))
        ((first
          | (go_at_call 55; refine (HBEF.out _ (bl_trans HBR.out (by repeat (first | exact Below.refl _ _ | with_reducible refine Below.drew ?_ | with_reducible refine bl_drewN ?_ _))) x y ta tm te sa sm se HXJ.out HYJ.out HJA.out HJB.out b HBB.out).mono ?_; rintro e w2 ⟨rfl, hb⟩; have HD := Lib.hid (show Below wr.heap.size wr w2 from bl_trans (by repeat (first | exact Below.refl _ _ | with_reducible refine Below.drew ?_ | with_reducible refine bl_drewN ?_ _)) hb); have z1 := (HD.out.cell (p := ⟨M, 1, none⟩) lM).trans c1; have z2 := (HD.out.cell (p := ⟨M, 2, none⟩) lM).trans c2; have z3 := (HD.out.cell (p := ⟨bj, oj + x * 3, none⟩) lJ).trans a0; have z4 := (HD.out.cell (p := ⟨bj, oj + x * 3 + 1, none⟩) lJ).trans a1; have z5 := (HD.out.cell (p := ⟨bj, oj + x * 3 + 2, none⟩) lJ).trans a2; have z6 := (HD.out.cell (p := ⟨bj, oj + y * 3, none⟩) lJ).trans e0; have z7 := (HD.out.cell (p := ⟨bj, oj + y * 3 + 1, none⟩) lJ).trans e1; have z8 := (HD.out.cell (p := ⟨bj, oj + y * 3 + 2, none⟩) lJ).trans e2; clear hb c1 c2 a0 a1 a2 e0 e1 e2)))
      all_goals (
        have HBZ := Lib.hid (bl_trans HBR.out HD.out)
        cases b
        · have HS2 : Hid (ks.getD (bestTo lt ks j) 0 = y) := Lib.hid (by rw [HST.out]; rfl)
          clear HST
          go_wp2
          go_roundw
          case rel => exact ⟨j + 1, by omega, by go_num, by rw [show j + 1 - 1 = j from rfl, HS2.out], Lib.hid (by repeat (first | exact HBZ.out | refine Below.drew ?_ | refine bl_drewN ?_ _))⟩
          case measure => simp [intOf]; omega
        · have HS2 : Hid (ks.getD (bestTo lt ks j) 0 = x) := Lib.hid (by rw [HST.out]; rfl)
          clear HST
          go_wp2
          go_roundw
          case rel => exact ⟨j + 1, by omega, by go_num, by rw [show j + 1 - 1 = j from rfl, HS2.out], Lib.hid (by repeat (first | exact HBZ.out | refine Below.drew ?_ | refine bl_drewN ?_ _))⟩
          case measure => simp [intOf]; omega)
    · obtain rfl : j = m := by omega
      rw [HRR.out]
      go_wp2
      go_ret
      exact ⟨rfl, HBR.out⟩
/-- What take leaves of the machine's other parts. -/
structure SameP (p q : Pm) : Prop where
  L : q.L = p.L
  J : q.J = p.J
  O : q.O = p.O
  mo : q.mo = p.mo
  E : q.E = p.E
  T : q.T = p.T
  S : q.S = p.S
  dn : q.dn = p.dn
theorem SameP.refl (p : Pm) : SameP p p := ⟨rfl, rfl, rfl, rfl, rfl, rfl, rfl, rfl⟩
theorem SameP.trans {p q r : Pm} (h : SameP p q) (k : SameP q r) : SameP p r := ⟨k.L.trans h.L, k.J.trans h.J, k.O.trans h.O, k.mo.trans h.mo, k.E.trans h.E, k.T.trans h.T, k.S.trans h.S, k.dn.trans h.dn⟩
/-- The machine after some other state of its lists. -/
theorem PS.turn {w w' : World} {B M : Nat} {A : Option Addr} {n c : Nat} {Aj : Option Addr} {nj cj : Nat} {P : Po} {g F X : Nat} {s s' : Mc} {d : Nat → Int} {p q : Pm} {S : Nat → Prop} (h : PS w B M A n c Aj nj cj P g F X s d p) (hk : Kp w w' S) (hS : ∀ x, S x → x = M ∨ p.E.ownBlock = some x) (hq : PAt w' M q) (sp : SameP p q) (hi : s'.hi = s.hi) (tr : s'.tr = s.tr) (sw : s'.sw = s.sw) (cm : q.cm = s'.nx) (cn : q.cn = s'.wk.length) (lf : q.lf.take s'.wk.length = s'.wk.map fI) (he : OwnZ w' B q.E s'.en) :
    PS w' B M A n c Aj nj cj P g F X s' d q := by
  refine ⟨hq, h.bM, sp.L.trans h.L, sp.J.trans h.J, by rw [sp.mo, h.mo, hi], cm, cn, lf, by rw [sp.dn]; exact h.dn, he, ?_, ?_, by rw [sp.E, sp.T]; exact h.et, by rw [sp.E, sp.S]; exact h.ez, by rw [sp.T, sp.S]; exact h.tz, by rw [sp.E]; exact h.eM, by rw [sp.T]; exact h.tM, by rw [sp.S]; exact h.zM, ?_, h.oM, by rw [sp.E]; exact h.oE, by rw [sp.T]; exact h.oT, by rw [sp.S]; exact h.oS⟩
  · rw [sp.T, tr]
    exact h.t.kp hk (fun x e1 e2 => by
      rcases hS x e2 with rfl | e3
      · exact h.tM e1
      · exact h.et x e3 e1)
  · rw [sp.S, sw]
    exact h.z.kp hk (fun x e1 e2 => by
      rcases hS x e2 with rfl | e3
      · exact h.zM e1
      · exact h.ez x e3 e1)
  · rw [sp.O]
    have no : ∀ x, (x = g ∨ x = F ∨ x = X) → ¬ S x := fun x hx e => by
      rcases hS x e with rfl | e3
      · have := h.oM; omega
      · have := h.oE x e3; omega
    exact h.ord.kp hk (no g (.inl rfl)) (no F (.inr (.inl rfl))) (no X (.inr (.inr rfl)))
/-- What take leaves. -/
def TakeRes (B M : Nat) (A : Option Addr) (n c : Nat) (Aj : Option Addr) (nj cj : Nat) (P : Po) (g F X : Nat) (s : Mc) (d : Nat → Int) (p : Pm) (w : World) (e : Ending) (w' : World) : Prop :=
  ∃ q : Pm, e = .returned (.tuple #[]) ∧ PS w' B M A n c Aj nj cj P g F X s d q ∧ SameP p q ∧ Kp w w' (Wr M p)
set_option maxRecDepth 100000 in
set_option maxHeartbeats 4000000 in
theorem iTake_is (w : World) (B M : Nat) (A : Option Addr) (n c : Nat) (ts : List Tk) (Aj : Option Addr) (nj cj : Nat) (js : List Jb) (P : Po) (g F X : Nat) (s : Mc) (d : Nat → Int) (p : Pm) (hB : B ≤ w.heap.size) (hT : Tks w B A n ts) (hJ : Jbs w B Aj nj js) (hv : jobsB ts js = true) (hS : PS w B M A n c Aj nj cj P g F X s d p) (hLO : LeftOk s js.length) (hen : s.en.length = js.length)
    (ge ce : Nat) (hE : p.E = .slice (some ⟨ge, 0, none⟩) s.en.length ce) (now : Int) :
    Calls Tryz.prog 94 #[.pointer (some ⟨M, 0, none⟩), .int .i64 now] w (TakeRes B M A n c Aj nj cj P g F X (dropM ts js (addM js now (js.length - s.nx) s)) d p w) := by
  have h60 : js.length ≤ 60 := (wrsB_iff.1 (jobs_wrs hv)).1
  have hgE : p.E.ownBlock = some ge := by rw [hE]; rfl
  obtain ⟨sF, hsF⟩ : ∃ sF, addM js now (js.length - s.nx) s = sF := ⟨_, rfl⟩
  rw [hsF]
  have HF := Lib.hid hsF
  have HS := Lib.hid hS
  have HLO := Lib.hid hLO
  have HJ := Lib.hid hJ
  have HT := Lib.hid hT
  have HV := Lib.hid hv
  have HE := Lib.hid hE
  have HEN := Lib.hid hen
  have HGE := Lib.hid hgE
  have HNJ := Lib.hid hJ.len
  obtain ⟨en0, hen0⟩ : ∃ en0, s.en = en0 := ⟨_, rfl⟩
  have HN0 := Lib.hid hen0
  clear hsF hS hLO hJ hT hv hE hen hgE hen0
  go_enter Tryz.func94, Tryz.ntmps94
  go_wp2
  go_loopg [] (js.length - s.nx) (fun gk wr => ∃ (s1 : Mc) (p1 : Pm), gk = js.length - s1.nx ∧ Hid (addM js now (js.length - s1.nx) s1 = sF) ∧ Hid (PS wr B M A n c Aj nj cj P g F X s1 d p1) ∧ Hid (LeftOk s1 js.length) ∧ Hid (s1.en = s.en) ∧ Hid (SameP p p1) ∧ Hid (Kp w wr (fun x => x = M)))
  case atStart => exact ⟨s, p, rfl, HF, HS, HLO, Lib.hid rfl, Lib.hid (SameP.refl p), Lib.hid (Kp.refl w _)⟩
  case round =>
    obtain ⟨s1, p1, hgk, HF1, HS1, HLO1, HE1, HSP1, HK1⟩ := hrel
    have hBM := HS1.out.bM
    have HB1 := Lib.hid (HK1.out.below hB (fun x e => by rw [e]; exact hBM))
    have hsz := HK1.out.size
    obtain ⟨nx, hnx⟩ : ∃ nx, s1.nx = nx := ⟨_, rfl⟩
    have c1 : wr.cell? ⟨M, 1, none⟩ = some (.slice Aj nj cj) := by rw [HS1.out.at_.c1, HS1.out.J]
    have c4 : wr.cell? ⟨M, 4, none⟩ = some (.int .i64 (nx : Int)) := by rw [HS1.out.at_.c4, HS1.out.cm, hnx]
    have HNX := Lib.hid hnx
    have hnl : nx ≤ js.length := by rw [← hnx]; exact HLO1.out.2.2
    have hnl2 : nx ≤ nj := by have := HNJ.out; omega
    rw [hnx] at hgk
    clear hnx
    by_cases hn : nx < js.length
    · obtain ⟨bj, oj, eA, hbj, a0, a1, a2⟩ := (HJ.out.below HB1.out).at_ nx _ (job_get hn)
      obtain ⟨tm, htm⟩ : ∃ tm, (jobOf js nx).tm = tm := ⟨_, rfl⟩
      rw [htm] at a1
      have HTM := Lib.hid htm
      have d1 : (nx : Int) < (nj : Int) := by have := HNJ.out; omega
      have d0 : (0 : Int) ≤ (nx : Int) := by omega
      rw [eA] at c1
      clear a0 a2 htm eA
      by_cases ht : tm = now
      · subst ht
        have t1 : (tm == tm) = true := beq_self_eq_true tm
        go_wp2
        go_quiet (fail)
        go_wp2
        have HSq : Hid (∀ k : Nat, PS (wr.drewN k) B M A n c Aj nj cj P g F X s1 d p1) := Lib.hid (fun k => HS1.out.bel (bl_drewN (Below.refl _ _) k))
        have HNEXT : Hid (addM js tm (js.length - (s1.nx + 1)) { s1 with wk := s1.wk ++ [(s1.nx, 0)], nx := s1.nx + 1 } = sF) := Lib.hid (by rw [← HF1.out, add_step (by rw [HNX.out]; exact hn) (by rw [HNX.out]; exact HTM.out)])
        have hc60 : p1.cn < 60 := by rw [HS1.out.cn]; have := left_len HLO1.out; have := HNX.out; omega
        go_region_held3 (fun W => W.cell? ⟨M, 4, none⟩ = some (.int .i64 (nx : Int))) (first | assumption | (simp [go_sem, *]; done))
          ((first
            | (go_at_call 135; refine (iPlAdd_is _ M p1 (HS1.out.at_.bel (by repeat (first | exact Below.refl _ _ | with_reducible refine Below.drew ?_ | with_reducible refine bl_drewN ?_ _))) nx hc60).mono ?_; rintro e w2 ⟨rfl, hp2, hk2⟩; have HP2 := Lib.hid hp2; have HK2 := Lib.hid (show Kp wr w2 (fun x => x = M) from (kp_of_bel (by repeat (first | exact Below.refl _ _ | with_reducible refine Below.drew ?_ | with_reducible refine bl_drewN ?_ _))).trans hk2 (fun x e => .inl e)); have z4 : w2.cell? ⟨M, 4, none⟩ = some (.int .i64 (nx : Int)) := hp2.c4.trans (by dsimp only; rw [HS1.out.cm, HNX.out]); clear hp2 hk2 c1 c4)))
        all_goals (
          have HP3 := Lib.hid (HP2.out.sCm (nx + 1))
          have HK3 := Lib.hid (HK2.out.set (a := ⟨M, 4, none⟩) (.inl rfl) (.int .i64 ((nx + 1 : Nat) : Int)))
          have f2 := HP2.out.frozen
          have HW3 : Hid (PS (w2.setCell ⟨M, 4, none⟩ (.int .i64 ((nx + 1 : Nat) : Int))) B M A n c Aj nj cj P g F X { s1 with wk := s1.wk ++ [(s1.nx, 0)], nx := s1.nx + 1 } d { p1 with lf := p1.lf.set p1.cn (nx : Int), cn := p1.cn + 1, cm := nx + 1 }) := Lib.hid (HS1.out.turn HK3.out (fun x e => .inl e) HP3.out ⟨rfl, rfl, rfl, rfl, rfl, rfl, rfl, rfl⟩ rfl rfl rfl (by dsimp only; rw [HNX.out]) (by dsimp only; rw [HS1.out.cn, List.length_append]; rfl) (by
            dsimp only
            have hl := HS1.out.lf
            have hc := HS1.out.cn
            rw [List.length_append, List.map_append, hc, List.length_singleton, take_set_snoc (by rw [HS1.out.at_.l]; omega), hl, ← HNX.out]
            rfl) (HS1.out.e.kp HK3.out (fun x e1 e2 => HS1.out.eM (by rw [e1, e2]))))
          have HLO3 := Lib.hid (left_add HLO1.out (by rw [HNX.out]; exact hn))
          have HSP3 := Lib.hid (HSP1.out.trans (show SameP p1 { p1 with lf := p1.lf.set p1.cn (nx : Int), cn := p1.cn + 1, cm := nx + 1 } from ⟨rfl, rfl, rfl, rfl, rfl, rfl, rfl, rfl⟩))
          have HK4 := Lib.hid (HK1.out.trans HK3.out (fun x e => .inl e))
          have ecast : (((nx + 1 : Nat)) : Int) = (nx : Int) + 1 := by omega
          rw [ecast] at HW3 HK4
          clear ecast HP3 HK3
          go_wp2
          go_roundg (js.length - (nx + 1))
          case measure => omega
          case rel => exact ⟨{ s1 with wk := s1.wk ++ [(s1.nx, 0)], nx := s1.nx + 1 }, _, (by show js.length - (nx + 1) = js.length - (s1.nx + 1); rw [HNX.out]), HNEXT, by first | exact HW3 | exact Lib.hid (HW3.out.bel (Below.drew (Below.refl _ _))), HLO3, HE1, HSP3, by first | exact HK4 | exact Lib.hid HK4.out.drew⟩)
      · have t1 : (tm == now) = false := by rw [beq_eq_false_iff_ne]; exact ht
        have HT1 := Lib.hid ht
        clear ht
        go_wp2
        go_quiet (fail)
        go_wp2_with fail
        have HSTOP : Hid (sF = s1) := Lib.hid (by rw [← HF1.out]; exact add_stop _ (fun _ e => HT1.out (by rw [← HTM.out, ← HNX.out]; exact e)) (Nat.le_refl _))
        have HPS : Hid (∀ W, Below wr.heap.size wr W → PS W B M A n c Aj nj cj P g F X s1 d p1) := Lib.hid (fun W h => HS1.out.bel h)
        have hlen : s1.wk.length ≤ 60 := by have := left_len HLO1.out; have := HNX.out; omega
        have HEv : Hid (p1.E = .slice (some ⟨ge, 0, none⟩) s1.en.length ce) := Lib.hid (by rw [HSP1.out.E, HE1.out]; exact HE.out)
        have HEn : Hid (s1.en.length = js.length) := Lib.hid (by rw [HE1.out]; exact HEN.out)
        have hgM : ge ≠ M := fun e => HS.out.eM (by rw [HGE.out, e])
        refine (iDrop_is _ B M p1 A n c ts Aj nj cj js (by have := hsz; (try simp); omega) (HT.out.below (blB HB1.out (by omega) (by repeat (first | exact Below.refl _ _ | with_reducible refine Below.drew ?_ | with_reducible refine bl_drewN ?_ _)))) (HJ.out.below (blB HB1.out (by omega) (by repeat (first | exact Below.refl _ _ | with_reducible refine Below.drew ?_ | with_reducible refine bl_drewN ?_ _)))) (HPS.out _ (by repeat (first | exact Below.refl _ _ | with_reducible refine Below.drew ?_ | with_reducible refine bl_drewN ?_ _))).at_ hBM HS1.out.L HS1.out.J HV.out s1.hi HS1.out.mo ge ce s1.en HEv.out (HPS.out _ (by repeat (first | exact Below.refl _ _ | with_reducible refine Below.drew ?_ | with_reducible refine bl_drewN ?_ _))).e HEn.out hgM s1.wk HS1.out.cn HS1.out.lf (fun q hq => by have := HLO1.out.2.1 q hq; have := HNX.out; omega) hlen).mono ?_
        rintro e w5 ⟨lf, rfl, hp5, hl5, he5, hk5⟩
        have HK5 := Lib.hid (show Kp wr w5 (fun x => x = ge ∨ x = M) from (kp_of_bel (by repeat (first | exact Below.refl _ _ | with_reducible refine Below.drew ?_ | with_reducible refine bl_drewN ?_ _))).trans hk5 (fun x e => .inl e))
        have HX5 : Hid (TakeRes B M A n c Aj nj cj P g F X (dropM ts js sF) d p w (.returned (.tuple #[])) w5) := Lib.hid (by
          rw [HSTOP.out]
          have hge : p1.E.ownBlock = some ge := by rw [HEv.out]; rfl
          refine ⟨_, rfl, HS1.out.turn HK5.out (fun x e => by rcases e with rfl | rfl; exact .inr hge; exact .inl rfl) hp5 ⟨rfl, rfl, rfl, rfl, rfl, rfl, rfl, rfl⟩ ?_ ?_ ?_ ?_ ?_ ?_ ?_, HSP1.out.trans ⟨rfl, rfl, rfl, rfl, rfl, rfl, rfl, rfl⟩, (HK1.out.more (S2 := Wr M p) (fun x e => .inl (.inl e))).trans HK5.out (fun x e => .inl (by rcases e with rfl | rfl; exact .inr (.inl HGE.out); exact .inl rfl))⟩
          · unfold dropM; split <;> rfl
          · unfold dropM; split <;> rfl
          · unfold dropM; split <;> rfl
          · dsimp only; rw [HS1.out.cm]; unfold dropM; split <;> rfl
          · have e : (dropM ts js s1).wk = if s1.hi then s1.wk.filter (fun q => (tkJ ts js q.1).cr) else s1.wk := by unfold dropM; split <;> rfl
            rw [e]
          · have e : (dropM ts js s1).wk = if s1.hi then s1.wk.filter (fun q => (tkJ ts js q.1).cr) else s1.wk := by unfold dropM; split <;> rfl
            rw [e]
            exact hl5
          · have he6 : OwnZ w5 B p1.E (dropF ts js s1.hi s1.en s1.wk s1.wk.length) := he5
            show OwnZ w5 B p1.E (dropM ts js s1).en
            have : (dropM ts js s1).en = dropF ts js s1.hi s1.en s1.wk s1.wk.length := by unfold dropM dropF; split <;> rename_i h <;> simp
            rw [this]; exact he6)
        clear hp5 hl5 he5 hk5
        go_wp2
        go_end0
        exact HX5.out
    · have e1 : decide ((nx : Int) < (nj : Int)) = false := decide_eq_false (by have := HNJ.out; omega)
      have e2 : ¬ (nx : Int) < (nj : Int) := by have := HNJ.out; omega
      have e3 : decide (nx < nj) = false := decide_eq_false (by have := HNJ.out; omega)
      have HNN := Lib.hid hn
      go_wp2
      go_quiet (fail)
      go_wp2_with fail
      have HSTOP : Hid (sF = s1) := Lib.hid (by rw [← HF1.out]; exact add_stop _ (fun e => absurd (by rw [← HNX.out]; exact e) HNN.out) (Nat.le_refl _))
      have HPS : Hid (∀ W, Below wr.heap.size wr W → PS W B M A n c Aj nj cj P g F X s1 d p1) := Lib.hid (fun W h => HS1.out.bel h)
      have hlen : s1.wk.length ≤ 60 := by have := left_len HLO1.out; have := HNX.out; omega
      have HEv : Hid (p1.E = .slice (some ⟨ge, 0, none⟩) s1.en.length ce) := Lib.hid (by rw [HSP1.out.E, HE1.out]; exact HE.out)
      have HEn : Hid (s1.en.length = js.length) := Lib.hid (by rw [HE1.out]; exact HEN.out)
      have hgM : ge ≠ M := fun e => HS.out.eM (by rw [HGE.out, e])
      refine (iDrop_is _ B M p1 A n c ts Aj nj cj js (by have := hsz; (try simp); omega) (HT.out.below (blB HB1.out (by omega) (by repeat (first | exact Below.refl _ _ | with_reducible refine Below.drew ?_ | with_reducible refine bl_drewN ?_ _)))) (HJ.out.below (blB HB1.out (by omega) (by repeat (first | exact Below.refl _ _ | with_reducible refine Below.drew ?_ | with_reducible refine bl_drewN ?_ _)))) (HPS.out _ (by repeat (first | exact Below.refl _ _ | with_reducible refine Below.drew ?_ | with_reducible refine bl_drewN ?_ _))).at_ hBM HS1.out.L HS1.out.J HV.out s1.hi HS1.out.mo ge ce s1.en HEv.out (HPS.out _ (by repeat (first | exact Below.refl _ _ | with_reducible refine Below.drew ?_ | with_reducible refine bl_drewN ?_ _))).e HEn.out hgM s1.wk HS1.out.cn HS1.out.lf (fun q hq => by have := HLO1.out.2.1 q hq; have := HNX.out; omega) hlen).mono ?_
      rintro e w5 ⟨lf, rfl, hp5, hl5, he5, hk5⟩
      have HK5 := Lib.hid (show Kp wr w5 (fun x => x = ge ∨ x = M) from (kp_of_bel (by repeat (first | exact Below.refl _ _ | with_reducible refine Below.drew ?_ | with_reducible refine bl_drewN ?_ _))).trans hk5 (fun x e => .inl e))
      have HX5 : Hid (TakeRes B M A n c Aj nj cj P g F X (dropM ts js sF) d p w (.returned (.tuple #[])) w5) := Lib.hid (by
        rw [HSTOP.out]
        have hge : p1.E.ownBlock = some ge := by rw [HEv.out]; rfl
        refine ⟨_, rfl, HS1.out.turn HK5.out (fun x e => by rcases e with rfl | rfl; exact .inr hge; exact .inl rfl) hp5 ⟨rfl, rfl, rfl, rfl, rfl, rfl, rfl, rfl⟩ ?_ ?_ ?_ ?_ ?_ ?_ ?_, HSP1.out.trans ⟨rfl, rfl, rfl, rfl, rfl, rfl, rfl, rfl⟩, (HK1.out.more (S2 := Wr M p) (fun x e => .inl (.inl e))).trans HK5.out (fun x e => .inl (by rcases e with rfl | rfl; exact .inr (.inl HGE.out); exact .inl rfl))⟩
        · unfold dropM; split <;> rfl
        · unfold dropM; split <;> rfl
        · unfold dropM; split <;> rfl
        · dsimp only; rw [HS1.out.cm]; unfold dropM; split <;> rfl
        · have e : (dropM ts js s1).wk = if s1.hi then s1.wk.filter (fun q => (tkJ ts js q.1).cr) else s1.wk := by unfold dropM; split <;> rfl
          rw [e]
        · have e : (dropM ts js s1).wk = if s1.hi then s1.wk.filter (fun q => (tkJ ts js q.1).cr) else s1.wk := by unfold dropM; split <;> rfl
          rw [e]
          exact hl5
        · have he6 : OwnZ w5 B p1.E (dropF ts js s1.hi s1.en s1.wk s1.wk.length) := he5
          show OwnZ w5 B p1.E (dropM ts js s1).en
          have : (dropM ts js s1).en = dropF ts js s1.hi s1.en s1.wk s1.wk.length := by unfold dropM dropF; split <;> rename_i h <;> simp
          rw [this]; exact he6)
      clear hp5 hl5 he5 hk5
      go_wp2
      go_end0
      exact HX5.out
end Go.Proofs.YtgponahmkjohiabGreatDoor
