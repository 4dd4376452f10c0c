import Derived.Deep.AppendLies
import Derived.Deep.RegionLaw
import Derived.Lib.Mul64
import Derived.Laws.Bits64b
import Derived.Laws.CopyOwn
import Derived.Deep.LoopGhost
import Derived.BigRegion
import Derived.Test.YtgponahmkjohiabGreatDoorT1PmI
namespace Go.Proofs.YtgponahmkjohiabGreatDoor
open Go.RowKit
set_option linter.unusedVariables false
/-- What a tick leaves: some ticks are done of each job then. -/
def TickRes (ts : List Tk) (js : List Jb) (now : Int) (B M : Nat) (A : Option Addr) (n c : Nat) (Aj : Option Addr) (nj cj : Nat) (P : Po) (g F X : Nat) (s : Mc) (w : World) (e : Ending) (w' : World) : Prop :=
  ∃ d : Nat → Int, InvM ts js now d s ∧ StepRes B M A n c Aj nj cj P g F X s d w e w'
theorem tickP_empty {ts : List Tk} {js : List Jb} {p : Po} {now : Int} {s s1 : Mc} (h : openM ts js now s = s1) (hw : s1.wk = []) : tickM ts js p now s = { s1 with tr := s1.tr ++ [-1] } := by
  unfold tickM
  rw [h]
  have e : s1.wk[bestM ts js p s1]? = none := by rw [hw]; rfl
  rw [e]
theorem tickP_full {ts : List Tk} {js : List Jb} {p : Po} {now : Int} {s s1 : Mc} {b k : Nat} {d : Int} (h : openM ts js now s = s1) (hb : bestM ts js p s1 = b) (hw : s1.wk[b]? = some (k, d)) : tickM ts js p now s = closeM ts js now b k d s1 := by
  unfold tickM
  rw [h, hb, hw]
set_option maxRecDepth 100000 in
set_option maxHeartbeats 8000000 in
theorem iStep_is (w : World) (B M : Nat) (A : Option Addr) (n c : Nat) (ts : List Tk) (Aj : Option Addr) (nj cj : Nat) (js : List Jb) (P : Po) (g F X : Nat) (s : Mc) (d : Nat → Int) (p : Pm) (hB : B ≤ w.heap.size) (hT : Tks w B A n ts) (hJ : Jbs w B Aj nj js) (hv : jobsB ts js = true) (hS : PS w B M A n c Aj nj cj P g F X s d p) (now : Int) (hI : InvM ts js now d s)
    (ge ce : Nat) (hE : p.E = .slice (some ⟨ge, 0, none⟩) s.en.length ce) (n0 : 0 ≤ now) (n1 : now ≤ 1000) (htl : s.tr.length ≤ 100000) (hsl : s.sw.length ≤ 100000) (z0 : 0 ≤ P.xn) (z1 : P.xn ≤ 1000000000) (z2 : 0 ≤ P.xd) (z3 : P.xd ≤ 1000000000) :
    Calls Tryz.prog 48 #[.pointer (some ⟨M, 0, none⟩), .int .i64 now] w (TickRes ts js (now + 1) B M A n c Aj nj cj P g F X (tickM ts js P now s) w) := by
  obtain ⟨i1, hi1, hy0, hy1, hy2⟩ := info_parts info_int
  have h60 : js.length ≤ 60 := (wrsB_iff.1 (jobs_wrs hv)).1
  have hgE : p.E.ownBlock = some ge := by rw [hE]; rfl
  have hgM : ge ≠ M := fun e => hS.eM (by rw [hgE, e])
  have hMl := hS.at_.lt
  have hgl : B ≤ ge ∧ ge < w.heap.size := by have h := hS.e; rw [hE] at h; exact h.lt
  have hbM := hS.bM
  obtain ⟨hso, hco, _⟩ := open_inv hv hI
  obtain ⟨s1, hs1⟩ : ∃ s1, openM ts js now s = s1 := ⟨_, rfl⟩
  obtain ⟨sF, hsF⟩ : ∃ sF, tickM ts js P now s = sF := ⟨_, rfl⟩
  have hadd : dropM ts js (addM js now (js.length - (lowM s).nx) (lowM s)) = s1 := by rw [← hs1, open_add hI]; rfl
  rw [hs1] at hso hco
  rw [hsF]
  have hlowI := low_inv hI
  have etr : s1.tr = s.tr := hco.tr
  have esw : s1.sw = s.sw := hco.sw
  have een : s1.en.length = js.length := hso.enl
  have HS := Lib.hid hS
  have HT := Lib.hid hT
  have HJ := Lib.hid hJ
  have HV := Lib.hid hv
  have HI1 := Lib.hid hso
  have HLI := Lib.hid hlowI
  have HS1E := Lib.hid hs1
  have HSF := Lib.hid hsF
  have HADD := Lib.hid hadd
  have HE := Lib.hid hE
  have HGE := Lib.hid hgE
  have HEN := Lib.hid een
  have HEO := Lib.hid hI.enl
  have htr1 : s1.tr.length ≤ 100000 := by rw [etr]; exact htl
  have hsw1 : s1.sw.length ≤ 100000 := by rw [esw]; exact hsl
  have c65 : w.cell? ⟨M, 65, none⟩ = some (.int .i64 (s.wk.length : Int)) := by rw [hS.at_.c65, hS.cn]
  have c3 := hS.at_.c3
  have f0 := hS.at_.frozen
  clear hS hT hJ hv hso hlowI hs1 hsF hadd hE hgE een etr esw hI hco
  by_cases hw0 : s.wk.length = 0
  · have t1 : ((s.wk.length : Int) == 0) = true := by rw [hw0]; rfl
    have t2 : (s.wk.length : Int) = 0 := by omega
    have HW0 := Lib.hid hw0
    have HSL : Hid (PS (w.setCell ⟨M, 3, none⟩ (.iface 124 (.agg #[]))) B M A n c Aj nj cj P g F X (lowM s) d { p with mo := .iface 124 (.agg #[]) }) := Lib.hid (HS.out.cell_ (HS.out.at_.sMo _) rfl rfl rfl rfl rfl rfl (by
      have e : s.wk = [] := List.length_eq_zero_iff.1 HW0.out
      show _ = moV (s.hi && !s.wk.isEmpty)
      rw [e]
      simp [moV]) HS.out.cm HS.out.cn HS.out.lf HS.out.dn rfl rfl rfl)
    have HTA : Hid (Calls Tryz.prog 94 #[.pointer (some ⟨M, 0, none⟩), .int .i64 now] (w.setCell ⟨M, 3, none⟩ (.iface 124 (.agg #[]))) (TakeRes B M A n c Aj nj cj P g F X s1 d { p with mo := .iface 124 (.agg #[]) } (w.setCell ⟨M, 3, none⟩ (.iface 124 (.agg #[]))))) := Lib.hid (by
      have hbl : Below B w (w.setCell ⟨M, 3, none⟩ (.iface 124 (.agg #[]))) := (Below.refl B w).setCell hbM _
      have h := iTake_is _ B M A n c ts Aj nj cj js P g F X (lowM s) d _ (by have := hbl.size; omega) (HT.out.below hbl) (HJ.out.below hbl) HV.out HSL.out (inv_left HLI.out) HLI.out.enl ge ce HE.out now
      rw [HADD.out] at h
      exact h)
    have HKL : Hid (Kp w (w.setCell ⟨M, 3, none⟩ (.iface 124 (.agg #[]))) (Wr M p)) := Lib.hid (Kp.set (S := Wr M p) (a := ⟨M, 3, none⟩) (Kp.refl w _) (.inl (.inl rfl)) _)
    clear hw0
    go_enter Tryz.func48, Tryz.ntmps48
    go_wp2_with fail
    refine HTA.out.mono ?_
    rintro e w2 ⟨q, rfl, hs2, hsp2, hk2⟩
    have HSP2 : Hid (q.E = p.E) := Lib.hid hsp2.E
    have HK2 : Hid (Kp w w2 (Wr M p)) := Lib.hid (HKL.out.trans hk2 (fun x e => .inl e))
    have HS2 := Lib.hid hs2
    clear hs2 hsp2 hk2 c65 c3 f0 t1 t2 HTA HSL HKL
    have HB2 : Hid (Below B w w2) := Lib.hid (HK2.out.below hB (fun x e => (HS.out.wrB x e).1))
    have hB2 : B ≤ w2.heap.size := by have := HB2.out.size; omega
    have HE2 : Hid (q.E = .slice (some ⟨ge, 0, none⟩) s1.en.length ce) := Lib.hid (by rw [HSP2.out, HE.out, HEN.out, HEO.out])
    have d65 : w2.cell? ⟨M, 65, none⟩ = some (.int .i64 (s1.wk.length : Int)) := by rw [HS2.out.at_.c65, HS2.out.cn]
    have d127 := HS2.out.at_.c127
    have f2 := HS2.out.at_.frozen
    have b1 : s1.tr.length + 1 ≤ maxLen := by unfold maxLen; omega
    have b2 : (s1.tr.length + 1) * 8 ≤ 140737488355328 := by omega
    by_cases hw1 : s1.wk.length = 0
    · have t1 : ((s1.wk.length : Int) == 0) = true := by rw [hw1]; rfl
      have t2 : (s1.wk.length : Int) = 0 := by omega
      have HFE : Hid (sF = { s1 with tr := s1.tr ++ [-1] }) := Lib.hid (by rw [← HSF.out]; exact tickP_empty HS1E.out (List.length_eq_zero_iff.1 hw1))
      obtain ⟨w4, hw4⟩ : ∃ w4, w2.alloc (.cells #[.int .i64 (-1)] 3) = w4 := ⟨_, rfl⟩
      have HB4 := Lib.hid (show Below w2.heap.size w2 w4 from hw4 ▸ bl_alloc (Below.refl _ _) _)
      have HS4 := Lib.hid (HS2.out.bel HB4.out)
      have hn4 := Blk.new w2 3 #[.int .i64 (-1)]
      rw [hw4] at hn4
      have HN4 := Lib.hid hn4
      have hB4 : B ≤ w4.heap.size := by have := HB4.out.size; omega
      clear hn4 hw1
      go_wp2_with (at_builtin; refine wpList_append_own_at _ rfl (.tmp 30) (.tmp 31) 27 rfl B 3 i1 _ 1 8 Tryz.underlying27 hi1 hy0 hy1 hy2 rfl (by decide) q.T s1.tr.length (s1.tr.map (Value.int .i64)) rfl (by exact HS4.out.t) ⟨w2.heap.size, 0, none⟩ 1 1 [Value.int .i64 (-1)] rfl rfl (cell_blk HN4.out) (by intro u hu; rw [List.mem_singleton.1 hu]; rfl) b1 b2 hB4 ?_; intro v' w7 hown' hgrow _ hor; have HZ7 := Lib.hid (show OwnZ w7 B v' (s1.tr ++ [-1]) from OwnZ.snoc hown'); have HV7 : Hid (∀ x, v'.ownBlock = some x → q.T.ownBlock = some x ∨ w4.heap.size ≤ x) := Lib.hid (fun x e => by rcases hor with h | h; exact .inl (h ▸ e); right; rw [h] at e; injection e with e; omega); obtain ⟨A7, c7, rfl⟩ := HZ7.out.form; have HS7 := Lib.hid (show PS (w7.setCell ⟨M, 127, none⟩ (.slice A7 (s1.tr.length + 1) c7)) B M A n c Aj nj cj P g F X { s1 with tr := s1.tr ++ [-1] } d { q with T := .slice A7 (s1.tr.length + 1) c7 } from by have h := HS4.out.newT hgrow HZ7.out HV7.out; rw [List.length_append] at h; exact h); have HG7 := Lib.hid hgrow; have p7 := HS4.out.at_.grown hgrow (fun e => HS4.out.tM e.symm); have x127 := p7.c127; have f7 := p7.frozen; clear hown' hgrow hor p7)
      have HX7 : Hid (TickRes ts js (now + 1) B M A n c Aj nj cj P g F X sF w (.returned (.tuple #[])) (w7.setCell ⟨M, 127, none⟩ (.slice A7 (s1.tr.length + 1) c7))) := Lib.hid (by rw [HFE.out]; exact ⟨d, idle_inv HI1.out (-1), _, rfl, HS7.out, ⟨ge, ce, HE2.out⟩, ((blB HB2.out hB2 HB4.out).grown HG7.out hB4 (fun x e => (HS4.out.wrB x (.inr (.inr (.inl e)))).1)).setCell hbM _⟩)
      go_end0
      exact HX7.out
    · have t1 : ((s1.wk.length : Int) == 0) = false := by rw [beq_eq_false_iff_ne]; omega
      have t2 : ¬ (s1.wk.length : Int) = 0 := by omega
      obtain ⟨b, hb⟩ : ∃ b, bestM ts js P s1 = b := ⟨_, rfl⟩
      have hbl : b < s1.wk.length := by
        have := best_le (ltM ts js P s1.hi) (s1.wk.map Prod.fst) (s1.wk.length - 1)
        rw [← hb]
        unfold bestM
        omega
      obtain ⟨⟨k, d0⟩, hk⟩ : ∃ x, s1.wk[b]? = some x := ⟨s1.wk[b], List.getElem?_eq_getElem _⟩
      have hkd := HI1.out.wk (k, d0) (List.mem_of_getElem? hk)
      have hkn : k < js.length := by have := HI1.out.nx; have := hkd.1; dsimp only at this; omega
      have hdk : d k = d0 := hkd.2.2.1.symm
      have hd0 : 0 ≤ d0 ∧ d0 ≤ 20 := by
        have h1 := HI1.out.pos k
        have h2 := hkd.2.2.2
        have h3 := job_ok HV.out hkn
        have h4 := tk_nums h3.2.2.2.2.2.2.2
        dsimp only at h2
        omega
      have HFE : Hid (sF = folM ts js now b k d0 { s1 with tr := s1.tr ++ [(jobOf js k).ta] }) := Lib.hid (by rw [← HSF.out, tickP_full HS1E.out hb hk, close_fol])
      have HIN : Hid (InvM ts js (now + 1) (upG d k) sF) := Lib.hid (by rw [← HSF.out, tickP_full HS1E.out hb hk]; exact run_inv HV.out HI1.out n0 hk)
      have HFI := Lib.hid (iFirst_is w2 B M A n c ts Aj nj cj js P g F X s1 d q hB2 (HT.out.below HB2.out) (HJ.out.below HB2.out) HV.out HS2.out (inv_left HI1.out) z0 z1 z2 z3 (by omega) k (by rw [hb]; simp [List.getD, hk]))
      have HK := Lib.hid hk
      have HDK := Lib.hid hdk
      have HKN := Lib.hid hkn
      clear hw1 hb hk hkd hkn hdk
      go_wp2_with fail
      refine HFI.out.mono ?_
      rintro e w3 ⟨rfl, hb3⟩
      have HB3 := Lib.hid hb3
      have HS3 := Lib.hid (HS2.out.bel hb3)
      have k0 : (0 : Int) ≤ (k : Int) := by omega
      have k60 : (k : Int) < 60 := by have := HKN.out; omega
      have kn60 : k < 60 := by have := HKN.out; omega
      have dd : w3.cell? ⟨M, 66 + k, none⟩ = some (.int .i64 d0) := by rw [HS3.out.at_.done kn60, HS3.out.dn k kn60, HDK.out]
      have f3 := HS3.out.at_.frozen
      have wd : IntKind.i64.wrap (d0 + 1) = d0 + 1 := IntWalk.i64_in _ (by omega)
      clear hb3 HFI d65 d127 f2 t1 t2
      have HSD : Hid (PS (w3.setCell ⟨M, 66 + k, none⟩ (.int .i64 (d0 + 1))) B M A n c Aj nj cj P g F X s1 (upG d k) { q with dn := q.dn.set k (d0 + 1) }) := Lib.hid (HS3.out.cell_ (HS3.out.at_.sDn kn60 (d0 + 1)) rfl rfl rfl rfl rfl rfl HS3.out.mo HS3.out.cm HS3.out.cn HS3.out.lf (fun i hi => by
        dsimp only
        by_cases e : i = k
        · subst e
          rw [getD_set_same _ _ _ (by rw [HS3.out.at_.d]; omega), upG_same, HDK.out]
        · rw [getD_set_other _ _ e, upG_other _ e]
          exact HS3.out.dn i hi) rfl rfl rfl)
      go_wp2_with fail
      go_region
      all_goals (
        obtain ⟨w5, hw5⟩ : ∃ w5, (w3.setCell ⟨M, 66 + k, none⟩ (.int .i64 (d0 + 1))).drew = w5 := ⟨_, rfl⟩
        have HS5 := Lib.hid (show PS w5 B M A n c Aj nj cj P g F X s1 (upG d k) { q with dn := q.dn.set k (d0 + 1) } from hw5 ▸ HSD.out.bel (Below.drew (Below.refl _ _)))
        have HB5 := Lib.hid (show Below B w w5 from hw5 ▸ Below.drew ((blB HB2.out hB2 HB3.out).setCell hbM _))
        try rw [hw5]
        clear HSD hw5 dd f3 wd
        have hB5 : B ≤ w5.heap.size := by have := HB5.out.size; omega
        obtain ⟨⟨ta, tm, ne⟩, hjk⟩ : ∃ j, jobOf js k = j := ⟨_, rfl⟩
        obtain ⟨bj, oj, eA, hbj, a0, a1, a2⟩ := (HJ.out.below HB5.out).at_ k _ (job_get HKN.out)
        rw [hjk] at a0
        dsimp only at a0
        have g1 : w5.cell? ⟨M, 1, none⟩ = some (.slice (some ⟨bj, oj, none⟩) nj cj) := by rw [HS5.out.at_.c1, HS5.out.J, eA]
        have g127 := HS5.out.at_.c127
        dsimp only at g127
        have g127a : (w5.alloc (.cells #[.int .i64 ta] 3)).cell? ⟨M, 127, none⟩ = some q.T := (HS5.out.at_.alloc _).c127
        have kj : (k : Int) < (nj : Int) := by have := HJ.out.len; have := HKN.out; omega
        have HJK := Lib.hid hjk
        clear hjk eA a1 a2
        go_wp2_with fail
        go_region_law
          (first
            | (refine step_append_lies _ (by rfl) (.tmp 53) (.tmp 62) 27 (by rfl) B 3 i1 _ 1 8 Tryz.underlying27 hi1 hy0 hy1 hy2 rfl (by decide) q.T s1.tr.length (s1.tr.map (Value.int .i64)) (by rfl) (by exact (HS5.out.bel (by repeat (first | exact Below.refl _ _ | with_reducible refine Below.drew ?_ | with_reducible refine bl_drewN ?_ _ | with_reducible refine bl_alloc ?_ _))).t) _ 1 1 [Value.int .i64 ta] (by rfl) rfl (cell_blk (Blk.new _ _ _)) (by intro u hu; rw [List.mem_singleton.1 hu]; rfl) (by omega) b1 b2 (by (try simp); omega) _ rfl ?_
               intro g9 cap9 w9 hown9 hgrow9 hat9 hlt9
               have HS9 := Lib.hid (show PS (w9.setCell ⟨M, 127, none⟩ (.slice (some ⟨g9, 0, none⟩) (s1.tr.length + 1) cap9)) B M A n c Aj nj cj P g F X { s1 with tr := s1.tr ++ [ta] } (upG d k) { q with dn := q.dn.set k (d0 + 1), T := .slice (some ⟨g9, 0, none⟩) (s1.tr.length + 1) cap9 } from (HS5.out.bel (by repeat (first | exact Below.refl _ _ | with_reducible refine Below.drew ?_ | with_reducible refine bl_drewN ?_ _ | with_reducible refine bl_alloc ?_ _))).newT hgrow9 (OwnZ.snoc hown9) (fun x e => by injection e with e; subst e; rcases hat9 with h | h; exact .inl h; exact .inr (Nat.le_of_eq h.symm)))
               have HB9 := Lib.hid (show Below B w (w9.setCell ⟨M, 127, none⟩ (.slice (some ⟨g9, 0, none⟩) (s1.tr.length + 1) cap9)) from ((blB HB5.out hB5 (by repeat (first | exact Below.refl _ _ | with_reducible refine Below.drew ?_ | with_reducible refine bl_drewN ?_ _ | with_reducible refine bl_alloc ?_ _))).grown hgrow9 (by (try simp); omega) (fun x e => (HS5.out.wrB x (.inr (.inr (.inl e)))).1)).setCell hbM _)
               have p9 := (HS5.out.bel (by repeat (first | exact Below.refl _ _ | with_reducible refine Below.drew ?_ | with_reducible refine bl_drewN ?_ _ | with_reducible refine bl_alloc ?_ _))).at_.grown hgrow9 (fun e => HS5.out.tM e.symm)
               have x127 := p9.c127
               dsimp only at x127
               have f9 := p9.frozen
               clear hown9 hgrow9 hat9 hlt9 p9))
        all_goals (
          have HFO := Lib.hid (iFollow_is _ B M A n c ts Aj nj cj js P g F X _ _ _ (by have := HB9.out.size; omega) (HT.out.below HB9.out) (HJ.out.below HB9.out) HV.out HS9.out (left_fst (inv_left HI1.out) rfl rfl) HEN.out ge ce HE2.out b k d0 HK.out (by rw [upG_same, HDK.out]) now n0 n1 hsw1)
          have HFE2 : Hid (sF = folM ts js now b k d0 { s1 with tr := s1.tr ++ [ta] }) := Lib.hid (by rw [HFE.out, HJK.out])
          rw [← HFE2.out] at HFO
          have nw : IntKind.i64.wrap (now + 1) = now + 1 := IntWalk.i64_in _ (by omega)
          clear HFE HFE2
          go_wp2_with fail
          refine HFO.out.mono ?_
          rintro e wz ⟨qz, rfl, hsz, hez, hbz⟩
          have HXZ : Hid (TickRes ts js (now + 1) B M A n c Aj nj cj P g F X sF w (.returned (.tuple #[])) wz) := Lib.hid ⟨upG d k, HIN.out, qz, rfl, hsz, hez, HB9.out.trans hbz⟩
          clear hsz hez hbz
          go_wp2
          go_end0
          exact HXZ.out))
  · have t1 : ((s.wk.length : Int) == 0) = false := by rw [beq_eq_false_iff_ne]; omega
    have t2 : ¬ (s.wk.length : Int) = 0 := by omega
    have HW0 := Lib.hid hw0
    have HLS : Hid (lowM s = s) := Lib.hid (by
      have e : s.wk.isEmpty = false := by
        cases hh : s.wk with
        | nil => rw [hh] at hw0; exact absurd rfl hw0
        | cons _ _ => rfl
      unfold lowM
      rw [e]
      simp)
    have HTA : Hid (Calls Tryz.prog 94 #[.pointer (some ⟨M, 0, none⟩), .int .i64 now] w (TakeRes B M A n c Aj nj cj P g F X s1 d p w)) := Lib.hid (by
      have h := iTake_is w B M A n c ts Aj nj cj js P g F X s d p hB HT.out HJ.out HV.out HS.out (by have h := inv_left HLI.out; rw [HLS.out] at h; exact h) HEO.out ge ce HE.out now
      have h2 := HADD.out
      rw [HLS.out] at h2
      rw [h2] at h
      exact h)
    clear hw0
    go_enter Tryz.func48, Tryz.ntmps48
    go_wp2_with fail
    refine HTA.out.mono ?_
    rintro e w2 ⟨q, rfl, hs2, hsp2, hk2⟩
    have HSP2 : Hid (q.E = p.E) := Lib.hid hsp2.E
    have HK2 : Hid (Kp w w2 (Wr M p)) := Lib.hid hk2
    have HS2 := Lib.hid hs2
    clear hs2 hsp2 hk2 c65 c3 f0 t1 t2 HTA
    have HB2 : Hid (Below B w w2) := Lib.hid (HK2.out.below hB (fun x e => (HS.out.wrB x e).1))
    have hB2 : B ≤ w2.heap.size := by have := HB2.out.size; omega
    have HE2 : Hid (q.E = .slice (some ⟨ge, 0, none⟩) s1.en.length ce) := Lib.hid (by rw [HSP2.out, HE.out, HEN.out, HEO.out])
    have d65 : w2.cell? ⟨M, 65, none⟩ = some (.int .i64 (s1.wk.length : Int)) := by rw [HS2.out.at_.c65, HS2.out.cn]
    have d127 := HS2.out.at_.c127
    have f2 := HS2.out.at_.frozen
    have b1 : s1.tr.length + 1 ≤ maxLen := by unfold maxLen; omega
    have b2 : (s1.tr.length + 1) * 8 ≤ 140737488355328 := by omega
    by_cases hw1 : s1.wk.length = 0
    · have t1 : ((s1.wk.length : Int) == 0) = true := by rw [hw1]; rfl
      have t2 : (s1.wk.length : Int) = 0 := by omega
      have HFE : Hid (sF = { s1 with tr := s1.tr ++ [-1] }) := Lib.hid (by rw [← HSF.out]; exact tickP_empty HS1E.out (List.length_eq_zero_iff.1 hw1))
      obtain ⟨w4, hw4⟩ : ∃ w4, w2.alloc (.cells #[.int .i64 (-1)] 3) = w4 := ⟨_, rfl⟩
      have HB4 := Lib.hid (show Below w2.heap.size w2 w4 from hw4 ▸ bl_alloc (Below.refl _ _) _)
      have HS4 := Lib.hid (HS2.out.bel HB4.out)
      have hn4 := Blk.new w2 3 #[.int .i64 (-1)]
      rw [hw4] at hn4
      have HN4 := Lib.hid hn4
      have hB4 : B ≤ w4.heap.size := by have := HB4.out.size; omega
      clear hn4 hw1
      go_wp2_with (at_builtin; refine wpList_append_own_at _ rfl (.tmp 30) (.tmp 31) 27 rfl B 3 i1 _ 1 8 Tryz.underlying27 hi1 hy0 hy1 hy2 rfl (by decide) q.T s1.tr.length (s1.tr.map (Value.int .i64)) rfl (by exact HS4.out.t) ⟨w2.heap.size, 0, none⟩ 1 1 [Value.int .i64 (-1)] rfl rfl (cell_blk HN4.out) (by intro u hu; rw [List.mem_singleton.1 hu]; rfl) b1 b2 hB4 ?_; intro v' w7 hown' hgrow _ hor; have HZ7 := Lib.hid (show OwnZ w7 B v' (s1.tr ++ [-1]) from OwnZ.snoc hown'); have HV7 : Hid (∀ x, v'.ownBlock = some x → q.T.ownBlock = some x ∨ w4.heap.size ≤ x) := Lib.hid (fun x e => by rcases hor with h | h; exact .inl (h ▸ e); right; rw [h] at e; injection e with e; omega); obtain ⟨A7, c7, rfl⟩ := HZ7.out.form; have HS7 := Lib.hid (show PS (w7.setCell ⟨M, 127, none⟩ (.slice A7 (s1.tr.length + 1) c7)) B M A n c Aj nj cj P g F X { s1 with tr := s1.tr ++ [-1] } d { q with T := .slice A7 (s1.tr.length + 1) c7 } from by have h := HS4.out.newT hgrow HZ7.out HV7.out; rw [List.length_append] at h; exact h); have HG7 := Lib.hid hgrow; have p7 := HS4.out.at_.grown hgrow (fun e => HS4.out.tM e.symm); have x127 := p7.c127; have f7 := p7.frozen; clear hown' hgrow hor p7)
      have HX7 : Hid (TickRes ts js (now + 1) B M A n c Aj nj cj P g F X sF w (.returned (.tuple #[])) (w7.setCell ⟨M, 127, none⟩ (.slice A7 (s1.tr.length + 1) c7))) := Lib.hid (by rw [HFE.out]; exact ⟨d, idle_inv HI1.out (-1), _, rfl, HS7.out, ⟨ge, ce, HE2.out⟩, ((blB HB2.out hB2 HB4.out).grown HG7.out hB4 (fun x e => (HS4.out.wrB x (.inr (.inr (.inl e)))).1)).setCell hbM _⟩)
      go_end0
      exact HX7.out
    · have t1 : ((s1.wk.length : Int) == 0) = false := by rw [beq_eq_false_iff_ne]; omega
      have t2 : ¬ (s1.wk.length : Int) = 0 := by omega
      obtain ⟨b, hb⟩ : ∃ b, bestM ts js P s1 = b := ⟨_, rfl⟩
      have hbl : b < s1.wk.length := by
        have := best_le (ltM ts js P s1.hi) (s1.wk.map Prod.fst) (s1.wk.length - 1)
        rw [← hb]
        unfold bestM
        omega
      obtain ⟨⟨k, d0⟩, hk⟩ : ∃ x, s1.wk[b]? = some x := ⟨s1.wk[b], List.getElem?_eq_getElem _⟩
      have hkd := HI1.out.wk (k, d0) (List.mem_of_getElem? hk)
      have hkn : k < js.length := by have := HI1.out.nx; have := hkd.1; dsimp only at this; omega
      have hdk : d k = d0 := hkd.2.2.1.symm
      have hd0 : 0 ≤ d0 ∧ d0 ≤ 20 := by
        have h1 := HI1.out.pos k
        have h2 := hkd.2.2.2
        have h3 := job_ok HV.out hkn
        have h4 := tk_nums h3.2.2.2.2.2.2.2
        dsimp only at h2
        omega
      have HFE : Hid (sF = folM ts js now b k d0 { s1 with tr := s1.tr ++ [(jobOf js k).ta] }) := Lib.hid (by rw [← HSF.out, tickP_full HS1E.out hb hk, close_fol])
      have HIN : Hid (InvM ts js (now + 1) (upG d k) sF) := Lib.hid (by rw [← HSF.out, tickP_full HS1E.out hb hk]; exact run_inv HV.out HI1.out n0 hk)
      have HFI := Lib.hid (iFirst_is w2 B M A n c ts Aj nj cj js P g F X s1 d q hB2 (HT.out.below HB2.out) (HJ.out.below HB2.out) HV.out HS2.out (inv_left HI1.out) z0 z1 z2 z3 (by omega) k (by rw [hb]; simp [List.getD, hk]))
      have HK := Lib.hid hk
      have HDK := Lib.hid hdk
      have HKN := Lib.hid hkn
      clear hw1 hb hk hkd hkn hdk
      go_wp2_with fail
      refine HFI.out.mono ?_
      rintro e w3 ⟨rfl, hb3⟩
      have HB3 := Lib.hid hb3
      have HS3 := Lib.hid (HS2.out.bel hb3)
      have k0 : (0 : Int) ≤ (k : Int) := by omega
      have k60 : (k : Int) < 60 := by have := HKN.out; omega
      have kn60 : k < 60 := by have := HKN.out; omega
      have dd : w3.cell? ⟨M, 66 + k, none⟩ = some (.int .i64 d0) := by rw [HS3.out.at_.done kn60, HS3.out.dn k kn60, HDK.out]
      have f3 := HS3.out.at_.frozen
      have wd : IntKind.i64.wrap (d0 + 1) = d0 + 1 := IntWalk.i64_in _ (by omega)
      clear hb3 HFI d65 d127 f2 t1 t2
      have HSD : Hid (PS (w3.setCell ⟨M, 66 + k, none⟩ (.int .i64 (d0 + 1))) B M A n c Aj nj cj P g F X s1 (upG d k) { q with dn := q.dn.set k (d0 + 1) }) := Lib.hid (HS3.out.cell_ (HS3.out.at_.sDn kn60 (d0 + 1)) rfl rfl rfl rfl rfl rfl HS3.out.mo HS3.out.cm HS3.out.cn HS3.out.lf (fun i hi => by
        dsimp only
        by_cases e : i = k
        · subst e
          rw [getD_set_same _ _ _ (by rw [HS3.out.at_.d]; omega), upG_same, HDK.out]
        · rw [getD_set_other _ _ e, upG_other _ e]
          exact HS3.out.dn i hi) rfl rfl rfl)
      go_wp2_with fail
      go_region
      all_goals (
        obtain ⟨w5, hw5⟩ : ∃ w5, (w3.setCell ⟨M, 66 + k, none⟩ (.int .i64 (d0 + 1))).drew = w5 := ⟨_, rfl⟩
        have HS5 := Lib.hid (show PS w5 B M A n c Aj nj cj P g F X s1 (upG d k) { q with dn := q.dn.set k (d0 + 1) } from hw5 ▸ HSD.out.bel (Below.drew (Below.refl _ _)))
        have HB5 := Lib.hid (show Below B w w5 from hw5 ▸ Below.drew ((blB HB2.out hB2 HB3.out).setCell hbM _))
        try rw [hw5]
        clear HSD hw5 dd f3 wd
        have hB5 : B ≤ w5.heap.size := by have := HB5.out.size; omega
        obtain ⟨⟨ta, tm, ne⟩, hjk⟩ : ∃ j, jobOf js k = j := ⟨_, rfl⟩
        obtain ⟨bj, oj, eA, hbj, a0, a1, a2⟩ := (HJ.out.below HB5.out).at_ k _ (job_get HKN.out)
        rw [hjk] at a0
        dsimp only at a0
        have g1 : w5.cell? ⟨M, 1, none⟩ = some (.slice (some ⟨bj, oj, none⟩) nj cj) := by rw [HS5.out.at_.c1, HS5.out.J, eA]
        have g127 := HS5.out.at_.c127
        dsimp only at g127
        have g127a : (w5.alloc (.cells #[.int .i64 ta] 3)).cell? ⟨M, 127, none⟩ = some q.T := (HS5.out.at_.alloc _).c127
        have kj : (k : Int) < (nj : Int) := by have := HJ.out.len; have := HKN.out; omega
        have HJK := Lib.hid hjk
        clear hjk eA a1 a2
        go_wp2_with fail
        go_region_law
          (first
            | (refine step_append_lies _ (by rfl) (.tmp 53) (.tmp 62) 27 (by rfl) B 3 i1 _ 1 8 Tryz.underlying27 hi1 hy0 hy1 hy2 rfl (by decide) q.T s1.tr.length (s1.tr.map (Value.int .i64)) (by rfl) (by exact (HS5.out.bel (by repeat (first | exact Below.refl _ _ | with_reducible refine Below.drew ?_ | with_reducible refine bl_drewN ?_ _ | with_reducible refine bl_alloc ?_ _))).t) _ 1 1 [Value.int .i64 ta] (by rfl) rfl (cell_blk (Blk.new _ _ _)) (by intro u hu; rw [List.mem_singleton.1 hu]; rfl) (by omega) b1 b2 (by (try simp); omega) _ rfl ?_
               intro g9 cap9 w9 hown9 hgrow9 hat9 hlt9
               have HS9 := Lib.hid (show PS (w9.setCell ⟨M, 127, none⟩ (.slice (some ⟨g9, 0, none⟩) (s1.tr.length + 1) cap9)) B M A n c Aj nj cj P g F X { s1 with tr := s1.tr ++ [ta] } (upG d k) { q with dn := q.dn.set k (d0 + 1), T := .slice (some ⟨g9, 0, none⟩) (s1.tr.length + 1) cap9 } from (HS5.out.bel (by repeat (first | exact Below.refl _ _ | with_reducible refine Below.drew ?_ | with_reducible refine bl_drewN ?_ _ | with_reducible refine bl_alloc ?_ _))).newT hgrow9 (OwnZ.snoc hown9) (fun x e => by injection e with e; subst e; rcases hat9 with h | h; exact .inl h; exact .inr (Nat.le_of_eq h.symm)))
               have HB9 := Lib.hid (show Below B w (w9.setCell ⟨M, 127, none⟩ (.slice (some ⟨g9, 0, none⟩) (s1.tr.length + 1) cap9)) from ((blB HB5.out hB5 (by repeat (first | exact Below.refl _ _ | with_reducible refine Below.drew ?_ | with_reducible refine bl_drewN ?_ _ | with_reducible refine bl_alloc ?_ _))).grown hgrow9 (by (try simp); omega) (fun x e => (HS5.out.wrB x (.inr (.inr (.inl e)))).1)).setCell hbM _)
               have p9 := (HS5.out.bel (by repeat (first | exact Below.refl _ _ | with_reducible refine Below.drew ?_ | with_reducible refine bl_drewN ?_ _ | with_reducible refine bl_alloc ?_ _))).at_.grown hgrow9 (fun e => HS5.out.tM e.symm)
               have x127 := p9.c127
               dsimp only at x127
               have f9 := p9.frozen
               clear hown9 hgrow9 hat9 hlt9 p9))
        all_goals (
          have HFO := Lib.hid (iFollow_is _ B M A n c ts Aj nj cj js P g F X _ _ _ (by have := HB9.out.size; omega) (HT.out.below HB9.out) (HJ.out.below HB9.out) HV.out HS9.out (left_fst (inv_left HI1.out) rfl rfl) HEN.out ge ce HE2.out b k d0 HK.out (by rw [upG_same, HDK.out]) now n0 n1 hsw1)
          have HFE2 : Hid (sF = folM ts js now b k d0 { s1 with tr := s1.tr ++ [ta] }) := Lib.hid (by rw [HFE.out, HJK.out])
          rw [← HFE2.out] at HFO
          have nw : IntKind.i64.wrap (now + 1) = now + 1 := IntWalk.i64_in _ (by omega)
          clear HFE HFE2
          go_wp2_with fail
          refine HFO.out.mono ?_
          rintro e wz ⟨qz, rfl, hsz, hez, hbz⟩
          have HXZ : Hid (TickRes ts js (now + 1) B M A n c Aj nj cj P g F X sF w (.returned (.tuple #[])) wz) := Lib.hid ⟨upG d k, HIN.out, qz, rfl, hsz, hez, HB9.out.trans hbz⟩
          clear hsz hez hbz
          go_wp2
          go_end0
          exact HXZ.out))
end Go.Proofs.YtgponahmkjohiabGreatDoor

namespace Go.Proofs.YtgponahmkjohiabGreatDoor
open Go.RowKit
set_option linter.unusedVariables false
theorem rp_mask (a : Nat) (ha : a < 18446744073709551616) : bits .and .u64 (a : Int) 4294967295 = ((a % 4294967296 : Nat) : Int) := by
  have h := bits_and_u64_nat a 4294967295 ha (by omega)
  rw [show a &&& 4294967295 = a % 4294967296 from Nat.and_two_pow_sub_one_eq_mod a 32] at h
  exact h
theorem rp_div (a : Nat) : (a : Int) / 4294967296 = ((a / 4294967296 : Nat) : Int) := by omega
theorem rp_mul (a b : Nat) : (a : Int) * (b : Int) = ((a * b : Nat) : Int) := (Int.natCast_mul a b).symm
theorem rp_add (a b : Nat) : (a : Int) + (b : Int) = ((a + b : Nat) : Int) := (Int.natCast_add a b).symm
theorem rp_wrap (a : Nat) (ha : a < 18446744073709551616) : IntKind.u64.wrap (a : Int) = (a : Int) := by rw [IntKind.wrap_u64]; omega
theorem rp_wrapM (a : Nat) : IntKind.u64.wrap (a : Int) = ((a % 18446744073709551616 : Nat) : Int) := by rw [IntKind.wrap_u64]; omega
set_option maxHeartbeats 2000000 in
theorem mul64_is (x y : Nat) (hx : x < 18446744073709551616) (hy : y < 18446744073709551616) (w : World) :
    Calls Tryz.prog 154 #[.int .u64 x, .int .u64 y] w fun e w' => e = .returned (.tuple #[.int .u64 ((x * y / 18446744073709551616 : Nat) : Int), .int .u64 ((x * y % 18446744073709551616 : Nat) : Int)]) ∧ w = w' := by
  obtain ⟨bd, bt, bw, hhi⟩ := Lib.mul64_hi x y hx hy
  have ba := Lib.half_mul_le (a := x / 4294967296) (b := y / 4294967296) (by omega) (by omega)
  have bb := Lib.half_mul_le (a := x / 4294967296) (b := y % 4294967296) (by omega) (by omega)
  have bc := Lib.half_mul_le (a := x % 4294967296) (b := y / 4294967296) (by omega) (by omega)
  have ba' : x / 4294967296 * (y / 4294967296) < 18446744073709551616 := by omega
  have bb' : x / 4294967296 * (y % 4294967296) < 18446744073709551616 := by omega
  have bc' : x % 4294967296 * (y / 4294967296) < 18446744073709551616 := by omega
  have bh1 : x / 4294967296 * (y / 4294967296) + (x / 4294967296 * (y % 4294967296) + x % 4294967296 * (y % 4294967296) / 4294967296) / 4294967296 < 18446744073709551616 := by omega
  have bh : x / 4294967296 * (y / 4294967296) + (x / 4294967296 * (y % 4294967296) + x % 4294967296 * (y % 4294967296) / 4294967296) / 4294967296 + ((x / 4294967296 * (y % 4294967296) + x % 4294967296 * (y % 4294967296) / 4294967296) % 4294967296 + x % 4294967296 * (y / 4294967296)) / 4294967296 < 18446744073709551616 := by omega
  go_enter Tryz.func154, Tryz.ntmps154
  go_wp2
  simp only [rp_mask x hx, rp_mask y hy, rp_div, rp_mul, rp_add, rp_wrap _ bd, rp_wrap _ bb', rp_wrap _ bt, rp_mask _ bt, rp_wrap _ bc', rp_wrap _ bw, rp_wrap _ ba', rp_wrap _ bh1, rp_wrap _ bh, rp_wrapM (x * y)]
  rw [hhi]
  go_ret2
  exact ⟨rfl, rfl⟩
theorem mul_is (x y : Nat) (hx : x < 18446744073709551616) (hy : y < 18446744073709551616) (w : World) :
    Calls Tryz.prog 129 #[.int .u64 x, .int .u64 y] w fun e w' => e = .returned (.tuple #[.int .u64 ((x * y / 18446744073709551616 : Nat) : Int), .int .u64 ((x * y % 18446744073709551616 : Nat) : Int)]) ∧ w = w' := by
  have c64 := mul64_is x y hx hy w
  go_enter Tryz.func129, Tryz.ntmps129
  go_wp2_with (go_at_call 154; refine c64.mono ?_; rintro e w' ⟨rfl, rfl⟩)
  go_ret2
  exact ⟨rfl, rfl⟩
theorem mul_one_is (y : Nat) (hy : y ≤ 60) (w : World) :
    Calls Tryz.prog 129 #[.int .u64 1, .int .u64 y] w fun e w' => e = .returned (.tuple #[.int .u64 0, .int .u64 (y : Int)]) ∧ w = w' := by
  have h := mul_is 1 y (by omega) (by omega) w
  have e1 : 1 * y / 18446744073709551616 = 0 := by omega
  have e2 : 1 * y % 18446744073709551616 = y := by omega
  rw [e1, e2] at h
  exact h
/-- What Repeat leaves: a list of the call's own. -/
def RepRes (n : Nat) (w : World) (e : Ending) (w' : World) : Prop :=
  ∃ g : Nat, e = .returned (.slice (some ⟨g, 0, none⟩) n n) ∧ OwnZ w' w.heap.size (.slice (some ⟨g, 0, none⟩) n n) (List.replicate n (-1)) ∧ Below w.heap.size w w'
def rowR (n m : Nat) : List Value := List.replicate m (Value.int .i64 (-1)) ++ List.replicate (n - m) (Value.int .i64 0)
theorem rowR_len {n m : Nat} (h : m ≤ n) : (rowR n m).length = n := by unfold rowR; simp; omega
theorem rowR_one {n m : Nat} (h : m ≤ n) : (List.replicate n (Value.int .i64 0)) = rowR n 0 := by unfold rowR; simp
theorem rowR_splice {n m j : Nat} (h : m + j ≤ n) : splice (rowR n m) m (List.replicate j (Value.int .i64 (-1))) = rowR n (m + j) := by
  unfold splice rowR
  rw [List.take_append_of_le_length (by simp), List.length_replicate, List.take_of_length_le (by simp), List.drop_append, List.length_replicate, List.drop_eq_nil_of_le (by simp), List.nil_append, ← List.append_assoc, List.replicate_append_replicate, List.drop_replicate]
  congr 2
  omega
theorem made_zero (n : Nat) : madeCells (Value.cells (.int .i64 0)) n = (List.replicate n (Value.int .i64 0)).toArray := by
  refine Array.ext' ?_
  show ((Array.range n).map _).toList = _
  rw [Array.toList_map, Array.toList_range]
  have : ∀ i : Nat, (Value.cells (.int .i64 0))[i % (Value.cells (.int .i64 0)).size]! = Value.int .i64 0 := fun i => by
    have e : (Value.cells (.int .i64 0)) = #[.int .i64 0] := rfl
    rw [e]
    have e2 : i % (#[Value.int .i64 0] : Array Value).size = 0 := Nat.mod_one i
    rw [e2]
    rfl
  rw [show (fun x => (Value.cells (.int .i64 0))[x % (Value.cells (.int .i64 0)).size]!) = fun _ => Value.int .i64 0 from funext this]
  refine List.ext_getElem? fun i => ?_
  simp [List.getElem?_replicate]
  by_cases h : i < n <;> simp [h]
set_option maxRecDepth 100000 in
set_option maxHeartbeats 4000000 in
theorem iRepeat_is (w : World) (X n : Nat) (hX : Blk w X 3 #[.int .i64 (-1)]) (hn : n ≤ 60) :
    Calls Tryz.prog 89 #[.slice (some ⟨X, 0, none⟩) 1 1, .int .i64 (n : Int)] w (RepRes n w) := by
  obtain ⟨i1, hi1, hy0, hy1, hy2⟩ := info_parts info_int
  have hmk := run_make (P := Tryz.prog) w 27 3 i1 _ Tryz.underlying27 hi1 hy0 .i64 .i64 (n : Int) (n : Int) (by omega) (Int.le_refl _) (by rw [hy2]; omega) (by omega)
  rw [Int.toNat_natCast, hy1, Nat.mul_one, made_zero] at hmk
  obtain ⟨W1, hW1⟩ : ∃ W1, w.alloc (.cells (List.replicate n (Value.int .i64 0)).toArray 3) = W1 := ⟨_, rfl⟩
  rw [hW1] at hmk
  have hb1 : Below w.heap.size w W1 := hW1 ▸ bl_alloc (Below.refl _ _) _
  have hg1 : Blk W1 w.heap.size 3 (List.replicate n (Value.int .i64 0)).toArray := hW1 ▸ Blk.new w _ _
  rw [rowR_one (Nat.zero_le n)] at hg1
  have hX1 := hX.below hb1 hX.lt
  have c0 : W1.cell? ⟨X, 0, none⟩ = some (.int .i64 (-1)) := hX1.cell 0
  have HMUL := Lib.hid (mul_one_is n hn w)
  have HB1 := Lib.hid hb1
  have HG1 := Lib.hid hg1
  have HX1 := Lib.hid hX1
  have n0 : (0 : Int) ≤ (n : Int) := by omega
  have n1 : ¬ (n : Int) < 0 := by omega
  have n2 : ¬ (9223372036854775807 : Int) < (n : Int) := by omega
  have n2' : decide ((9223372036854775807 : Int) < (n : Int)) = false := decide_eq_false n2
  have n3 : IntKind.u64.wrap (n : Int) = (n : Int) := rp_wrap n (by omega)
  have n4 : IntKind.i64.wrap (n : Int) = (n : Int) := IntWalk.i64_in _ (by omega)
  clear hX hb1 hg1 hX1 hW1
  go_enter Tryz.func89, Tryz.ntmps89
  go_wp2_with fail
  refine HMUL.out.mono ?_
  rintro e w2 ⟨rfl, rfl⟩
  obtain ⟨cs, hcs⟩ : ∃ cs, cs = List.replicate (min 1 n) (Value.int .i64 (-1)) := ⟨_, rfl⟩
  have hcl : cs.length = min 1 n := by rw [hcs, List.length_replicate]
  have hc1 : ∀ u ∈ cs, u = Value.int .i64 (-1) := fun u hu => by rw [hcs] at hu; exact (List.mem_replicate.1 hu).2
  have HCS := Lib.hid hcs
  have HCL := Lib.hid hcl
  have HC1 := Lib.hid hc1
  have hcn : cs.length ≤ n := by omega
  have hcp : 0 < n → 0 < cs.length := by omega
  have HCN := Lib.hid hcn
  have HCP := Lib.hid hcp
  clear hcs hcl hc1 HMUL hcn hcp
  have HSRC : Hid (∀ j v, cs[j]? = some v → W1.cell? ((⟨X, 0, none⟩ : Addr).add j) = some v) := Lib.hid (fun j v hv => by
    have hj : j < cs.length := (List.getElem?_eq_some_iff.1 hv).1
    have h0 : j = 0 := by have := HCL.out; omega
    subst h0
    rw [add_at, HC1.out v (List.mem_of_getElem? hv)]
    exact HX1.out.cell 0)
  have HMIN : Hid (cs.length = Nat.min 1 n) := Lib.hid HCL.out
  have HFIT : Hid (0 + cs.length ≤ (rowR n 0).length) := Lib.hid (by rw [rowR_len (Nat.zero_le n)]; have := HCN.out; omega)
  have HONE : Hid (∀ u ∈ cs, u.oneCell' = true) := Lib.hid (fun u hu => by rw [HC1.out u hu]; rfl)
  have HSZ : (Tryz.prog.info? 3).map (·.size) = some 1 := by rw [hi1]; exact congrArg some hy1
  have HSZZ := Lib.hid HSZ
  have HSPL : Hid (splice (rowR n 0) 0 cs = rowR n cs.length) := Lib.hid (by
    have e : cs.length = min 1 n := HCL.out
    rw [HCS.out, rowR_splice (by omega), Nat.zero_add, List.length_replicate])
  clear HSZ
  go_wp2_with (refine wpList_copy_splice rfl (.tmp 31) (.tmp 32) 27 27 rfl 3 Tryz.underlying27 HSZZ.out (some ⟨w.heap.size, 0, none⟩) (some ⟨X, 0, none⟩) n n 1 1 rfl rfl w.heap.size 0 (rowR n 0) 3 HG1.out cs HMIN.out (fun _ => ⟨rfl, _, rfl, HSRC.out⟩) HFIT.out HONE.out w.heap.size w HB1.out (Nat.le_refl _) ?_; intro w3 hg3 hb3; have HG3 : Hid (Blk w3 w.heap.size 3 (rowR n cs.length).toArray) := Lib.hid (by have h := hg3.out; rw [HSPL.out] at h; exact h); have HB3 := Lib.hid hb3; clear hg3 hb3)
  go_wp2
  go_loopw [8] (fun v wr => ∃ m : Nat, m ≤ n ∧ (0 < n → 0 < m) ∧ v = .int .i64 m ∧ Hid (Blk wr w.heap.size 3 (rowR n m).toArray) ∧ Hid (Below w.heap.size w wr)) (fun v _ => n - (intOf v).toNat)
  case atStart => exact ⟨cs.length, HCN.out, HCP.out, rfl, HG3, HB3⟩
  case round =>
    obtain ⟨m, hm, hmp, rfl, HGR, HBR⟩ := hrel
    by_cases hlt : m < n
    · have m1 : (m : Int) < (n : Int) := by omega
      have m0 : (0 : Int) ≤ (m : Int) := by omega
      have m2 : (m : Int) ≤ (n : Int) := by omega
      have m3 : ¬ n = m := by omega
      obtain ⟨xs, hxs⟩ : ∃ xs, xs = List.replicate (min m (n - m)) (Value.int .i64 (-1)) := ⟨_, rfl⟩
      have hxl : xs.length = min m (n - m) := by rw [hxs, List.length_replicate]
      have hx1 : ∀ u ∈ xs, u = Value.int .i64 (-1) := fun u hu => by rw [hxs] at hu; exact (List.mem_replicate.1 hu).2
      have hxb : m + xs.length ≤ n := by omega
      have hxp : 0 < xs.length := by omega
      have XMIN : Hid (xs.length = Nat.min m (n - m)) := Lib.hid hxl
      have XFIT : Hid (m + xs.length ≤ (rowR n m).length) := Lib.hid (by rw [rowR_len hm]; exact hxb)
      have XONE : Hid (∀ u ∈ xs, u.oneCell' = true) := Lib.hid (fun u hu => by rw [hx1 u hu]; rfl)
      have XSPL : Hid (splice (rowR n m) m xs = rowR n (m + xs.length)) := Lib.hid (by rw [hxs, rowR_splice (by omega), List.length_replicate])
      have XSRC : Hid (∀ j v, xs[j]? = some v → wr.drew.cell? ((⟨w.heap.size, 0, none⟩ : Addr).add j) = some v) := Lib.hid (fun j v hv => by
        have hj : j < xs.length := (List.getElem?_eq_some_iff.1 hv).1
        rw [add_at, hx1 v (List.mem_of_getElem? hv), Nat.zero_add]
        refine (HGR.out.cell j).trans ?_
        rw [List.getElem?_toArray]
        unfold rowR
        rw [List.getElem?_append_left (by rw [List.length_replicate]; omega), List.getElem?_replicate, if_pos (by omega)])
      have hw1 : IntKind.i64.wrap ((m : Int) + (xs.length : Int)) = (m : Int) + (xs.length : Int) := IntWalk.i64_in _ (by omega)
      have XB := Lib.hid hxb
      have XP := Lib.hid hxp
      clear hxs hxl hx1 hxb hxp hm hmp
      go_wp2
      go_region_law (first | (refine step_copy_splice (by rfl) (.tmp 41) (.tmp 44) 27 27 (by rfl) 3 Tryz.underlying27 HSZZ.out (some ⟨w.heap.size, m, none⟩) (some ⟨w.heap.size, 0, none⟩) (n - m) (n - m) m n (by rfl) (by rfl) w.heap.size m (rowR n m) 3 HGR.out.drew xs XMIN.out (fun _ => ⟨rfl, _, rfl, XSRC.out⟩) XFIT.out XONE.out w.heap.size w (Below.drew HBR.out) (Nat.le_refl _) ?_; intro w5 hg5 hb5; have HG5 : Hid (Blk w5 w.heap.size 3 (rowR n (m + xs.length)).toArray) := Lib.hid (by have h := hg5.out; rw [XSPL.out] at h; exact h); have HB5 := Lib.hid hb5; clear hg5 hb5))
      all_goals (
        have hxb := XB.out
        have hxp := XP.out
        (try simp only [Act.put, Option.bind_some, Array.getElem?_toArray, List.getElem?_cons_zero, List.getElem?_cons_succ, List.setIfInBounds_toArray, List.set_cons_zero, List.set_cons_succ])
        (try go_simp)
        go_wp2
        go_roundw
        case rel => exact ⟨m + xs.length, hxb, fun _ => by omega, by go_num, HG5, HB5⟩
        case measure => simp [intOf]; omega)
    · obtain rfl : m = n := by omega
      have HO : Hid (OwnZ wr w.heap.size (.slice (some ⟨w.heap.size, 0, none⟩) m m) (List.replicate m (-1))) := Lib.hid (by
        have hb := HGR.out
        have e : rowR m m = (List.replicate m (-1)).map (Value.int .i64) := by unfold rowR; simp
        rw [e] at hb
        refine ⟨by simp, .inr ⟨w.heap.size, m, _, by simp, Nat.le_refl _, hb, by simp, by unfold maxLen; omega, by simp, by simp⟩⟩)
      have e1 : ¬ (m : Int) < (m : Int) := by omega
      have HX : Hid (RepRes m w (.returned (.slice (some ⟨w.heap.size, 0, none⟩) m m)) wr) := Lib.hid ⟨_, rfl, HO.out, HBR.out⟩
      clear hmp hm hlt
      go_wp2
      go_ret
      exact HX.out
end Go.Proofs.YtgponahmkjohiabGreatDoor
