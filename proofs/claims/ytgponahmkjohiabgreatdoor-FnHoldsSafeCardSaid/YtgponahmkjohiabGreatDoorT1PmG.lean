import Derived.Deep.RegionWith
import Derived.Test.YtgponahmkjohiabGreatDoorT1Pk9
namespace Go.Proofs.YtgponahmkjohiabGreatDoor
open Go.RowKit
set_option linter.unusedVariables false
/-- What drop$1 leaves. -/
def Dr1Res (B ge : Nat) (E : Value) (en : List Int) (b : Bool) (w : World) (e : Ending) (w' : World) : Prop := e = .returned (.bool (!b)) ∧ OwnZ w' B E en ∧ Kp w w' (fun x => x = ge)
theorem OwnZ.kp {w w' : World} {B : Nat} {v : Value} {zs : List Int} {S : Nat → Prop} (h : OwnZ w B v zs) (hk : Kp w w' S) (hn : ∀ x, v.ownBlock = some x → ¬ S x) : OwnZ w' B v zs := ownsRow_kp h hk hn
theorem kp_of_bel {w w' : World} {S : Nat → Prop} (hb : Below w.heap.size w w') : Kp w w' S := (Kp.refl w S).bel hb
set_option maxRecDepth 100000 in
set_option maxHeartbeats 4000000 in
theorem drop1_is (w : World) (B M Xb : Nat) (p : Pm) (A : Option Addr) (n c : Nat) (ts : List Tk) (Aj : Option Addr) (nj cj : Nat) (js : List Jb) (hB : B ≤ w.heap.size) (hT : Tks w B A n ts) (hJ : Jbs w B Aj nj js) (hp : PAt w M p) (hL : p.L = .slice A n c) (hJv : p.J = .slice Aj nj cj) (hv : jobsB ts js = true) (hi : Bool) (hmo : p.mo = moV hi)
    (hX : Blk w Xb 72 #[.pointer (some ⟨M, 0, none⟩)]) (ge ce : Nat) (en : List Int) (hE : p.E = .slice (some ⟨ge, 0, none⟩) en.length ce) (he : OwnZ w B p.E en) (hen : en.length = js.length) (k : Nat) (hk : k < js.length) (b : Bool) (hb : (hi && !(tkJ ts js k).cr) = b) (en' : List Int) (hen' : (if b then en.set k (-2) else en) = en') :
    Calls Tryz.prog 155 (#[.int .i64 (k : Int)] ++ #[.pointer (some ⟨Xb, 0, none⟩)]) w (Dr1Res B ge p.E en' b w) := by
  have HTO : Hid (∀ W : World, Below w.heap.size w W → Calls Tryz.prog 140 #[.pointer (some ⟨M, 0, none⟩), .int .i64 (k : Int)] W fun e w' => e = .returned (tkV (tkJ ts js k)) ∧ Below W.heap.size W w') := Lib.hid (fun W hbW => iTaskOf_is W B M p A n c ts Aj nj cj js (by have := hbW.size; omega) (hT.below (hbW.mono hB)) (hJ.below (hbW.mono hB)) (hp.bel hbW) hL hJv hv k hk)
  have HP := Lib.hid hp
  have HP0 := Lib.hid hp
  have HX := Lib.hid hX
  have HMO := Lib.hid hmo
  have HEV := Lib.hid hE
  have HE := Lib.hid he
  have HE1 : Hid (OwnZ w B (.slice (some ⟨ge, 0, none⟩) en.length ce) en) := Lib.hid (by rw [← hE]; exact he)
  have k0 : (0 : Int) ≤ (k : Int) := by omega
  have k1 : (k : Int) < (en.length : Int) := by omega
  have x0 : w.cell? ⟨Xb, 0, none⟩ = some (.pointer (some ⟨M, 0, none⟩)) := hX.cell 0
  have x3 : w.cell? ⟨M, 3, none⟩ = some (moV hi) := by rw [hp.c3, hmo]
  obtain ⟨t, ht⟩ : ∃ t, tkJ ts js k = t := ⟨_, rfl⟩
  rw [ht] at hb HTO
  clear hp hX hmo hE he hT hJ hv hL hJv ht hen
  cases hi
  · obtain rfl : b = false := by rw [← hb]; rfl
    obtain rfl : en = en' := hen'
    clear hb
    simp only [moV] at x3 HMO
    have hm := m_drL
    go_enter Tryz.func155, Tryz.ntmps155
    go_wp2
    go_region_held3 (fun W => W.cell? ⟨Xb, 0, none⟩ = some (.pointer (some ⟨M, 0, none⟩)) ∧ W.cell? ⟨M, 3, none⟩ = some (.iface 124 (.agg #[]))) (first | assumption | (simp [go_sem, *]; done))
      ((first
        | (have uu := HP; clear uu; go_at_call 140; refine (HTO.out _ (by repeat (first | exact Below.refl _ _ | with_reducible refine Below.drew ?_ | with_reducible refine bl_drewN ?_ _))).mono ?_; rintro e w2 ⟨rfl, hb⟩; have HB2 := Lib.hid (show Below w.heap.size w w2 from bl_trans (by repeat (first | exact Below.refl _ _ | with_reducible refine Below.drew ?_ | with_reducible refine bl_drewN ?_ _)) hb); have HP2 := Lib.hid (HP.out.bel HB2.out); have y0 : w2.cell? ⟨Xb, 0, none⟩ = some (.pointer (some ⟨M, 0, none⟩)) := (HX.out.below HB2.out HX.out.lt).cell 0; have y3 : w2.cell? ⟨M, 3, none⟩ = some (.iface 124 (.agg #[])) := HP2.out.c3.trans (congrArg some HMO.out); clear HP hb x0 x3)
        | (have uu := HP2; clear uu; go_at_call 187; refine (drL_is _ _).mono ?_; rintro e w3 ⟨rfl, hb⟩; have HB3 := Lib.hid (show Below w.heap.size w w3 from bl_trans HB2.out (bl_trans (by repeat (first | exact Below.refl _ _ | with_reducible refine Below.drew ?_ | with_reducible refine bl_drewN ?_ _)) hb)); have HP3 := Lib.hid (HP0.out.bel HB3.out); have z0 : w3.cell? ⟨Xb, 0, none⟩ = some (.pointer (some ⟨M, 0, none⟩)) := (HX.out.below HB3.out HX.out.lt).cell 0; have z3 : w3.cell? ⟨M, 3, none⟩ = some (.iface 124 (.agg #[])) := HP3.out.c3.trans (congrArg some HMO.out); have z126 : w3.cell? ⟨M, 126, none⟩ = some (.slice (some ⟨ge, 0, none⟩) en.length ce) := HP3.out.c126.trans (congrArg some HEV.out); clear HP2 hb y0 y3)))
    all_goals (
      go_wp2
      go_ret
      exact ⟨rfl, HE.out.below (by repeat (first | exact HB3.out | refine bl_drewN ?_ _ | refine Below.drew ?_)), kp_of_bel (by repeat (first | exact HB3.out | refine bl_drewN ?_ _ | refine Below.drew ?_))⟩)
  · cases hc : t.cr
    · obtain rfl : b = true := by rw [← hb, hc]; rfl
      obtain rfl : en.set k (-2) = en' := hen'
      have HC := Lib.hid hc
      clear hb hc
      simp only [moV] at x3 HMO
      have hm := m_drH
      go_enter Tryz.func155, Tryz.ntmps155
      go_wp2
      go_region_held3 (fun W => W.cell? ⟨Xb, 0, none⟩ = some (.pointer (some ⟨M, 0, none⟩)) ∧ W.cell? ⟨M, 3, none⟩ = some (.iface 162 (.agg #[]))) (first | assumption | (simp [go_sem, *]; done))
        ((first
          | (have uu := HP; clear uu; go_at_call 140; refine (HTO.out _ (by repeat (first | exact Below.refl _ _ | with_reducible refine Below.drew ?_ | with_reducible refine bl_drewN ?_ _))).mono ?_; rintro e w2 ⟨rfl, hb⟩; have HB2 := Lib.hid (show Below w.heap.size w w2 from bl_trans (by repeat (first | exact Below.refl _ _ | with_reducible refine Below.drew ?_ | with_reducible refine bl_drewN ?_ _)) hb); have HP2 := Lib.hid (HP.out.bel HB2.out); have y0 : w2.cell? ⟨Xb, 0, none⟩ = some (.pointer (some ⟨M, 0, none⟩)) := (HX.out.below HB2.out HX.out.lt).cell 0; have y3 : w2.cell? ⟨M, 3, none⟩ = some (.iface 162 (.agg #[])) := HP2.out.c3.trans (congrArg some HMO.out); clear HP hb x0 x3)
          | (have uu := HP2; clear uu; go_at_call 191; refine (drH_is _ _ true (by rw [HC.out]; rfl)).mono ?_; rintro e w3 ⟨rfl, hb⟩; have HB3 := Lib.hid (show Below w.heap.size w w3 from bl_trans HB2.out (bl_trans (by repeat (first | exact Below.refl _ _ | with_reducible refine Below.drew ?_ | with_reducible refine bl_drewN ?_ _)) hb)); have HP3 := Lib.hid (HP0.out.bel HB3.out); have z0 : w3.cell? ⟨Xb, 0, none⟩ = some (.pointer (some ⟨M, 0, none⟩)) := (HX.out.below HB3.out HX.out.lt).cell 0; have z3 : w3.cell? ⟨M, 3, none⟩ = some (.iface 162 (.agg #[])) := HP3.out.c3.trans (congrArg some HMO.out); have z126 : w3.cell? ⟨M, 126, none⟩ = some (.slice (some ⟨ge, 0, none⟩) en.length ce) := HP3.out.c126.trans (congrArg some HEV.out); clear HP2 hb y0 y3)))
      all_goals (
        have HE3 : Hid (OwnZ w3 B (.slice (some ⟨ge, 0, none⟩) en.length ce) en) := Lib.hid (HE1.out.below HB3.out)
        have ff := HE3.out.frozen
        have gk := HE3.out.celld (j := k) (by omega)
        have HZ := Lib.hid (show OwnZ (w3.setCell ⟨ge, k, none⟩ (.int .i64 (-2))) B p.E (en.set k (-2)) by rw [HEV.out]; exact HE3.out.put k (-2))
        have HK := Lib.hid (show Kp w (w3.setCell ⟨ge, k, none⟩ (.int .i64 (-2))) (fun x => x = ge) from Kp.set (S := fun x => x = ge) (a := ⟨ge, k, none⟩) (kp_of_bel HB3.out) (.inl rfl) _)
        go_wp2
        go_ret
        exact ⟨rfl, by first | exact HZ.out | exact HZ.out.drewM, by first | exact HK.out | exact HK.out.drew⟩)
    · obtain rfl : b = false := by rw [← hb, hc]; rfl
      obtain rfl : en = en' := hen'
      have HC := Lib.hid hc
      clear hb hc
      simp only [moV] at x3 HMO
      have hm := m_drH
      go_enter Tryz.func155, Tryz.ntmps155
      go_wp2
      go_region_held3 (fun W => W.cell? ⟨Xb, 0, none⟩ = some (.pointer (some ⟨M, 0, none⟩)) ∧ W.cell? ⟨M, 3, none⟩ = some (.iface 162 (.agg #[]))) (first | assumption | (simp [go_sem, *]; done))
        ((first
          | (have uu := HP; clear uu; go_at_call 140; refine (HTO.out _ (by repeat (first | exact Below.refl _ _ | with_reducible refine Below.drew ?_ | with_reducible refine bl_drewN ?_ _))).mono ?_; rintro e w2 ⟨rfl, hb⟩; have HB2 := Lib.hid (show Below w.heap.size w w2 from bl_trans (by repeat (first | exact Below.refl _ _ | with_reducible refine Below.drew ?_ | with_reducible refine bl_drewN ?_ _)) hb); have HP2 := Lib.hid (HP.out.bel HB2.out); have y0 : w2.cell? ⟨Xb, 0, none⟩ = some (.pointer (some ⟨M, 0, none⟩)) := (HX.out.below HB2.out HX.out.lt).cell 0; have y3 : w2.cell? ⟨M, 3, none⟩ = some (.iface 162 (.agg #[])) := HP2.out.c3.trans (congrArg some HMO.out); clear HP hb x0 x3)
          | (have uu := HP2; clear uu; go_at_call 191; refine (drH_is _ _ false (by rw [HC.out]; rfl)).mono ?_; rintro e w3 ⟨rfl, hb⟩; have HB3 := Lib.hid (show Below w.heap.size w w3 from bl_trans HB2.out (bl_trans (by repeat (first | exact Below.refl _ _ | with_reducible refine Below.drew ?_ | with_reducible refine bl_drewN ?_ _)) hb)); have HP3 := Lib.hid (HP0.out.bel HB3.out); have z0 : w3.cell? ⟨Xb, 0, none⟩ = some (.pointer (some ⟨M, 0, none⟩)) := (HX.out.below HB3.out HX.out.lt).cell 0; have z3 : w3.cell? ⟨M, 3, none⟩ = some (.iface 162 (.agg #[])) := HP3.out.c3.trans (congrArg some HMO.out); have z126 : w3.cell? ⟨M, 126, none⟩ = some (.slice (some ⟨ge, 0, none⟩) en.length ce) := HP3.out.c126.trans (congrArg some HEV.out); clear HP2 hb y0 y3)))
      all_goals (
        go_wp2
        go_ret
        exact ⟨rfl, HE.out.below (by repeat (first | exact HB3.out | refine bl_drewN ?_ _ | refine Below.drew ?_)), kp_of_bel (by repeat (first | exact HB3.out | refine bl_drewN ?_ _ | refine Below.drew ?_))⟩)
/-- What drop leaves: those that are left are of critical tasks where needs are high. -/
def DropRes (B M : Nat) (p : Pm) (en : List Int) (wk : List (Nat × Int)) (ge : Nat) (w : World) (e : Ending) (w' : World) : Prop :=
  ∃ lf : List Int, e = .returned (.tuple #[]) ∧ PAt w' M { p with lf := lf, cn := wk.length } ∧ lf.take wk.length = wk.map fI ∧ OwnZ w' B p.E en ∧ Kp w w' (fun x => x = ge ∨ x = M)
def DrI (w : World) (B M Xb ge : Nat) (E : Value) (f : Nat → List Int) (i : Nat) (W : World) : Prop := OwnZ W B E (f i) ∧ Kp w W (fun x => x = ge ∨ x = M) ∧ Blk W Xb 72 #[.pointer (some ⟨M, 0, none⟩)]
def dropF (ts : List Tk) (js : List Jb) (hi : Bool) (en : List Int) (wk : List (Nat × Int)) (i : Nat) : List Int := if hi then dropE ts js en (wk.take i) else en
theorem dropF_len (ts : List Tk) (js : List Jb) (hi : Bool) (en : List Int) (wk : List (Nat × Int)) (i : Nat) : (dropF ts js hi en wk i).length = en.length := by
  unfold dropF
  split
  · exact drop_len ts js _ _
  · rfl
theorem dropF_step {ts : List Tk} {js : List Jb} {hi : Bool} {en : List Int} {wk : List (Nat × Int)} {i : Nat} {q : Nat × Int} (h : wk[i]? = some q) : dropF ts js hi en wk (i + 1) = if hi && !(tkJ ts js q.1).cr then (dropF ts js hi en wk i).set q.1 (-2) else dropF ts js hi en wk i := by
  unfold dropF
  cases hi
  · simp
  · rw [if_pos rfl, drop_step ts js en h]
    cases (tkJ ts js q.1).cr <;> simp
def stayD (ts : List Tk) (js : List Jb) (hi : Bool) (z : Int) : Bool := !(hi && !(tkJ ts js z.toNat).cr)
theorem stay_map (ts : List Tk) (js : List Jb) (hi : Bool) (wk : List (Nat × Int)) : (wk.map fI).filter (stayD ts js hi) = (if hi then wk.filter (fun q => (tkJ ts js q.1).cr) else wk).map fI := by
  rw [List.filter_map]
  congr 1
  cases hi
  · rw [if_neg (by decide)]
    exact List.filter_eq_self.2 (fun q _ => by simp [stayD])
  · rw [if_pos rfl]
    refine List.filter_congr fun q _ => ?_
    simp [stayD, fI]
set_option maxRecDepth 100000 in
set_option maxHeartbeats 4000000 in
theorem iDrop_is (w : World) (B M : Nat) (p : Pm) (A : Option Addr) (n c : Nat) (ts : List Tk) (Aj : Option Addr) (nj cj : Nat) (js : List Jb) (hB : B ≤ w.heap.size) (hT : Tks w B A n ts) (hJ : Jbs w B Aj nj js) (hp : PAt w M p) (bM : B ≤ M) (hL : p.L = .slice A n c) (hJv : p.J = .slice Aj nj cj) (hv : jobsB ts js = true) (hi : Bool) (hmo : p.mo = moV hi)
    (ge ce : Nat) (en : List Int) (hE : p.E = .slice (some ⟨ge, 0, none⟩) en.length ce) (he : OwnZ w B p.E en) (hen : en.length = js.length) (hgM : ge ≠ M) (wk : List (Nat × Int)) (hcn : p.cn = wk.length) (hlf : p.lf.take wk.length = wk.map fI) (hwk : ∀ q, q ∈ wk → q.1 < js.length) (hw60 : wk.length ≤ 60) :
    Calls Tryz.prog 136 #[.pointer (some ⟨M, 0, none⟩)] w (DropRes B M p (dropF ts js hi en wk wk.length) (if hi then wk.filter (fun q => (tkJ ts js q.1).cr) else wk) ge w) := by
  obtain ⟨W1, hW1⟩ : ∃ W1, w.alloc (.cells #[.pointer (some ⟨M, 0, none⟩)] 72) = W1 := ⟨_, rfl⟩
  have hb1 : Below w.heap.size w W1 := hW1 ▸ bl_alloc (Below.refl _ _) _
  have hX1 : Blk W1 w.heap.size 72 #[.pointer (some ⟨M, 0, none⟩)] := hW1 ▸ Blk.new w _ _
  have hgl : B ≤ ge ∧ ge < w.heap.size := by have h := he; rw [hE] at h; exact h.lt
  have hMl := hp.lt
  have hs1 := hb1.size
  have hK := iPlKeep_is W1 M 155 #[.pointer (some ⟨w.heap.size, 0, none⟩)] p (stayD ts js hi) (DrI w B M w.heap.size ge p.E (dropF ts js hi en wk)) (hp.bel hb1) (by omega)
    (enters_of Tryz.func155 (by kernel_rfl) rfl)
    ⟨by
      have e : dropF ts js hi en wk 0 = en := by unfold dropF; split <;> simp [dropE]
      rw [e]
      exact he.below hb1, kp_of_bel hb1, hX1⟩
    (fun i W j u h => ⟨h.1.kp (S := fun x => x = M) (Kp.set (S := fun x => x = M) (a := ⟨M, j, none⟩) (Kp.refl W _) (.inl rfl) u) (fun x e1 e2 => by rw [hE] at e1; injection e1 with e1; exact hgM (e1.trans e2)), h.2.1.set (a := ⟨M, j, none⟩) (.inl (.inr rfl)) _, h.2.2.far (by dsimp only; omega) _⟩)
    (fun i W W' h hb => ⟨h.1.below hb, h.2.1.bel hb, h.2.2.below hb h.2.2.lt⟩)
    (fun i lf W hi' h hpW => by
      obtain ⟨q, hq⟩ : ∃ q, wk[i]? = some q := ⟨wk[i]'(by omega), List.getElem?_eq_getElem _⟩
      have hz : p.lf.getD i 0 = (q.1 : Int) := by
        have h1 : (p.lf.take wk.length)[i]? = some (fI q) := by rw [hlf, List.getElem?_map, hq]; rfl
        rw [List.getElem?_take, if_pos (by omega)] at h1
        simp [List.getD, h1, fI]
      rw [hz]
      have hbW : Below B w W := h.2.1.below hB (fun x hx => by rcases hx with rfl | rfl; exact hgl.1; exact bM)
      have hq1 := hwk q (List.mem_of_getElem? hq)
      have hd := drop1_is W B M w.heap.size { p with lf := lf } A n c ts Aj nj cj js (by have := hbW.size; omega) (hT.below hbW) (hJ.below hbW) hpW hL hJv hv hi hmo h.2.2 ge ce (dropF ts js hi en wk i) (by rw [dropF_len]; exact hE) h.1 (by rw [dropF_len]; exact hen) q.1 hq1 _ rfl _ rfl
      refine hd.mono ?_
      rintro e W' ⟨rfl, ho, hk⟩
      refine ⟨by simp [stayD], ⟨by rw [dropF_step hq]; exact ho, ?_, ?_⟩, ?_⟩
      · exact h.2.1.trans hk (fun x e => .inl (.inl e))
      · exact h.2.2.kp hk (by omega)
      · exact hpW.kp hk (fun e => hgM e.symm))
  have HK := Lib.hid hK
  have HX : Hid (∀ lf w', PAt w' M { p with lf := lf, cn := ((p.lf.take p.cn).filter (stayD ts js hi)).length } → lf.take ((p.lf.take p.cn).filter (stayD ts js hi)).length = (p.lf.take p.cn).filter (stayD ts js hi) → DrI w B M w.heap.size ge p.E (dropF ts js hi en wk) p.cn w' → DropRes B M p (dropF ts js hi en wk wk.length) (if hi then wk.filter (fun q => (tkJ ts js q.1).cr) else wk) ge w (.returned (.tuple #[])) w') := Lib.hid (fun lf w' h1 h2 h3 => by
    rw [hcn, hlf, stay_map] at h1 h2
    rw [List.length_map] at h1 h2
    rw [hcn] at h3
    exact ⟨lf, rfl, h1, h2, h3.1, h3.2.1⟩)
  have c0 : W1.cell? ⟨w.heap.size, 0, none⟩ = some (.pointer (some ⟨M, 0, none⟩)) := hX1.cell 0
  generalize dropF ts js hi en wk wk.length = en2 at HX ⊢
  generalize (if hi then wk.filter (fun q => (tkJ ts js q.1).cr) else wk) = wk2 at HX ⊢
  clear hK hp hX1 hb1 hT hJ hL hJv hv hmo hE he hcn hlf hwk
  go_enter Tryz.func136, Tryz.ntmps136
  go_wp2_with fail
  refine HK.out.mono ?_
  rintro e w2 ⟨lf, rfl, h1, h2, h3⟩
  have HY := Lib.hid (HX.out lf w2 h1 h2 h3)
  clear h1 h2 h3 c0 HX HK
  go_wp2
  go_end0
  exact HY.out
end Go.Proofs.YtgponahmkjohiabGreatDoor
