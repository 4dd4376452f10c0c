import Derived.LoopTactic
import Derived.Deep.AppendLies
import Derived.Test.YtgponahmkjohiabGreatDoorT1Pk7
import Derived.Test.YtgponahmkjohiabGreatDoorT1NF
namespace Go.Proofs.YtgponahmkjohiabGreatDoor
open Go.RowKit
set_option linter.unusedVariables false
def dueF (F X : Nat) : Value := .func (.func 134) #[] #[.pointer (some ⟨F, 0, none⟩), .pointer (some ⟨X, 0, none⟩)]
/-- The order's blocks: g holds its keys; by deadlines, F the factor and X where the machine is. -/
structure OrdP (w : World) (M : Nat) (O : Value) (P : Po) (g F X : Nat) : Prop where
  place : P.due = false → O = .slice (some ⟨g, 0, none⟩) 2 2 ∧ Blk w g 126 #[.func (.func 90) #[] #[], .func (.func 91) #[] #[]]
  dead : P.due = true → O = .slice (some ⟨g, 0, none⟩) 3 3 ∧ Blk w g 126 #[dueF F X, .func (.func 90) #[] #[], .func (.func 91) #[] #[]] ∧ Blk w F 87 #[.int .i64 P.xn, .int .i64 P.xd] ∧ Blk w X 72 #[.pointer (some ⟨M, 0, none⟩)]
  lt : g < w.heap.size ∧ F < w.heap.size ∧ X < w.heap.size
theorem OrdP.bel {w w' : World} {M : Nat} {O : Value} {P : Po} {g F X : Nat} (h : OrdP w M O P g F X) (hb : Below w.heap.size w w') : OrdP w' M O P g F X := by
  refine ⟨fun e => ?_, fun e => ?_, ?_⟩
  · obtain ⟨a, b⟩ := h.place e
    exact ⟨a, b.below hb b.lt⟩
  · obtain ⟨a, b, c, d⟩ := h.dead e
    exact ⟨a, b.below hb b.lt, c.below hb c.lt, d.below hb d.lt⟩
  · have := hb.size; have := h.lt; omega
theorem OrdP.kp {w w' : World} {M : Nat} {O : Value} {P : Po} {g F X : Nat} {S : Nat → Prop} (h : OrdP w M O P g F X) (hb : Kp w w' S) (hg : ¬ S g) (hF : ¬ S F) (hX : ¬ S X) : OrdP w' M O P g F X := by
  refine ⟨fun e => ?_, fun e => ?_, ?_⟩
  · obtain ⟨a, b⟩ := h.place e
    exact ⟨a, b.kp hb hg⟩
  · obtain ⟨a, b, c, d⟩ := h.dead e
    exact ⟨a, b.kp hb hg, c.kp hb hF, d.kp hb hX⟩
  · have := hb.size; have := h.lt; omega
theorem key_du (ts : List Tk) (P : Po) (hi : Bool) (j : Jb) : keyJ ts P hi j = j.tm * P.xd + duB hi (tkOf ts j.ta) P.xn P.xd := by
  unfold keyJ duB
  split
  · rw [Int.mul_comm P.xn]
  · rw [Int.add_mul]
set_option maxRecDepth 100000 in
set_option maxHeartbeats 4000000 in
theorem dueK_is (w : World) (B M F X : Nat) (p : Pm) (A : Option Addr) (n c : Nat) (ts : List Tk) (hB : B ≤ w.heap.size) (hT : Tks w B A n ts) (hs : setB ts = true) (hp : PAt w M p) (hL : p.L = .slice A n c) (hi : Bool) (hmo : p.mo = moV hi) (P : Po) (x0 : 0 ≤ P.xn) (x1 : P.xn ≤ 1000000000) (y0 : 0 ≤ P.xd) (y1 : P.xd ≤ 1000000000)
    (hF : Blk w F 87 #[.int .i64 P.xn, .int .i64 P.xd]) (hX : Blk w X 72 #[.pointer (some ⟨M, 0, none⟩)]) (j : Jb) (j1 : 0 ≤ j.ta) (j2 : j.ta < ts.length) (j3 : 0 ≤ j.tm) (j4 : j.tm ≤ 200) (r : Int) (hr : keyJ ts P hi j = r) :
    Calls Tryz.prog 134 (#[.agg #[.int .i64 j.ta, .int .i64 j.tm, .int .i64 j.ne]] ++ #[.pointer (some ⟨F, 0, none⟩), .pointer (some ⟨X, 0, none⟩)]) w fun e w' => e = .returned (.int .i64 r) ∧ Below w.heap.size w w' := by
  obtain ⟨ta, tm, ne⟩ := j
  dsimp only at j1 j2 j3 j4 hr ⊢
  obtain ⟨q, rfl⟩ := Int.eq_ofNat_of_zero_le j1
  have hql : q < ts.length := by omega
  obtain ⟨t, ht⟩ : ∃ t, ts[q]? = some t := ⟨ts[q], List.getElem?_eq_getElem _⟩
  have etk : tkOf ts (q : Int) = t := tkOf_get ht
  have hok : t.ok = true := set_ok hs (List.mem_of_getElem? ht)
  have hn := tk_nums hok
  obtain ⟨bt, ot, rfl, hbt, hta⟩ := hT.at_ q t ht
  have hqn : q < n := by have := hT.len; omega
  obtain ⟨xn, xd, hxn, hxd⟩ : ∃ xn xd, P.xn = xn ∧ P.xd = xd := ⟨_, _, rfl, rfl⟩
  obtain ⟨W1, hW1⟩ : ∃ W1, w.alloc (.cells #[.int .i64 (q : Int), .int .i64 tm, .int .i64 ne] 46) = W1 := ⟨_, rfl⟩
  have hb1 : Below w.heap.size w W1 := hW1 ▸ bl_alloc (Below.refl _ _) _
  have hJ1 : Blk W1 w.heap.size 46 #[.int .i64 (q : Int), .int .i64 tm, .int .i64 ne] := hW1 ▸ Blk.new w _ _
  have hp1 := hp.bel hb1
  have hF1 := hF.below hb1 hF.lt
  have hX1 := hX.below hb1 hX.lt
  rw [hxn, hxd] at hF1
  rw [hxn] at x0
  rw [hxd] at y0
  rw [hxn] at x1
  rw [hxd] at y1
  rw [key_du, etk, hxn, hxd] at hr
  dsimp only at hr
  obtain ⟨du2, hdu2⟩ : ∃ d, duB hi t xn xd = d := ⟨_, rfl⟩
  have hdb : 0 ≤ du2 ∧ du2 ≤ 20000000000 := by
    rw [← hdu2]
    unfold duB
    have e1 : 0 ≤ t.du * xn ∧ t.du * xn ≤ 20 * 1000000000 := ⟨Int.mul_nonneg (by omega) x0, Int.mul_le_mul (by omega) x1 x0 (by omega)⟩
    have e2 : 0 ≤ t.du * xd ∧ t.du * xd ≤ 20 * 1000000000 := ⟨Int.mul_nonneg (by omega) y0, Int.mul_le_mul (by omega) y1 y0 (by omega)⟩
    split <;> omega
  have hm1 : 0 ≤ tm * xd ∧ tm * xd ≤ 200 * 1000000000 := ⟨Int.mul_nonneg j3 y0, Int.mul_le_mul j4 y1 y0 (by omega)⟩
  rw [hdu2] at hr
  have HR := Lib.hid hr
  have HDU := Lib.hid hdu2
  have hw1 : IntKind.i64.wrap (tm * xd) = tm * xd := IntWalk.i64_in _ (by omega)
  have hw2 : IntKind.i64.wrap (tm * xd + du2) = tm * xd + du2 := IntWalk.i64_in _ (by omega)
  have t0 : 0 ≤ t.du := by omega
  have t1 : t.du ≤ 20 := by omega
  have c0 : W1.cell? ⟨M, 0, none⟩ = some (.slice (some ⟨bt, ot, none⟩) n c) := by rw [hp1.c0, hL]
  have hta1 := hta.keep (w' := W1) (fun i => hb1.cell (p := ⟨bt, i, none⟩) (by dsimp only; omega))
  obtain ⟨u0, u1, u2, u3, u4⟩ := hta1
  have x0c : W1.cell? ⟨X, 0, none⟩ = some (.pointer (some ⟨M, 0, none⟩)) := hX1.cell 0
  have f0 : W1.cell? ⟨F, 0, none⟩ = some (.int .i64 xn) := hF1.cell 0
  have f1 : W1.cell? ⟨F, 1, none⟩ = some (.int .i64 xd) := hF1.cell 1
  have k0 : W1.cell? ⟨w.heap.size, 0, none⟩ = some (.int .i64 (q : Int)) := hJ1.cell 0
  have k1 : W1.cell? ⟨w.heap.size, 1, none⟩ = some (.int .i64 tm) := hJ1.cell 1
  have q0 : (0 : Int) ≤ (q : Int) := by omega
  have q1 : (q : Int) < (n : Int) := by omega
  have lM : M < W1.heap.size := hp1.lt
  have lX : X < W1.heap.size := hX1.lt
  have lF : F < W1.heap.size := hF1.lt
  have lJ : w.heap.size < W1.heap.size := hJ1.lt
  have lT : bt < W1.heap.size := by have := hb1.size; omega
  have HB1 := Lib.hid hb1
  have HP1 := Lib.hid hp1
  obtain ⟨lo, hh, du, ev, cr⟩ := t
  dsimp only at u0 u1 u2 u3 u4 t0 t1
  clear hp hT hX hF hJ1 hF1 hX1 hb1 hta ht hs hok hn etk hr hdu2 hdb hm1 hxn hxd hql hqn hbt j1 j2
  cases hi
  · have c3 : W1.cell? ⟨M, 3, none⟩ = some (.iface 124 (.agg #[])) := by rw [hp1.c3, hmo]; rfl
    have hm := m_duL
    clear hp1 hmo hL
    go_enter Tryz.func134, Tryz.ntmps134
    go_wp2
    go_region_held3 (fun W => W.cell? ⟨M, 0, none⟩ = some (.slice (some ⟨bt, ot, none⟩) n c) ∧ W.cell? ⟨M, 3, none⟩ = some (.iface 124 (.agg #[])) ∧ W.cell? ⟨X, 0, none⟩ = some (.pointer (some ⟨M, 0, none⟩)) ∧ W.cell? ⟨F, 0, none⟩ = some (.int .i64 xn) ∧ W.cell? ⟨F, 1, none⟩ = some (.int .i64 xd) ∧ W.cell? ⟨w.heap.size, 0, none⟩ = some (.int .i64 (q : Int)) ∧ W.cell? ⟨w.heap.size, 1, none⟩ = some (.int .i64 tm) ∧ W.cell? ⟨bt, ot + q * 5, none⟩ = some (.int .i64 lo) ∧ W.cell? ⟨bt, ot + q * 5 + 1, none⟩ = some (.int .i64 hh) ∧ W.cell? ⟨bt, ot + q * 5 + 2, none⟩ = some (.int .i64 du) ∧ W.cell? ⟨bt, ot + q * 5 + 3, none⟩ = some (.int .i64 ev) ∧ W.cell? ⟨bt, ot + q * 5 + 4, none⟩ = some (.bool cr)) (first | assumption | (simp [go_sem, *]; done))
      ((first
        | (go_at_call 188; refine (duL_is _ ⟨lo, hh, du, ev, cr⟩ xn xd t0 t1 x0 x1 y0 y1).mono ?_; rw [HDU.out]; rintro e w2 ⟨rfl, hb⟩; have HD := Lib.hid (show Below W1.heap.size W1 w2 from bl_trans (by repeat (first | exact Below.refl _ _ | with_reducible refine Below.drew ?_ | with_reducible refine bl_drewN ?_ _)) hb); have zc0 := (HD.out.cell (p := ⟨M, 0, none⟩) lM).trans c0; have zc3 := (HD.out.cell (p := ⟨M, 3, none⟩) lM).trans c3; have zx0c := (HD.out.cell (p := ⟨X, 0, none⟩) lX).trans x0c; have zf0 := (HD.out.cell (p := ⟨F, 0, none⟩) lF).trans f0; have zf1 := (HD.out.cell (p := ⟨F, 1, none⟩) lF).trans f1; have zk0 := (HD.out.cell (p := ⟨w.heap.size, 0, none⟩) lJ).trans k0; have zk1 := (HD.out.cell (p := ⟨w.heap.size, 1, none⟩) lJ).trans k1; have zu0 := (HD.out.cell (p := ⟨bt, ot + q * 5, none⟩) lT).trans u0; have zu1 := (HD.out.cell (p := ⟨bt, ot + q * 5 + 1, none⟩) lT).trans u1; have zu2 := (HD.out.cell (p := ⟨bt, ot + q * 5 + 2, none⟩) lT).trans u2; have zu3 := (HD.out.cell (p := ⟨bt, ot + q * 5 + 3, none⟩) lT).trans u3; have zu4 := (HD.out.cell (p := ⟨bt, ot + q * 5 + 4, none⟩) lT).trans u4; clear hb c0 c3 x0c f0 f1 k0 k1 u0 u1 u2 u3 u4)))
    all_goals (
      go_wp2
      go_ret
      exact ⟨by rw [← HR.out]; rfl, (by repeat (first | exact (HB1.out.trans (HD.out.mono HB1.out.size)) | refine bl_drewN ?_ _ | refine Below.drew ?_))⟩)
  · have c3 : W1.cell? ⟨M, 3, none⟩ = some (.iface 162 (.agg #[])) := by rw [hp1.c3, hmo]; rfl
    have hm := m_duH
    clear hp1 hmo hL
    go_enter Tryz.func134, Tryz.ntmps134
    go_wp2
    go_region_held3 (fun W => W.cell? ⟨M, 0, none⟩ = some (.slice (some ⟨bt, ot, none⟩) n c) ∧ W.cell? ⟨M, 3, none⟩ = some (.iface 162 (.agg #[])) ∧ W.cell? ⟨X, 0, none⟩ = some (.pointer (some ⟨M, 0, none⟩)) ∧ W.cell? ⟨F, 0, none⟩ = some (.int .i64 xn) ∧ W.cell? ⟨F, 1, none⟩ = some (.int .i64 xd) ∧ W.cell? ⟨w.heap.size, 0, none⟩ = some (.int .i64 (q : Int)) ∧ W.cell? ⟨w.heap.size, 1, none⟩ = some (.int .i64 tm) ∧ W.cell? ⟨bt, ot + q * 5, none⟩ = some (.int .i64 lo) ∧ W.cell? ⟨bt, ot + q * 5 + 1, none⟩ = some (.int .i64 hh) ∧ W.cell? ⟨bt, ot + q * 5 + 2, none⟩ = some (.int .i64 du) ∧ W.cell? ⟨bt, ot + q * 5 + 3, none⟩ = some (.int .i64 ev) ∧ W.cell? ⟨bt, ot + q * 5 + 4, none⟩ = some (.bool cr)) (first | assumption | (simp [go_sem, *]; done))
      ((first
        | (go_at_call 192; refine (duH_is _ ⟨lo, hh, du, ev, cr⟩ xn xd t0 t1 y0 y1).mono ?_; rw [HDU.out]; rintro e w2 ⟨rfl, hb⟩; have HD := Lib.hid (show Below W1.heap.size W1 w2 from bl_trans (by repeat (first | exact Below.refl _ _ | with_reducible refine Below.drew ?_ | with_reducible refine bl_drewN ?_ _)) hb); have zc0 := (HD.out.cell (p := ⟨M, 0, none⟩) lM).trans c0; have zc3 := (HD.out.cell (p := ⟨M, 3, none⟩) lM).trans c3; have zx0c := (HD.out.cell (p := ⟨X, 0, none⟩) lX).trans x0c; have zf0 := (HD.out.cell (p := ⟨F, 0, none⟩) lF).trans f0; have zf1 := (HD.out.cell (p := ⟨F, 1, none⟩) lF).trans f1; have zk0 := (HD.out.cell (p := ⟨w.heap.size, 0, none⟩) lJ).trans k0; have zk1 := (HD.out.cell (p := ⟨w.heap.size, 1, none⟩) lJ).trans k1; have zu0 := (HD.out.cell (p := ⟨bt, ot + q * 5, none⟩) lT).trans u0; have zu1 := (HD.out.cell (p := ⟨bt, ot + q * 5 + 1, none⟩) lT).trans u1; have zu2 := (HD.out.cell (p := ⟨bt, ot + q * 5 + 2, none⟩) lT).trans u2; have zu3 := (HD.out.cell (p := ⟨bt, ot + q * 5 + 3, none⟩) lT).trans u3; have zu4 := (HD.out.cell (p := ⟨bt, ot + q * 5 + 4, none⟩) lT).trans u4; clear hb c0 c3 x0c f0 f1 k0 k1 u0 u1 u2 u3 u4)))
    all_goals (
      go_wp2
      go_ret
      exact ⟨by rw [← HR.out]; rfl, (by repeat (first | exact (HB1.out.trans (HD.out.mono HB1.out.size)) | refine bl_drewN ?_ _ | refine Below.drew ?_))⟩)
/-- dueKey: a closure that knows where the factor and the machine lie. -/
def DueKRes (M : Nat) (xn xd : Int) (w : World) (e : Ending) (w' : World) : Prop := ∃ F X, e = .returned (dueF F X) ∧ Blk w' F 87 #[.int .i64 xn, .int .i64 xd] ∧ Blk w' X 72 #[.pointer (some ⟨M, 0, none⟩)] ∧ w.heap.size ≤ F ∧ w.heap.size ≤ X ∧ Below w.heap.size w w'
set_option maxHeartbeats 2000000 in
theorem iDueKey_is (w : World) (M : Nat) (xn xd : Int) : Calls Tryz.prog 93 #[.pointer (some ⟨M, 0, none⟩), .agg #[.int .i64 xn, .int .i64 xd]] w (DueKRes M xn xd w) := by
  have h1 : Blk ((w.alloc (.cells #[.pointer (some ⟨M, 0, none⟩)] 72)).alloc (.cells #[.int .i64 xn, .int .i64 xd] 87)) w.heap.size 72 #[.pointer (some ⟨M, 0, none⟩)] := (Blk.new w _ _).alloc _
  have h2 : Blk ((w.alloc (.cells #[.pointer (some ⟨M, 0, none⟩)] 72)).alloc (.cells #[.int .i64 xn, .int .i64 xd] 87)) (w.heap.size + 1) 87 #[.int .i64 xn, .int .i64 xd] := by simpa using Blk.new (w.alloc (.cells #[.pointer (some ⟨M, 0, none⟩)] 72)) 87 #[.int .i64 xn, .int .i64 xd]
  have HX : Hid (DueKRes M xn xd w (.returned (dueF (w.heap.size + 1) w.heap.size)) ((w.alloc (.cells #[.pointer (some ⟨M, 0, none⟩)] 72)).alloc (.cells #[.int .i64 xn, .int .i64 xd] 87))) := Lib.hid ⟨_, _, rfl, h2, h1, by omega, by omega, bl_alloc (bl_alloc (Below.refl _ _) _) _⟩
  clear h1 h2
  go_enter Tryz.func93, Tryz.ntmps93
  go_wp2
  go_ret
  exact HX.out
theorem befP1 {ta tm te sa sm se : Int} (h : ¬ ta = sa) : (.returned (.bool (decide (ta < sa))) : Ending) = .returned (.bool (placeB ⟨ta, tm, te⟩ ⟨sa, sm, se⟩)) := by unfold placeB; dsimp only; rw [decide_eq_false h]; simp
theorem befP2 {ta tm te sa sm se : Int} (h : ta = sa) (h2 : ¬ tm = sm) : (.returned (.bool (decide (tm < sm))) : Ending) = .returned (.bool (placeB ⟨ta, tm, te⟩ ⟨sa, sm, se⟩)) := by unfold placeB; dsimp only; subst h; simp
theorem befP3 {ta tm te sa sm se : Int} (h : ta = sa) (h2 : tm = sm) : (.returned (.bool false) : Ending) = .returned (.bool (placeB ⟨ta, tm, te⟩ ⟨sa, sm, se⟩)) := by unfold placeB; dsimp only; subst h h2; simp
theorem befD0 {ts : List Tk} {P : Po} {hi : Bool} {a b : Jb} {x y : Int} (hP : P.due = true) (hx : keyJ ts P hi a = x) (hy : keyJ ts P hi b = y) (h : ¬ x = y) : (.returned (.bool (decide (x < y))) : Ending) = .returned (.bool (firstB ts P hi a b)) := by unfold firstB; rw [hP, if_pos rfl, hx, hy, decide_eq_false h]; simp
theorem befDp {ts : List Tk} {P : Po} {hi : Bool} {a b : Jb} {x y : Int} (hP : P.due = true) (hx : keyJ ts P hi a = x) (hy : keyJ ts P hi b = y) (h : x = y) : firstB ts P hi a b = placeB a b := by unfold firstB; rw [hP, if_pos rfl, hx, hy, decide_eq_true h]; subst h; simp
theorem befPp {ts : List Tk} {P : Po} {hi : Bool} {a b : Jb} (hP : P.due = false) : firstB ts P hi a b = placeB a b := by unfold firstB; rw [hP]; rfl
set_option maxRecDepth 100000 in
set_option maxHeartbeats 4000000 in
theorem befPl_is (w : World) (g : Nat) (ho : Blk w g 126 #[.func (.func 90) #[] #[], .func (.func 91) #[] #[]]) (ta tm te sa sm se : Int) (b : Bool) (hb : placeB ⟨ta, tm, te⟩ ⟨sa, sm, se⟩ = b) :
    Calls Tryz.prog 55 #[.slice (some ⟨g, 0, none⟩) 2 2, .agg #[.int .i64 ta, .int .i64 tm, .int .i64 te], .agg #[.int .i64 sa, .int .i64 sm, .int .i64 se]] w (BRes b w) := by
  have HO := Lib.hid ho
  have HOL := Lib.hid ho.lt
  clear ho
  have HV := Lib.hid hb
  clear hb
  go_enter Tryz.func55, Tryz.ntmps55
  go_wp2
  go_loopw [13] (fun i wr => ∃ k : Nat, k ≤ 2 ∧ i = .int .i64 k ∧ Hid (1 ≤ k → ta = sa) ∧ Hid (2 ≤ k → tm = sm) ∧ Hid (Below w.heap.size w wr) ∧ Hid (Blk wr w.heap.size 46 #[.int .i64 ta, .int .i64 tm, .int .i64 te]) ∧ Hid (Blk wr (w.heap.size + 1) 46 #[.int .i64 sa, .int .i64 sm, .int .i64 se])) (fun i _ => 2 - (intOf i).toNat)
  case atStart => exact ⟨0, by omega, rfl, Lib.hid (by omega), Lib.hid (by omega), Lib.hid (by repeat (first | exact Below.refl _ _ | refine bl_drewN ?_ _ | refine Below.drew ?_ | refine bl_alloc ?_ _)), Lib.hid ((Blk.new w _ _).alloc _), Lib.hid (by have h := Blk.new (w.alloc (.cells #[.int .i64 ta, .int .i64 tm, .int .i64 te] 46)) 46 #[.int .i64 sa, .int .i64 sm, .int .i64 se]; simpa using h)⟩
  case round =>
    obtain ⟨k, hk, rfl, h1, h2, HB, HBA, HBB⟩ := hrel
    have hOr := HO.out.below HB.out HOL.out
    have g0 := hOr.cell 0
    have g1 := hOr.cell 1
    have lA := HBA.out.lt
    have lB := HBB.out.lt
    clear hOr
    obtain rfl | rfl | rfl : k = 0 ∨ k = 1 ∨ k = 2 := by omega
    · clear g1
      have p0 := HBA.out.cell 0
      have p1 := HBA.out.cell 1
      have p2 := HBA.out.cell 2
      have s0 := HBB.out.cell 0
      have s1 := HBB.out.cell 1
      have s2 := HBB.out.cell 2
      go_wp2
      go_region_held3 (fun W => W.cell? ⟨w.heap.size, 0, none⟩ = some (.int .i64 ta) ∧ W.cell? ⟨w.heap.size, 1, none⟩ = some (.int .i64 tm) ∧ W.cell? ⟨w.heap.size, 2, none⟩ = some (.int .i64 te) ∧ W.cell? ⟨w.heap.size + 1, 0, none⟩ = some (.int .i64 sa) ∧ W.cell? ⟨w.heap.size + 1, 1, none⟩ = some (.int .i64 sm) ∧ W.cell? ⟨w.heap.size + 1, 2, none⟩ = some (.int .i64 se)) (first | assumption | (simp [go_sem, *]; done))
        ((first
          | (have uu := HBA; clear uu; go_at_call 90; refine (key1_any _ _ _ _).mono ?_; rintro e w2 ⟨rfl, hb⟩; have HD := Lib.hid (show Below wr.heap.size wr w2 from bl_trans (by repeat (first | exact Below.refl _ _ | with_reducible refine Below.drew ?_ | with_reducible refine bl_drewN ?_ _)) hb); have q0 := (HBA.out.below HD.out HBA.out.lt).cell 0; have q1 := (HBA.out.below HD.out HBA.out.lt).cell 1; have q2 := (HBA.out.below HD.out HBA.out.lt).cell 2; have r0 := (HBB.out.below HD.out HBB.out.lt).cell 0; have r1 := (HBB.out.below HD.out HBB.out.lt).cell 1; have r2 := (HBB.out.below HD.out HBB.out.lt).cell 2; have HBA2 := Lib.hid (HBA.out.below HD.out HBA.out.lt); have HBB2 := Lib.hid (HBB.out.below HD.out HBB.out.lt); clear HBA HBB hb p0 p1 p2 s0 s1 s2)
          | (have uu := HBA2; clear uu; go_at_call 90; refine (key1_any _ _ _ _).mono ?_; rintro e w3 ⟨rfl, hb⟩; have HD2 := Lib.hid (show Below wr.heap.size wr w3 from bl_trans (by repeat (first | with_reducible exact HD.out | with_reducible refine Below.drew ?_ | with_reducible refine bl_drewN ?_ _)) hb); have HBA3 := Lib.hid (show Blk w3 w.heap.size 46 #[.int .i64 ta, .int .i64 tm, .int .i64 te] from HBA2.out.below (bl_trans (by repeat (first | exact Below.refl _ _ | with_reducible refine Below.drew ?_ | with_reducible refine bl_drewN ?_ _)) hb) HBA2.out.lt); have HBB3 := Lib.hid (show Blk w3 (w.heap.size + 1) 46 #[.int .i64 sa, .int .i64 sm, .int .i64 se] from HBB2.out.below (bl_trans (by repeat (first | exact Below.refl _ _ | with_reducible refine Below.drew ?_ | with_reducible refine bl_drewN ?_ _)) hb) HBB2.out.lt); have t0 := HBA3.out.cell 0; have t1 := HBA3.out.cell 1; have t2 := HBA3.out.cell 2; have v0 := HBB3.out.cell 0; have v1 := HBB3.out.cell 1; have v2 := HBB3.out.cell 2; clear HBA2 HBB2 hb q0 q1 q2 r0 r1 r2)))
      all_goals
        by_cases hx : ta = sa
        · have tx : (ta != sa) = false := by simp; exact hx
          have HX := Lib.hid hx
          clear hx
          go_wp2
          go_roundw
          case rel => exact ⟨1, by omega, by go_num, Lib.hid fun _ => HX.out, Lib.hid (by omega), Lib.hid (bl_trans HB.out (HD2.out.mono (by omega))), HBA3, HBB3⟩
          case measure => simp [intOf]
        · have tx : (ta != sa) = true := by simp; exact hx
          have HX := Lib.hid hx
          clear hx
          go_wp2
          go_ret
          exact ⟨by
            have hv := HV.out
            rw [← hv]
            exact befP1 HX.out, (by repeat (first | with_reducible exact (bl_trans HB.out (HD2.out.mono (by omega))) | with_reducible refine Below.drew ?_ | with_reducible refine bl_drewN ?_ _ | with_reducible refine bl_alloc ?_ _))⟩
    · clear g0
      have p0 := HBA.out.cell 0
      have p1 := HBA.out.cell 1
      have p2 := HBA.out.cell 2
      have s0 := HBB.out.cell 0
      have s1 := HBB.out.cell 1
      have s2 := HBB.out.cell 2
      go_wp2
      go_region_held3 (fun W => W.cell? ⟨w.heap.size, 0, none⟩ = some (.int .i64 ta) ∧ W.cell? ⟨w.heap.size, 1, none⟩ = some (.int .i64 tm) ∧ W.cell? ⟨w.heap.size, 2, none⟩ = some (.int .i64 te) ∧ W.cell? ⟨w.heap.size + 1, 0, none⟩ = some (.int .i64 sa) ∧ W.cell? ⟨w.heap.size + 1, 1, none⟩ = some (.int .i64 sm) ∧ W.cell? ⟨w.heap.size + 1, 2, none⟩ = some (.int .i64 se)) (first | assumption | (simp [go_sem, *]; done))
        ((first
          | (have uu := HBA; clear uu; go_at_call 91; refine (key0_any _ _ _ _).mono ?_; rintro e w2 ⟨rfl, hb⟩; have HD := Lib.hid (show Below wr.heap.size wr w2 from bl_trans (by repeat (first | exact Below.refl _ _ | with_reducible refine Below.drew ?_ | with_reducible refine bl_drewN ?_ _)) hb); have q0 := (HBA.out.below HD.out HBA.out.lt).cell 0; have q1 := (HBA.out.below HD.out HBA.out.lt).cell 1; have q2 := (HBA.out.below HD.out HBA.out.lt).cell 2; have r0 := (HBB.out.below HD.out HBB.out.lt).cell 0; have r1 := (HBB.out.below HD.out HBB.out.lt).cell 1; have r2 := (HBB.out.below HD.out HBB.out.lt).cell 2; have HBA2 := Lib.hid (HBA.out.below HD.out HBA.out.lt); have HBB2 := Lib.hid (HBB.out.below HD.out HBB.out.lt); clear HBA HBB hb p0 p1 p2 s0 s1 s2)
          | (have uu := HBA2; clear uu; go_at_call 91; refine (key0_any _ _ _ _).mono ?_; rintro e w3 ⟨rfl, hb⟩; have HD2 := Lib.hid (show Below wr.heap.size wr w3 from bl_trans (by repeat (first | with_reducible exact HD.out | with_reducible refine Below.drew ?_ | with_reducible refine bl_drewN ?_ _)) hb); have HBA3 := Lib.hid (show Blk w3 w.heap.size 46 #[.int .i64 ta, .int .i64 tm, .int .i64 te] from HBA2.out.below (bl_trans (by repeat (first | exact Below.refl _ _ | with_reducible refine Below.drew ?_ | with_reducible refine bl_drewN ?_ _)) hb) HBA2.out.lt); have HBB3 := Lib.hid (show Blk w3 (w.heap.size + 1) 46 #[.int .i64 sa, .int .i64 sm, .int .i64 se] from HBB2.out.below (bl_trans (by repeat (first | exact Below.refl _ _ | with_reducible refine Below.drew ?_ | with_reducible refine bl_drewN ?_ _)) hb) HBB2.out.lt); have t0 := HBA3.out.cell 0; have t1 := HBA3.out.cell 1; have t2 := HBA3.out.cell 2; have v0 := HBB3.out.cell 0; have v1 := HBB3.out.cell 1; have v2 := HBB3.out.cell 2; clear HBA2 HBB2 hb q0 q1 q2 r0 r1 r2)))
      all_goals
        by_cases hx : tm = sm
        · have tx : (tm != sm) = false := by simp; exact hx
          have HX := Lib.hid hx
          clear hx
          go_wp2
          go_roundw
          case rel => exact ⟨2, by omega, by go_num, Lib.hid fun _ => h1.out (by omega), Lib.hid fun _ => HX.out, Lib.hid (bl_trans HB.out (HD2.out.mono (by omega))), HBA3, HBB3⟩
          case measure => simp [intOf]
        · have tx : (tm != sm) = true := by simp; exact hx
          have HX := Lib.hid hx
          clear hx
          go_wp2
          go_ret
          exact ⟨by
            have hv := HV.out
            rw [← hv]
            exact befP2 (h1.out (by omega)) HX.out, (by repeat (first | with_reducible exact (bl_trans HB.out (HD2.out.mono (by omega))) | with_reducible refine Below.drew ?_ | with_reducible refine bl_drewN ?_ _ | with_reducible refine bl_alloc ?_ _))⟩
    · clear g0 g1
      go_wp2
      go_ret
      exact ⟨by
        have hv := HV.out
        rw [← hv]
        exact befP3 (h1.out (by omega)) (h2.out (by omega)), HB.out⟩
set_option maxRecDepth 100000 in
set_option maxHeartbeats 4000000 in
theorem befDl_is (w : World) (g B M F X : Nat) (p : Pm) (A : Option Addr) (n c : Nat) (ts : List Tk) (hB : B ≤ w.heap.size) (hT : Tks w B A n ts) (hs : setB ts = true) (hp : PAt w M p) (hL : p.L = .slice A n c) (hi : Bool) (hmo : p.mo = moV hi) (P : Po) (hPD : P.due = true) (z0 : 0 ≤ P.xn) (z1 : P.xn ≤ 1000000000) (z2 : 0 ≤ P.xd) (z3 : P.xd ≤ 1000000000)
    (hF : Blk w F 87 #[.int .i64 P.xn, .int .i64 P.xd]) (hX : Blk w X 72 #[.pointer (some ⟨M, 0, none⟩)]) (ho : Blk w g 126 #[dueF F X, .func (.func 90) #[] #[], .func (.func 91) #[] #[]]) (ta tm te sa sm se : Int) (ka : 0 ≤ ta ∧ ta < ts.length ∧ 0 ≤ tm ∧ tm ≤ 200) (kb : 0 ≤ sa ∧ sa < ts.length ∧ 0 ≤ sm ∧ sm ≤ 200) (b : Bool) (hb : firstB ts P hi ⟨ta, tm, te⟩ ⟨sa, sm, se⟩ = b) :
    Calls Tryz.prog 55 #[.slice (some ⟨g, 0, none⟩) 3 3, .agg #[.int .i64 ta, .int .i64 tm, .int .i64 te], .agg #[.int .i64 sa, .int .i64 sm, .int .i64 se]] w (BRes b w) := by
  obtain ⟨x, hx0⟩ : ∃ x, keyJ ts P hi ⟨ta, tm, te⟩ = x := ⟨_, rfl⟩
  obtain ⟨y, hy0⟩ : ∃ y, keyJ ts P hi ⟨sa, sm, se⟩ = y := ⟨_, rfl⟩
  have HX0 := Lib.hid hx0
  have HY0 := Lib.hid hy0
  have HPD := Lib.hid hPD
  have HDK : Hid (∀ W : World, Below w.heap.size w W → ∀ j : Jb, 0 ≤ j.ta → j.ta < ts.length → 0 ≤ j.tm → j.tm ≤ 200 → ∀ r : Int, keyJ ts P hi j = r → Calls Tryz.prog 134 (#[.agg #[.int .i64 j.ta, .int .i64 j.tm, .int .i64 j.ne]] ++ #[.pointer (some ⟨F, 0, none⟩), .pointer (some ⟨X, 0, none⟩)]) W fun e w' => e = .returned (.int .i64 r) ∧ Below W.heap.size W w') := Lib.hid (fun W hbW j j1 j2 j3 j4 r hr => dueK_is W B M F X p A n c ts (by have := hbW.size; omega) (hT.below (hbW.mono hB)) hs (hp.bel hbW) hL hi hmo P z0 z1 z2 z3 (hF.below hbW hF.lt) (hX.below hbW hX.lt) j j1 j2 j3 j4 r hr)
  have HO := Lib.hid ho
  have HOL := Lib.hid ho.lt
  clear ho hx0 hy0 hT hs hp hL hmo hF hX hPD
  have HV := Lib.hid hb
  clear hb
  go_enter Tryz.func55, Tryz.ntmps55
  go_wp2
  go_loopw [13] (fun i wr => ∃ k : Nat, k ≤ 3 ∧ i = .int .i64 k ∧ Hid (1 ≤ k → x = y) ∧ Hid (2 ≤ k → ta = sa) ∧ Hid (3 ≤ k → tm = sm) ∧ Hid (Below w.heap.size w wr) ∧ Hid (Blk wr w.heap.size 46 #[.int .i64 ta, .int .i64 tm, .int .i64 te]) ∧ Hid (Blk wr (w.heap.size + 1) 46 #[.int .i64 sa, .int .i64 sm, .int .i64 se])) (fun i _ => 3 - (intOf i).toNat)
  case atStart => exact ⟨0, by omega, rfl, Lib.hid (by omega), Lib.hid (by omega), Lib.hid (by omega), Lib.hid (by repeat (first | exact Below.refl _ _ | refine bl_drewN ?_ _ | refine Below.drew ?_ | refine bl_alloc ?_ _)), Lib.hid ((Blk.new w _ _).alloc _), Lib.hid (by have h := Blk.new (w.alloc (.cells #[.int .i64 ta, .int .i64 tm, .int .i64 te] 46)) 46 #[.int .i64 sa, .int .i64 sm, .int .i64 se]; simpa using h)⟩
  case round =>
    obtain ⟨k, hk, rfl, h1, h2, h3, HB, HBA, HBB⟩ := hrel
    have hOr := HO.out.below HB.out HOL.out
    have g0 := hOr.cell 0
    unfold dueF at g0
    have g1 := hOr.cell 1
    have g2 := hOr.cell 2
    have lA := HBA.out.lt
    have lB := HBB.out.lt
    clear hOr
    obtain rfl | rfl | rfl | rfl : k = 0 ∨ k = 1 ∨ k = 2 ∨ k = 3 := by omega
    · clear g1 g2
      have p0 := HBA.out.cell 0
      have p1 := HBA.out.cell 1
      have p2 := HBA.out.cell 2
      have s0 := HBB.out.cell 0
      have s1 := HBB.out.cell 1
      have s2 := HBB.out.cell 2
      go_wp2
      go_region_held3 (fun W => W.cell? ⟨w.heap.size, 0, none⟩ = some (.int .i64 ta) ∧ W.cell? ⟨w.heap.size, 1, none⟩ = some (.int .i64 tm) ∧ W.cell? ⟨w.heap.size, 2, none⟩ = some (.int .i64 te) ∧ W.cell? ⟨w.heap.size + 1, 0, none⟩ = some (.int .i64 sa) ∧ W.cell? ⟨w.heap.size + 1, 1, none⟩ = some (.int .i64 sm) ∧ W.cell? ⟨w.heap.size + 1, 2, none⟩ = some (.int .i64 se)) (first | assumption | (simp [go_sem, *]; done))
        ((first
          | (have uu := HBA; clear uu; go_at_call 134; refine (HDK.out _ (by repeat (first | with_reducible exact HB.out | with_reducible refine Below.drew ?_ | with_reducible refine bl_drewN ?_ _)) ⟨ta, tm, te⟩ ka.1 ka.2.1 ka.2.2.1 ka.2.2.2 x HX0.out).mono ?_; rintro e w2 ⟨rfl, hb⟩; have HD := Lib.hid (show Below wr.heap.size wr w2 from bl_trans (by repeat (first | exact Below.refl _ _ | with_reducible refine Below.drew ?_ | with_reducible refine bl_drewN ?_ _)) hb); have q0 := (HBA.out.below HD.out HBA.out.lt).cell 0; have q1 := (HBA.out.below HD.out HBA.out.lt).cell 1; have q2 := (HBA.out.below HD.out HBA.out.lt).cell 2; have r0 := (HBB.out.below HD.out HBB.out.lt).cell 0; have r1 := (HBB.out.below HD.out HBB.out.lt).cell 1; have r2 := (HBB.out.below HD.out HBB.out.lt).cell 2; have HBA2 := Lib.hid (HBA.out.below HD.out HBA.out.lt); have HBB2 := Lib.hid (HBB.out.below HD.out HBB.out.lt); clear HBA HBB hb p0 p1 p2 s0 s1 s2)
          | (have uu := HBA2; clear uu; go_at_call 134; refine (HDK.out _ (by repeat (first | with_reducible exact (bl_trans HB.out (HD.out.mono (by omega))) | with_reducible refine Below.drew ?_ | with_reducible refine bl_drewN ?_ _)) ⟨sa, sm, se⟩ kb.1 kb.2.1 kb.2.2.1 kb.2.2.2 y HY0.out).mono ?_; rintro e w3 ⟨rfl, hb⟩; have HD2 := Lib.hid (show Below wr.heap.size wr w3 from bl_trans (by repeat (first | with_reducible exact HD.out | with_reducible refine Below.drew ?_ | with_reducible refine bl_drewN ?_ _)) hb); have HBA3 := Lib.hid (show Blk w3 w.heap.size 46 #[.int .i64 ta, .int .i64 tm, .int .i64 te] from HBA2.out.below (bl_trans (by repeat (first | exact Below.refl _ _ | with_reducible refine Below.drew ?_ | with_reducible refine bl_drewN ?_ _)) hb) HBA2.out.lt); have HBB3 := Lib.hid (show Blk w3 (w.heap.size + 1) 46 #[.int .i64 sa, .int .i64 sm, .int .i64 se] from HBB2.out.below (bl_trans (by repeat (first | exact Below.refl _ _ | with_reducible refine Below.drew ?_ | with_reducible refine bl_drewN ?_ _)) hb) HBB2.out.lt); have t0 := HBA3.out.cell 0; have t1 := HBA3.out.cell 1; have t2 := HBA3.out.cell 2; have v0 := HBB3.out.cell 0; have v1 := HBB3.out.cell 1; have v2 := HBB3.out.cell 2; clear HBA2 HBB2 hb q0 q1 q2 r0 r1 r2)))
      all_goals
        by_cases hx : x = y
        · have tx : (x != y) = false := by simp; exact hx
          have HX := Lib.hid hx
          clear hx
          go_wp2
          go_roundw
          case rel => exact ⟨1, by omega, by go_num, Lib.hid fun _ => HX.out, Lib.hid (by omega), Lib.hid (by omega), Lib.hid (bl_trans HB.out (HD2.out.mono (by omega))), HBA3, HBB3⟩
          case measure => simp [intOf]
        · have tx : (x != y) = true := by simp; exact hx
          have HX := Lib.hid hx
          clear hx
          go_wp2
          go_ret
          exact ⟨by
            have hv := HV.out
            rw [← hv]
            exact befD0 HPD.out HX0.out HY0.out HX.out, (by repeat (first | with_reducible exact (bl_trans HB.out (HD2.out.mono (by omega))) | with_reducible refine Below.drew ?_ | with_reducible refine bl_drewN ?_ _ | with_reducible refine bl_alloc ?_ _))⟩
    · clear g0 g2
      have p0 := HBA.out.cell 0
      have p1 := HBA.out.cell 1
      have p2 := HBA.out.cell 2
      have s0 := HBB.out.cell 0
      have s1 := HBB.out.cell 1
      have s2 := HBB.out.cell 2
      go_wp2
      go_region_held3 (fun W => W.cell? ⟨w.heap.size, 0, none⟩ = some (.int .i64 ta) ∧ W.cell? ⟨w.heap.size, 1, none⟩ = some (.int .i64 tm) ∧ W.cell? ⟨w.heap.size, 2, none⟩ = some (.int .i64 te) ∧ W.cell? ⟨w.heap.size + 1, 0, none⟩ = some (.int .i64 sa) ∧ W.cell? ⟨w.heap.size + 1, 1, none⟩ = some (.int .i64 sm) ∧ W.cell? ⟨w.heap.size + 1, 2, none⟩ = some (.int .i64 se)) (first | assumption | (simp [go_sem, *]; done))
        ((first
          | (have uu := HBA; clear uu; go_at_call 90; refine (key1_any _ _ _ _).mono ?_; rintro e w2 ⟨rfl, hb⟩; have HD := Lib.hid (show Below wr.heap.size wr w2 from bl_trans (by repeat (first | exact Below.refl _ _ | with_reducible refine Below.drew ?_ | with_reducible refine bl_drewN ?_ _)) hb); have q0 := (HBA.out.below HD.out HBA.out.lt).cell 0; have q1 := (HBA.out.below HD.out HBA.out.lt).cell 1; have q2 := (HBA.out.below HD.out HBA.out.lt).cell 2; have r0 := (HBB.out.below HD.out HBB.out.lt).cell 0; have r1 := (HBB.out.below HD.out HBB.out.lt).cell 1; have r2 := (HBB.out.below HD.out HBB.out.lt).cell 2; have HBA2 := Lib.hid (HBA.out.below HD.out HBA.out.lt); have HBB2 := Lib.hid (HBB.out.below HD.out HBB.out.lt); clear HBA HBB hb p0 p1 p2 s0 s1 s2)
          | (have uu := HBA2; clear uu; go_at_call 90; refine (key1_any _ _ _ _).mono ?_; rintro e w3 ⟨rfl, hb⟩; have HD2 := Lib.hid (show Below wr.heap.size wr w3 from bl_trans (by repeat (first | with_reducible exact HD.out | with_reducible refine Below.drew ?_ | with_reducible refine bl_drewN ?_ _)) hb); have HBA3 := Lib.hid (show Blk w3 w.heap.size 46 #[.int .i64 ta, .int .i64 tm, .int .i64 te] from HBA2.out.below (bl_trans (by repeat (first | exact Below.refl _ _ | with_reducible refine Below.drew ?_ | with_reducible refine bl_drewN ?_ _)) hb) HBA2.out.lt); have HBB3 := Lib.hid (show Blk w3 (w.heap.size + 1) 46 #[.int .i64 sa, .int .i64 sm, .int .i64 se] from HBB2.out.below (bl_trans (by repeat (first | exact Below.refl _ _ | with_reducible refine Below.drew ?_ | with_reducible refine bl_drewN ?_ _)) hb) HBB2.out.lt); have t0 := HBA3.out.cell 0; have t1 := HBA3.out.cell 1; have t2 := HBA3.out.cell 2; have v0 := HBB3.out.cell 0; have v1 := HBB3.out.cell 1; have v2 := HBB3.out.cell 2; clear HBA2 HBB2 hb q0 q1 q2 r0 r1 r2)))
      all_goals
        by_cases hx : ta = sa
        · have tx : (ta != sa) = false := by simp; exact hx
          have HX := Lib.hid hx
          clear hx
          go_wp2
          go_roundw
          case rel => exact ⟨2, by omega, by go_num, Lib.hid fun _ => h1.out (by omega), Lib.hid fun _ => HX.out, Lib.hid (by omega), Lib.hid (bl_trans HB.out (HD2.out.mono (by omega))), HBA3, HBB3⟩
          case measure => simp [intOf]
        · have tx : (ta != sa) = true := by simp; exact hx
          have HX := Lib.hid hx
          clear hx
          go_wp2
          go_ret
          exact ⟨by
            have hv := HV.out
            rw [← hv]
            exact (befP1 HX.out).trans (by rw [befDp HPD.out HX0.out HY0.out (h1.out (by omega))]), (by repeat (first | with_reducible exact (bl_trans HB.out (HD2.out.mono (by omega))) | with_reducible refine Below.drew ?_ | with_reducible refine bl_drewN ?_ _ | with_reducible refine bl_alloc ?_ _))⟩
    · clear g0 g1
      have p0 := HBA.out.cell 0
      have p1 := HBA.out.cell 1
      have p2 := HBA.out.cell 2
      have s0 := HBB.out.cell 0
      have s1 := HBB.out.cell 1
      have s2 := HBB.out.cell 2
      go_wp2
      go_region_held3 (fun W => W.cell? ⟨w.heap.size, 0, none⟩ = some (.int .i64 ta) ∧ W.cell? ⟨w.heap.size, 1, none⟩ = some (.int .i64 tm) ∧ W.cell? ⟨w.heap.size, 2, none⟩ = some (.int .i64 te) ∧ W.cell? ⟨w.heap.size + 1, 0, none⟩ = some (.int .i64 sa) ∧ W.cell? ⟨w.heap.size + 1, 1, none⟩ = some (.int .i64 sm) ∧ W.cell? ⟨w.heap.size + 1, 2, none⟩ = some (.int .i64 se)) (first | assumption | (simp [go_sem, *]; done))
        ((first
          | (have uu := HBA; clear uu; go_at_call 91; refine (key0_any _ _ _ _).mono ?_; rintro e w2 ⟨rfl, hb⟩; have HD := Lib.hid (show Below wr.heap.size wr w2 from bl_trans (by repeat (first | exact Below.refl _ _ | with_reducible refine Below.drew ?_ | with_reducible refine bl_drewN ?_ _)) hb); have q0 := (HBA.out.below HD.out HBA.out.lt).cell 0; have q1 := (HBA.out.below HD.out HBA.out.lt).cell 1; have q2 := (HBA.out.below HD.out HBA.out.lt).cell 2; have r0 := (HBB.out.below HD.out HBB.out.lt).cell 0; have r1 := (HBB.out.below HD.out HBB.out.lt).cell 1; have r2 := (HBB.out.below HD.out HBB.out.lt).cell 2; have HBA2 := Lib.hid (HBA.out.below HD.out HBA.out.lt); have HBB2 := Lib.hid (HBB.out.below HD.out HBB.out.lt); clear HBA HBB hb p0 p1 p2 s0 s1 s2)
          | (have uu := HBA2; clear uu; go_at_call 91; refine (key0_any _ _ _ _).mono ?_; rintro e w3 ⟨rfl, hb⟩; have HD2 := Lib.hid (show Below wr.heap.size wr w3 from bl_trans (by repeat (first | with_reducible exact HD.out | with_reducible refine Below.drew ?_ | with_reducible refine bl_drewN ?_ _)) hb); have HBA3 := Lib.hid (show Blk w3 w.heap.size 46 #[.int .i64 ta, .int .i64 tm, .int .i64 te] from HBA2.out.below (bl_trans (by repeat (first | exact Below.refl _ _ | with_reducible refine Below.drew ?_ | with_reducible refine bl_drewN ?_ _)) hb) HBA2.out.lt); have HBB3 := Lib.hid (show Blk w3 (w.heap.size + 1) 46 #[.int .i64 sa, .int .i64 sm, .int .i64 se] from HBB2.out.below (bl_trans (by repeat (first | exact Below.refl _ _ | with_reducible refine Below.drew ?_ | with_reducible refine bl_drewN ?_ _)) hb) HBB2.out.lt); have t0 := HBA3.out.cell 0; have t1 := HBA3.out.cell 1; have t2 := HBA3.out.cell 2; have v0 := HBB3.out.cell 0; have v1 := HBB3.out.cell 1; have v2 := HBB3.out.cell 2; clear HBA2 HBB2 hb q0 q1 q2 r0 r1 r2)))
      all_goals
        by_cases hx : tm = sm
        · have tx : (tm != sm) = false := by simp; exact hx
          have HX := Lib.hid hx
          clear hx
          go_wp2
          go_roundw
          case rel => exact ⟨3, by omega, by go_num, Lib.hid fun _ => h1.out (by omega), Lib.hid fun _ => h2.out (by omega), Lib.hid fun _ => HX.out, Lib.hid (bl_trans HB.out (HD2.out.mono (by omega))), HBA3, HBB3⟩
          case measure => simp [intOf]
        · have tx : (tm != sm) = true := by simp; exact hx
          have HX := Lib.hid hx
          clear hx
          go_wp2
          go_ret
          exact ⟨by
            have hv := HV.out
            rw [← hv]
            exact (befP2 (h2.out (by omega)) HX.out).trans (by rw [befDp HPD.out HX0.out HY0.out (h1.out (by omega))]), (by repeat (first | with_reducible exact (bl_trans HB.out (HD2.out.mono (by omega))) | with_reducible refine Below.drew ?_ | with_reducible refine bl_drewN ?_ _ | with_reducible refine bl_alloc ?_ _))⟩
    · clear g0 g1 g2
      go_wp2
      go_ret
      exact ⟨by
        have hv := HV.out
        rw [← hv]
        exact (befP3 (h2.out (by omega)) (h3.out (by omega))).trans (by rw [befDp HPD.out HX0.out HY0.out (h1.out (by omega))]), HB.out⟩
end Go.Proofs.YtgponahmkjohiabGreatDoor

namespace Go.Proofs.YtgponahmkjohiabGreatDoor
open Go.RowKit
set_option linter.unusedVariables false
def fI (q : Nat × Int) : Int := (q.1 : Int)
/-- The machine's block and what it leads to hold the state s, with g ticks done of each job. -/
structure PS (w : World) (B M : Nat) (A : Option Addr) (n c : Nat) (Aj : Option Addr) (nj cj : Nat) (P : Po) (g F X : Nat) (s : Mc) (d : Nat → Int) (p : Pm) : Prop where
  at_ : PAt w M p
  bM : B ≤ M
  L : p.L = .slice A n c
  J : p.J = .slice Aj nj cj
  mo : p.mo = moV s.hi
  cm : p.cm = s.nx
  cn : p.cn = s.wk.length
  lf : p.lf.take s.wk.length = s.wk.map fI
  dn : ∀ k, k < 60 → p.dn.getD k 0 = d k
  e : OwnZ w B p.E s.en
  t : OwnZ w B p.T s.tr
  z : OwnZ w B p.S s.sw
  et : apart p.E p.T
  ez : apart p.E p.S
  tz : apart p.T p.S
  eM : p.E.ownBlock ≠ some M
  tM : p.T.ownBlock ≠ some M
  zM : p.S.ownBlock ≠ some M
  ord : OrdP w M p.O P g F X
  oM : g ≠ M ∧ F ≠ M ∧ X ≠ M
  oE : ∀ x, p.E.ownBlock = some x → x ≠ g ∧ x ≠ F ∧ x ≠ X
  oT : ∀ x, p.T.ownBlock = some x → x ≠ g ∧ x ≠ F ∧ x ≠ X
  oS : ∀ x, p.S.ownBlock = some x → x ≠ g ∧ x ≠ F ∧ x ≠ X
section
variable {w w' : World} {B M : Nat} {A : Option Addr} {n c : Nat} {Aj : Option Addr} {nj cj : Nat} {P : Po} {g F X : Nat} {s : Mc} {d : Nat → Int} {p : Pm}
theorem PS.bel (h : PS w B M A n c Aj nj cj P g F X s d p) (hb : Below w.heap.size w w') : PS w' B M A n c Aj nj cj P g F X s d p :=
  ⟨h.at_.bel hb, h.bM, h.L, h.J, h.mo, h.cm, h.cn, h.lf, h.dn, h.e.below hb, h.t.below hb, h.z.below hb, h.et, h.ez, h.tz, h.eM, h.tM, h.zM, h.ord.bel hb, h.oM, h.oE, h.oT, h.oS⟩
/-- All blocks that the machine writes. -/
def Wr (M : Nat) (p : Pm) (x : Nat) : Prop := x = M ∨ p.E.ownBlock = some x ∨ p.T.ownBlock = some x ∨ p.S.ownBlock = some x
theorem PS.wrB (h : PS w B M A n c Aj nj cj P g F X s d p) (x : Nat) (hx : Wr M p x) : B ≤ x ∧ x < w.heap.size := by
  rcases hx with rfl | e | e | e
  · exact ⟨h.bM, h.at_.lt⟩
  · exact World.ownsRow.lt h.e x e
  · exact World.ownsRow.lt h.t x e
  · exact World.ownsRow.lt h.z x e
end
end Go.Proofs.YtgponahmkjohiabGreatDoor

namespace Go.Proofs.YtgponahmkjohiabGreatDoor
open Go.RowKit
set_option linter.unusedVariables false
theorem drop_step (ts : List Tk) (js : List Jb) (en : List Int) {wk : List (Nat × Int)} {k : Nat} {q : Nat × Int} (h : wk[k]? = some q) : dropE ts js en (wk.take (k + 1)) = if (tkJ ts js q.1).cr then dropE ts js en (wk.take k) else (dropE ts js en (wk.take k)).set q.1 (-2) := by
  unfold dropE
  rw [List.take_add_one, h, Option.toList_some, List.foldl_append]
  rfl
end Go.Proofs.YtgponahmkjohiabGreatDoor
