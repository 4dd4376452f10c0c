import Derived.Deep.RegionWith
import Derived.Test.YtgponahmkjohiabGreatDoorT1Pk21
namespace Go.Proofs.YtgponahmkjohiabGreatDoor
open Go.RowKit
set_option linter.unusedVariables false
theorem gb_of_bel8 {w w' : World} (hb : Below w.heap.size w w') : w.grownBy w' none := ⟨hb.os, hb.tape, hb.output, hb.size, fun k hk _ => hb.block k hk⟩
theorem Rd.bel8 {w w' : World} {B g : Nat} {A : Option Addr} {n c : Nat} {f : Nat → Int} {p : Nat} (h : Rd w B g A n c f p) (hb : Below w.heap.size w w') : Rd w' B g A n c f p := h.grown (gb_of_bel8 hb) (fun k e => by cases e)
set_option maxRecDepth 100000 in
set_option maxHeartbeats 4000000 in
theorem l8Set_any (w : World) (B g : Nat) (A : Option Addr) (n c : Nat) (f : Nat → Int) (p : Nat) (pol : Int) (hr : Rd w B g A n c f p) (hp : p ≤ 1000) :
    Calls Tryz.prog 72 #[.pointer (some ⟨g, 0, none⟩), .int .i64 pol] w (LsOut B g A n c f p 41 6 (fun _ => True) w) := by
  have HR0 := Lib.hid hr
  have hgl := hr.lt
  have hBg := hr.ge
  clear hr
  go_enter Tryz.func72, Tryz.ntmps72
  go_wp2_with fail
  refine (set_any _ _ _ _ _ _ _ _ HR0.out (by omega)).mono ?_
  rintro e w2 ⟨v, ts, q, rfl, hl, hsm, hq, hr, hgb, ho⟩
  obtain ⟨A2, c2, rfl⟩ := ho.form
  have HR2 := Lib.hid hr
  have HG2 := Lib.hid hgb
  have HT2 := Lib.hid ho.reads.2
  have hs2 : w.heap.size ≤ w2.heap.size := hgb.size
  clear hr hgb ho hsm
  go_wp2_with fail
  refine (sSortDue_any w2 A2 _ c2 ts HT2.out (by omega)).mono ?_
  rintro e w3 ⟨A3, c3, rfl, ho, hb⟩
  have HR := Lib.hid (HR2.out.bel8 hb)
  have HG := Lib.hid (gb_trans HG2.out (gb_of_bel8 hb) (fun x e => by cases e))
  have HO := Lib.hid (own_more ho hs2)
  have hsl := sortOf_le ts
  obtain ⟨us, hus⟩ : ∃ us, us = sortOf ts := ⟨_, rfl⟩
  rw [← hus] at hsl HO ⊢
  have hl5 : us.length ≤ 5 := by omega
  clear ho hb hsl hus HR2 HG2 HT2
  by_cases hpol : pol = 1
  · subst hpol
    rcases HO.out.2 with ⟨e, h0⟩ | ⟨gg, cap, cur, e, hgg, _⟩
    · injection e with e1 e2 e3
      subst e1 e3
      obtain rfl : us = [] := List.eq_nil_of_length_eq_zero h0
      go_wp2
      go_loopw [6] (fun i wr => i = .int .i64 0 ∧ wr = w3) (fun i _ => 0)
      case atStart => exact ⟨rfl, rfl⟩
      case round =>
        obtain ⟨rfl, rfl⟩ := hrel
        go_wp2_with fail
        refine (pick_any _ B g A n c f q 3 HR.out (by omega) (by omega)).mono ?_
        rintro e w8 ⟨y, rfl, y0, _, _, hr8, hg8⟩
        have HR8 := Lib.hid hr8
        have HG8 := Lib.hid (gb_trans HG.out hg8 (fun x e => .inl (by injection e with e; exact e.symm)))
        have HO8 := Lib.hid (HO.out.kept hg8 (fun k e => by injection e with e; omega))
        have hs8 : w.heap.size ≤ w8.heap.size := HG8.out.size
        clear hr8 hg8
        by_cases hy : 0 < y
        · have hyd : decide (y > 0) = true := decide_eq_true hy
          obtain ⟨b, hb⟩ : ∃ b, allB ([] : List Tk) 1 = b := ⟨_, rfl⟩
          obtain ⟨xs, hxs⟩ : ∃ xs, xs = if b then (allA ([] : List Tk) 1 (([] : List Tk)).length).1 else [] := ⟨_, rfl⟩
          obtain ⟨zr, hzr⟩ : ∃ zr, zr = if b then (allA ([] : List Tk) 1 (([] : List Tk)).length).2 else [] := ⟨_, rfl⟩
          have hxl : xs.length ≤ 6 := by
            rw [hxs]
            split
            · exact Nat.le_trans (all_len _ _ _ (Nat.le_refl _)).1 (by omega)
            · exact Nat.zero_le _
          have HBB := Lib.hid hb
          have HXS := Lib.hid hxs
          have HZR := Lib.hid hzr
          clear hb hxs hzr
          go_wp2_with fail
          refine (sAll_is w8 none _ 0 ([] : List Tk) 1 HO8.out.reads.2 b HBB.out (by omega) xs zr HXS.out HZR.out).mono ?_
          rintro e w9 ⟨A9, c9, A10, c10, rfl, ho9, hoz9, hb9⟩
          have HR9 := Lib.hid (HR8.out.bel8 hb9)
          have HG9 := Lib.hid (gb_trans HG8.out (gb_of_bel8 hb9) (fun x e => by cases e))
          have HO9 := Lib.hid (own_more ho9 hs8)
          clear ho9 hoz9 hb9
          go_wp2
          go_ret
          exact ⟨_, xs, q + 1, rfl, hxl, fun _ _ => trivial, by omega, HR9.out, HG9.out, HO9.out⟩
        · have hyd : decide (y > 0) = false := decide_eq_false hy
          go_wp2
          go_ret
          exact ⟨_, ([] : List Tk), q + 1, rfl, by simp, fun _ _ => trivial, by omega, HR8.out, HG8.out, HO8.out⟩
    · injection e with e1 e2 e3
      subst e1 e3
      go_wp2
      go_loopw [6] (fun i wr => ∃ (j : Nat) (vs : List Tk), j ≤ us.length ∧ i = .int .i64 j ∧ vs.length = us.length ∧ Own wr w.heap.size (.slice (some ⟨gg, 0, none⟩) us.length c3) vs ∧ Rd wr B g A n c f q ∧ w.grownBy wr (some g)) (fun i _ => us.length - (intOf i).toNat)
      case atStart => exact ⟨0, us, Nat.zero_le _, rfl, rfl, HO.out, HR.out, HG.out⟩
      case round =>
        obtain ⟨j, vs, hj, rfl, hvs, ho, hr, hg⟩ := hrel
        have HOR := Lib.hid ho
        have HRR := Lib.hid hr
        have HGR := Lib.hid hg
        have HUS := Lib.hid hvs
        clear ho hr hg hvs HO HR HG
        by_cases hlt : j < us.length
        · obtain ⟨t, ht⟩ : ∃ t, vs[j]? = some t := ⟨vs[j]'(by rw [HUS.out]; exact hlt), List.getElem?_eq_getElem _⟩
          obtain ⟨b, o, eA, hbl, c0, c1', c2', c3', c4⟩ := HOR.out.reads.2.at_ j t ht
          injection eA with eA
          injection eA with eA1 eA2
          subst eA1 eA2
          simp only [Nat.zero_add] at c0 c1' c2' c3' c4
          have hfz := HOR.out.frozen
          have HX := Lib.hid (HOR.out.due j t t.ev ht)
          have HXR := Lib.hid (HRR.out.set (q := ⟨gg, j * 5 + 2, none⟩) (by dsimp only; omega) (by dsimp only; omega) (.int .i64 t.ev))
          have HXG := Lib.hid (gb_set HGR.out (p := ⟨gg, j * 5 + 2, none⟩) (.inr hgg) (.int .i64 t.ev))
          have HL := Lib.hid (show (vs.set j { t with du := t.ev }).length = us.length by rw [List.length_set]; exact HUS.out)
          have hji : (j : Int) < (us.length : Int) := by omega
          have hj0 : (0 : Int) ≤ (j : Int) := by omega
          clear ht HOR HRR HGR
          go_wp2
          go_roundw
          case rel => exact ⟨j + 1, _, by omega, by go_num, HL.out, HX.out, HXR.out, HXG.out⟩
          case measure => simp [intOf]; omega
        · obtain rfl : j = us.length := by omega
          have hvl : vs.length ≤ 5 := by rw [HUS.out]; exact hl5
          have HO := Lib.hid (show Own wr w.heap.size (.slice (some ⟨gg, 0, none⟩) vs.length c3) vs by rw [HUS.out]; exact HOR.out)
          have HR := HRR
          have HG := HGR
          have HO' := HOR
          go_wp2_with fail
          refine (pick_any _ B g A n c f q 3 HR.out (by omega) (by omega)).mono ?_
          rintro e w8 ⟨y, rfl, y0, _, _, hr8, hg8⟩
          have HR8 := Lib.hid hr8
          have HG8 := Lib.hid (gb_trans HG.out hg8 (fun x e => .inl (by injection e with e; exact e.symm)))
          have HO8 := Lib.hid (HO'.out.kept hg8 (fun k e => by injection e with e; omega))
          have hs8 : w.heap.size ≤ w8.heap.size := HG8.out.size
          clear hr8 hg8
          by_cases hy : 0 < y
          · have hyd : decide (y > 0) = true := decide_eq_true hy
            obtain ⟨b, hb⟩ : ∃ b, allB vs 1 = b := ⟨_, rfl⟩
            obtain ⟨xs, hxs⟩ : ∃ xs, xs = if b then (allA vs 1 (vs).length).1 else [] := ⟨_, rfl⟩
            obtain ⟨zr, hzr⟩ : ∃ zr, zr = if b then (allA vs 1 (vs).length).2 else [] := ⟨_, rfl⟩
            have hxl : xs.length ≤ 6 := by
              rw [hxs]
              split
              · exact Nat.le_trans (all_len _ _ _ (Nat.le_refl _)).1 (by omega)
              · exact Nat.zero_le _
            have HBB := Lib.hid hb
            have HXS := Lib.hid hxs
            have HZR := Lib.hid hzr
            clear hb hxs hzr
            go_wp2_with fail
            refine (sAll_is w8 (some ⟨gg, 0, none⟩) _ c3 vs 1 HO8.out.reads.2 b HBB.out (by omega) xs zr HXS.out HZR.out).mono ?_
            rintro e w9 ⟨A9, c9, A10, c10, rfl, ho9, hoz9, hb9⟩
            have HR9 := Lib.hid (HR8.out.bel8 hb9)
            have HG9 := Lib.hid (gb_trans HG8.out (gb_of_bel8 hb9) (fun x e => by cases e))
            have HO9 := Lib.hid (own_more ho9 hs8)
            clear ho9 hoz9 hb9
            go_wp2
            go_ret
            exact ⟨_, xs, q + 1, rfl, hxl, fun _ _ => trivial, by omega, HR9.out, HG9.out, HO9.out⟩
          · have hyd : decide (y > 0) = false := decide_eq_false hy
            go_wp2
            go_ret
            exact ⟨_, vs, q + 1, rfl, by omega, fun _ _ => trivial, by omega, HR8.out, HG8.out, HO8.out⟩
  · have hpb : (pol == 1) = false := by simpa using hpol
    go_wp2_with fail
    refine (pick_any _ B g A n c f q 3 HR.out (by omega) (by omega)).mono ?_
    rintro e w8 ⟨y, rfl, y0, _, _, hr8, hg8⟩
    have HR8 := Lib.hid hr8
    have HG8 := Lib.hid (gb_trans HG.out hg8 (fun x e => .inl (by injection e with e; exact e.symm)))
    have HO8 := Lib.hid (HO.out.kept hg8 (fun k e => by injection e with e; omega))
    have hs8 : w.heap.size ≤ w8.heap.size := HG8.out.size
    clear hr8 hg8
    by_cases hy : 0 < y
    · have hyd : decide (y > 0) = true := decide_eq_true hy
      obtain ⟨b, hb⟩ : ∃ b, allB us pol = b := ⟨_, rfl⟩
      obtain ⟨xs, hxs⟩ : ∃ xs, xs = if b then (allA us pol (us).length).1 else [] := ⟨_, rfl⟩
      obtain ⟨zr, hzr⟩ : ∃ zr, zr = if b then (allA us pol (us).length).2 else [] := ⟨_, rfl⟩
      have hxl : xs.length ≤ 6 := by
        rw [hxs]
        split
        · exact Nat.le_trans (all_len _ _ _ (Nat.le_refl _)).1 (by omega)
        · exact Nat.zero_le _
      have HBB := Lib.hid hb
      have HXS := Lib.hid hxs
      have HZR := Lib.hid hzr
      clear hb hxs hzr
      go_wp2_with fail
      refine (sAll_is w8 A3 _ c3 us pol HO8.out.reads.2 b HBB.out (by omega) xs zr HXS.out HZR.out).mono ?_
      rintro e w9 ⟨A9, c9, A10, c10, rfl, ho9, hoz9, hb9⟩
      have HR9 := Lib.hid (HR8.out.bel8 hb9)
      have HG9 := Lib.hid (gb_trans HG8.out (gb_of_bel8 hb9) (fun x e => by cases e))
      have HO9 := Lib.hid (own_more ho9 hs8)
      clear ho9 hoz9 hb9
      go_wp2
      go_ret
      exact ⟨_, xs, q + 1, rfl, hxl, fun _ _ => trivial, by omega, HR9.out, HG9.out, HO9.out⟩
    · have hyd : decide (y > 0) = false := decide_eq_false hy
      go_wp2
      go_ret
      exact ⟨_, us, q + 1, rfl, by omega, fun _ _ => trivial, by omega, HR8.out, HG8.out, HO8.out⟩
end Go.Proofs.YtgponahmkjohiabGreatDoor

namespace Go.Proofs.YtgponahmkjohiabGreatDoor
open Go.RowKit
set_option linter.unusedVariables false
def DrewLIw (w : World) (e : Ending) (w' : World) : Prop :=
  ∃ (A : Option Addr) (c : Nat) (ts : List Tk) (pol : Int), e = .returned (.tuple #[.slice A ts.length c, .int .i64 pol]) ∧ ts.length ≤ 6 ∧ (-1 ≤ pol ∧ pol ≤ 2) ∧ Own w' w.heap.size (.slice A ts.length c) ts ∧ Below w.heap.size w w'
set_option maxRecDepth 100000 in
set_option maxHeartbeats 1000000 in
theorem dDrawHoldsBy_any (w : World) (A : Option Addr) (n c : Nat) (f : Nat → Int) (h : Code w w.heap.size A n c f) :
    Calls Tryz.prog 27 #[.slice A n c] w (DrewLIw w) := by
  have H := Lib.hid h
  clear h
  go_enter Tryz.func27, Tryz.ntmps27
  go_wp2_with fail
  refine (open_any _ A n c f H.out).mono ?_
  rintro e w1 ⟨rfl, m, hr, hb⟩
  have hgl := hr.lt
  have HR1 := Lib.hid hr
  have HB1 := Lib.hid hb
  clear hr hb
  go_wp2_with fail
  refine (num_any _ _ _ _ _ _ _ _ _ 6 (-1) 2 (HR1.out.alloc _) (by omega) (by omega) (by omega) (by omega) ?_).mono ?_
  · exact lit_cells_at _ _ _ _ _ _ (by simp) (fun i hi => by rcases (by omega : i = 0 ∨ i = 1 ∨ i = 2 ∨ i = 3 ∨ i = 4 ∨ i = 5) with rfl | rfl | rfl | rfl | rfl | rfl <;> exact ⟨_, rfl, by decide, by decide⟩)
  rintro e w2 ⟨pol, rfl, pol0, pol1, hr, hg⟩
  have hgb : w1.grownBy w2 (some w.heap.size) := gb_trans (gb_alloc (World.grownBy.refl w1 _) _) hg (fun x e => .inl (by injection e with e; exact e.symm))
  have HR2 := Lib.hid hr
  have HB2 := Lib.hid (below_of_gb HB1.out hgb HB1.out.size (Nat.le_refl _))
  clear hr hg hgb
  go_wp2_with fail
  refine (l8Set_any _ _ _ _ _ _ _ _ pol HR2.out (by omega)).mono ?_
  rintro e w3 ⟨v, ts, q, rfl, hl, _, hq, hr, hgb, ho⟩
  obtain ⟨A3, c3, rfl⟩ := ho.form
  have HB3 := Lib.hid (below_of_gb HB2.out hgb HB2.out.size (Nat.le_refl _))
  have HO3 := Lib.hid (own_more ho HB2.out.size)
  clear hr hgb ho
  go_wp2
  go_ret2
  exact ⟨A3, c3, ts, pol, rfl, hl, ⟨by omega, by omega⟩, HO3.out, HB3.out⟩
end Go.Proofs.YtgponahmkjohiabGreatDoor

namespace Go.Proofs.YtgponahmkjohiabGreatDoor
open Go.RowKit
set_option linter.unusedVariables false
def shAm (ts : List Tk) (w : Nat → Int) : Int := sumZ (fun j => if (tkOf ts (j : Int)).cr then 0 else (tkOf ts (j : Int)).lo * w j) ts.length
def shBm (ts : List Tk) (w : Nat → Int) : Int := sumZ (fun j => if (tkOf ts (j : Int)).cr then (tkOf ts (j : Int)).lo * w j else 0) ts.length
def shHm (ts : List Tk) (w : Nat → Int) : Int := sumZ (fun j => if (tkOf ts (j : Int)).cr then (tkOf ts (j : Int)).hi * w j else 0) ts.length
/-- What is known of the shares of tasks and of the factor: P is a common multiple of all periods, w j the part of it that is one of task j. -/
structure Sch (ts : List Tk) (p : Po) (P : Int) (w : Nat → Int) : Prop where
  due : p.due = true
  imp : ∀ (i : Nat) (tk : Tk), ts[i]? = some tk → tk.du = tk.ev
  pos : 1 ≤ P
  xn : 1 ≤ p.xn
  xle : p.xn ≤ p.xd
  wev : ∀ (i : Nat) (tk : Tk), ts[i]? = some tk → tk.ev * w i = P ∧ 0 ≤ w i
  c1 : shAm ts w * p.xn + shBm ts w * p.xd ≤ P * p.xn
  c2 : shAm ts w * p.xn + shHm ts w * p.xd ≤ P * p.xd
section
variable {ts : List Tk} {js : List Jb} {p : Po} {P : Int} {w : Nat → Int}
/-- When a job is due while needs are low, times the denominator. -/
def kl (ts : List Tk) (js : List Jb) (p : Po) (q : Nat) : Int := keyJ ts p false (jobOf js q)
theorem kl_not {q : Nat} (h : (tkJ ts js q).cr = false) : kl ts js p q = ((jobOf js q).tm + (tkJ ts js q).du) * p.xd := by
  unfold kl keyJ
  unfold tkJ at h ⊢
  rw [h]
  rfl
theorem kl_crit {q : Nat} (h : (tkJ ts js q).cr = true) : kl ts js p q = (jobOf js q).tm * p.xd + p.xn * (tkJ ts js q).du := by
  unfold kl keyJ
  unfold tkJ at h ⊢
  rw [h]
  rfl
theorem key_high (q : Nat) : keyJ ts p true (jobOf js q) = ((jobOf js q).tm + (tkJ ts js q).du) * p.xd := by
  unfold keyJ tkJ
  simp
theorem tk_atM {i : Nat} {tk : Tk} (hi : ts[i]? = some tk) {q : Nat} (h : (jobOf js q).ta = (i : Int)) : tkJ ts js q = tk := by unfold tkJ; rw [h, tkOf_get hi]
/-- How often jobs of one task come in a stretch. -/
theorem cnt_span (hv : jobsB ts js = true) {Q : Nat → Bool} {i : Nat} {tk : Tk} (hi : ts[i]? = some tk) (hQ : ∀ q, q < js.length → Q q = true → (jobOf js q).ta = (i : Int)) :
    cntZ Q js.length = 0 ∨ ∃ a b, a ≤ b ∧ b < js.length ∧ Q a = true ∧ Q b = true ∧ 1 ≤ cntZ Q js.length ∧ cntZ Q js.length * tk.ev ≤ (jobOf js b).tm - (jobOf js a).tm + tk.ev := by
  rcases cnt_far hv (P := Q) (z := (i : Int)) (T := tk.ev) (fun q hq e => ⟨hQ q hq e, by rw [tk_atM hi (hQ q hq e)]⟩) js.length (Nat.le_refl _) with h | ⟨a, b, h1, h2, h3, h4, h5⟩
  · exact .inl h
  · by_cases h0 : cntZ Q js.length = 0
    · exact .inl h0
    · right
      have := cntZ_nonneg Q js.length
      refine ⟨a, b, h1, h2, h3, h4, by omega, ?_⟩
      rw [Int.sub_mul, Int.one_mul] at h5
      omega
section fin
variable {t0 a1 d : Int} {x : Nat → Int}
theorem edf_not (hv : jobsB ts js = true) (S : Sch ts p P w) (h01 : t0 ≤ a1) (h1d : a1 ≤ d) {i : Nat} {tk : Tk} (hi : ts[i]? = some tk) (hc : tk.cr = false)
    (hx : ∀ q, q < js.length → (jobOf js q).ta = (i : Int) → x q ≤ if t0 ≤ (jobOf js q).tm ∧ kl ts js p q ≤ a1 * p.xd + p.xn * (d - a1) then tk.lo else 0) :
    P * p.xd * sumZ (fun q => if (jobOf js q).ta = (i : Int) then x q else 0) js.length ≤ ((a1 - t0) * p.xd + p.xn * (d - a1)) * (tk.lo * w i) := by
  have hs := set_jobs hv
  have hok := tk_nums (set_ok hs (get_mem hi))
  have hxn := S.xn
  have hxd : 1 ≤ p.xd := Int.le_trans S.xn S.xle
  obtain ⟨hw, hw0⟩ := S.wev i tk hi
  have hY : 0 ≤ (a1 - t0) * p.xd + p.xn * (d - a1) := Int.add_nonneg (Int.mul_nonneg (by omega) (by omega)) (Int.mul_nonneg (by omega) (by omega))
  let Q : Nat → Bool := fun q => decide ((jobOf js q).ta = (i : Int)) && (decide (t0 ≤ (jobOf js q).tm) && decide (kl ts js p q ≤ a1 * p.xd + p.xn * (d - a1)))
  have hQi : ∀ q, Q q = true ↔ (jobOf js q).ta = (i : Int) ∧ t0 ≤ (jobOf js q).tm ∧ kl ts js p q ≤ a1 * p.xd + p.xn * (d - a1) := fun q => by simp [Q]
  have h1 : sumZ (fun q => if (jobOf js q).ta = (i : Int) then x q else 0) js.length ≤ cntZ Q js.length * tk.lo := by
    refine Int.le_trans (sumZ_le fun q hq => ?_) (sumZ_cnt (P := Q) (x := fun _ => tk.lo) (c := tk.lo) fun q _ _ => Int.le_refl _)
    try dsimp only
    by_cases e : (jobOf js q).ta = (i : Int)
    · rw [if_pos e]
      refine Int.le_trans (hx q hq e) ?_
      by_cases h : t0 ≤ (jobOf js q).tm ∧ kl ts js p q ≤ a1 * p.xd + p.xn * (d - a1)
      · rw [if_pos h, if_pos ((hQi q).2 ⟨e, h⟩)]; exact Int.le_refl _
      · rw [if_neg h]; split <;> omega
    · rw [if_neg e]; split <;> omega
  have h2 : cntZ Q js.length * tk.ev * p.xd ≤ (a1 - t0) * p.xd + p.xn * (d - a1) := by
    rcases cnt_span hv (Q := Q) hi (fun q _ e => ((hQi q).1 e).1) with h0 | ⟨a, b, b1, b2, b3, b4, b5, b6⟩
    · rw [h0, Int.zero_mul, Int.zero_mul]; exact hY
    · have ha := (hQi a).1 b3
      have hb := (hQi b).1 b4
      have hkb := hb.2.2
      rw [kl_not (by rw [tk_atM hi hb.1]; exact hc), tk_atM hi hb.1, S.imp i tk hi] at hkb
      have h3 := Int.mul_le_mul_of_nonneg_right b6 (show 0 ≤ p.xd by omega)
      have h4 := Int.mul_le_mul_of_nonneg_right ha.2.1 (show 0 ≤ p.xd by omega)
      grind
  have hn := cntZ_nonneg Q js.length
  have h5 : P * p.xd * sumZ (fun q => if (jobOf js q).ta = (i : Int) then x q else 0) js.length ≤ P * p.xd * (cntZ Q js.length * tk.lo) := Int.mul_le_mul_of_nonneg_left h1 (Int.mul_nonneg (by have := S.pos; omega) (by omega))
  have h6 := Int.mul_le_mul_of_nonneg_right h2 (Int.mul_nonneg (show 0 ≤ tk.lo by omega) hw0)
  have h7 : P * p.xd * (cntZ Q js.length * tk.lo) = cntZ Q js.length * tk.ev * p.xd * (tk.lo * w i) := by rw [← hw]; grind
  omega
theorem edf_crit (hv : jobsB ts js = true) (S : Sch ts p P w) (h01 : t0 ≤ a1) (h1d : a1 ≤ d) {i : Nat} {tk : Tk} (hi : ts[i]? = some tk) (hc : tk.cr = true)
    (hx : ∀ q, q < js.length → (jobOf js q).ta = (i : Int) → x q ≤ if a1 ≤ (jobOf js q).tm then (if (jobOf js q).tm + tk.ev ≤ d then tk.hi else 0) else (if t0 ≤ (jobOf js q).tm ∧ kl ts js p q ≤ a1 * p.xd + p.xn * (d - a1) then tk.lo else 0)) :
    P * p.xn * sumZ (fun q => if (jobOf js q).ta = (i : Int) then x q else 0) js.length ≤ (a1 - t0) * p.xd * (tk.lo * w i) + (d - a1) * p.xn * (tk.hi * w i) := by
  have hs := set_jobs hv
  have hok := tk_nums (set_ok hs (get_mem hi))
  have hxn := S.xn
  have hxd : 1 ≤ p.xd := Int.le_trans S.xn S.xle
  have hxle := S.xle
  obtain ⟨hw, hw0⟩ := S.wev i tk hi
  let QA : Nat → Bool := fun q => decide ((jobOf js q).ta = (i : Int)) && (decide (t0 ≤ (jobOf js q).tm) && (decide ((jobOf js q).tm < a1) && decide (kl ts js p q ≤ a1 * p.xd + p.xn * (d - a1))))
  let QB : Nat → Bool := fun q => decide ((jobOf js q).ta = (i : Int)) && (decide (a1 ≤ (jobOf js q).tm) && decide ((jobOf js q).tm + tk.ev ≤ d))
  have hA : ∀ q, QA q = true ↔ (jobOf js q).ta = (i : Int) ∧ t0 ≤ (jobOf js q).tm ∧ (jobOf js q).tm < a1 ∧ kl ts js p q ≤ a1 * p.xd + p.xn * (d - a1) := fun q => by simp [QA]
  have hB : ∀ q, QB q = true ↔ (jobOf js q).ta = (i : Int) ∧ a1 ≤ (jobOf js q).tm ∧ (jobOf js q).tm + tk.ev ≤ d := fun q => by simp [QB]
  have h1 : sumZ (fun q => if (jobOf js q).ta = (i : Int) then x q else 0) js.length ≤ cntZ QA js.length * tk.lo + cntZ QB js.length * tk.hi := by
    refine Int.le_trans (sumZ_le (g := fun q => (if QA q then tk.lo else 0) + (if QB q then tk.hi else 0)) fun q hq => ?_) ?_
    · try dsimp only
      by_cases e : (jobOf js q).ta = (i : Int)
      · rw [if_pos e]
        refine Int.le_trans (hx q hq e) ?_
        by_cases ha : a1 ≤ (jobOf js q).tm
        · rw [if_pos ha]
          have hnA : ¬ QA q = true := fun h => by have := ((hA q).1 h).2.2.1; omega
          rw [if_neg hnA]
          by_cases hd : (jobOf js q).tm + tk.ev ≤ d
          · rw [if_pos hd, if_pos ((hB q).2 ⟨e, ha, hd⟩)]; omega
          · rw [if_neg hd]; split <;> omega
        · rw [if_neg ha]
          by_cases hd : t0 ≤ (jobOf js q).tm ∧ kl ts js p q ≤ a1 * p.xd + p.xn * (d - a1)
          · rw [if_pos hd, if_pos ((hA q).2 ⟨e, hd.1, by omega, hd.2⟩)]; split <;> omega
          · rw [if_neg hd]; split <;> split <;> omega
      · rw [if_neg e]; split <;> split <;> omega
    · rw [sumZ_add]
      exact Int.add_le_add (sumZ_cnt (P := QA) (x := fun _ => tk.lo) (c := tk.lo) fun q _ _ => Int.le_refl _) (sumZ_cnt (P := QB) (x := fun _ => tk.hi) (c := tk.hi) fun q _ _ => Int.le_refl _)
  have h2 : p.xn * tk.ev * (cntZ QA js.length * tk.lo + cntZ QB js.length * tk.hi) ≤ (a1 - t0) * p.xd * tk.lo + (d - a1) * p.xn * tk.hi := by
    rcases cnt_span hv (Q := QB) hi (fun q _ e => ((hB q).1 e).1) with h0 | ⟨a, b, b1, b2, b3, b4, b5, b6⟩
    · rw [h0, Int.zero_mul, Int.add_zero]
      have hr : 0 ≤ (d - a1) * p.xn := Int.mul_nonneg (by omega) (by omega)
      have hr2 := Int.mul_le_mul_of_nonneg_left (show tk.lo ≤ tk.hi by omega) hr
      rcases cnt_span hv (Q := QA) hi (fun q _ e => ((hA q).1 e).1) with g0 | ⟨a, b, b1, b2, b3, b4, b5, b6⟩
      · rw [g0, Int.zero_mul, Int.mul_zero]
        exact Int.add_nonneg (Int.mul_nonneg (Int.mul_nonneg (by omega) (by omega)) (by omega)) (Int.mul_nonneg hr (by omega))
      · have ha := (hA a).1 b3
        have hb := (hA b).1 b4
        have hkb := hb.2.2.2
        rw [kl_crit (by rw [tk_atM hi hb.1]; exact hc), tk_atM hi hb.1, S.imp i tk hi] at hkb
        have e1 : p.xn * (cntZ QA js.length * tk.ev) ≤ (a1 - t0) * p.xd + p.xn * (d - a1) := by
          have h3 := Int.mul_le_mul_of_nonneg_left b6 (show 0 ≤ p.xn by omega)
          have hab : 0 ≤ (jobOf js b).tm - (jobOf js a).tm := by have := tm_mono hv b1 b2; omega
          have h4 := Int.mul_le_mul_of_nonneg_right hxle hab
          have h5 := Int.mul_le_mul_of_nonneg_right ha.2.1 (show 0 ≤ p.xd by omega)
          grind
        have e2 := Int.mul_le_mul_of_nonneg_right e1 (show 0 ≤ tk.lo by omega)
        grind
    · have ha := (hB a).1 b3
      have hb := (hB b).1 b4
      have n2 : cntZ QB js.length * tk.ev ≤ d - (jobOf js a).tm := by omega
      have n1 : cntZ QA js.length * tk.ev ≤ (jobOf js a).tm - t0 := by
        rcases cnt_span hv (Q := QA) hi (fun q _ e => ((hA q).1 e).1) with g0 | ⟨u, v, c1, c2, c3, c4, c5, c6⟩
        · rw [g0, Int.zero_mul]; omega
        · have hu := (hA u).1 c3
          have hv' := (hA v).1 c4
          have hva : v < a := by
            rcases Nat.lt_or_ge v a with hh | hh
            · exact hh
            · have := tm_mono hv hh c2; omega
          have := tm_far hv hva (by omega) (by rw [hv'.1, ha.1])
          rw [tk_atM hi ha.1] at this
          omega
      have m1 := Int.mul_le_mul_of_nonneg_left n1 (show 0 ≤ p.xn * tk.lo from Int.mul_nonneg (by omega) (by omega))
      have m2 := Int.mul_le_mul_of_nonneg_left n2 (show 0 ≤ p.xn * tk.hi from Int.mul_nonneg (by omega) (by omega))
      have m3 : 0 ≤ p.xn * ((jobOf js a).tm - a1) * (tk.hi - tk.lo) := Int.mul_nonneg (Int.mul_nonneg (by omega) (by omega)) (by omega)
      have m4 : 0 ≤ (p.xd - p.xn) * (a1 - t0) * tk.lo := Int.mul_nonneg (Int.mul_nonneg (by omega) (by omega)) (by omega)
      grind
  have h5 := Int.mul_le_mul_of_nonneg_left h1 (show 0 ≤ P * p.xn from Int.mul_nonneg (by have := S.pos; omega) (by omega))
  have h6 := Int.mul_le_mul_of_nonneg_right h2 hw0
  have h7 : P * p.xn * (cntZ QA js.length * tk.lo + cntZ QB js.length * tk.hi) = p.xn * tk.ev * (cntZ QA js.length * tk.lo + cntZ QB js.length * tk.hi) * w i := by rw [← hw]; grind
  have h8 : ((a1 - t0) * p.xd * tk.lo + (d - a1) * p.xn * tk.hi) * w i = (a1 - t0) * p.xd * (tk.lo * w i) + (d - a1) * p.xn * (tk.hi * w i) := by grind
  omega
/-- Work that keeps to the deadlines fits. -/
theorem edf_fin (hv : jobsB ts js = true) (S : Sch ts p P w) (h01 : t0 ≤ a1) (h1d : a1 ≤ d)
    (hn : ∀ q, q < js.length → (tkJ ts js q).cr = false → x q ≤ if t0 ≤ (jobOf js q).tm ∧ kl ts js p q ≤ a1 * p.xd + p.xn * (d - a1) then (tkJ ts js q).lo else 0)
    (hc : ∀ q, q < js.length → (tkJ ts js q).cr = true → x q ≤ if a1 ≤ (jobOf js q).tm then (if (jobOf js q).tm + (tkJ ts js q).ev ≤ d then (tkJ ts js q).hi else 0) else (if t0 ≤ (jobOf js q).tm ∧ kl ts js p q ≤ a1 * p.xd + p.xn * (d - a1) then (tkJ ts js q).lo else 0)) :
    sumZ x js.length ≤ d - t0 := by
  have hs := set_jobs hv
  have hxn := S.xn
  have hxd : 1 ≤ p.xd := Int.le_trans S.xn S.xle
  have hP := S.pos
  have e1 : sumZ x js.length = sumZ (fun j => sumZ (fun q => if (jobOf js q).ta = (j : Int) then x q else 0) js.length) ts.length := by
    rw [← sumZ_class]
    refine sumZ_congr fun q hq => ?_
    have := job_ok hv hq
    rw [if_pos ⟨this.2.2.2.1, this.2.2.2.2.1⟩]
  let Y := (a1 - t0) * p.xd + p.xn * (d - a1)
  have e2 : sumZ (fun j => sumZ (fun q => if (jobOf js q).ta = (j : Int) then x q else 0) js.length * (P * p.xn * p.xd)) ts.length ≤
      sumZ (fun j => (if (tkOf ts (j : Int)).cr then 0 else (tkOf ts (j : Int)).lo * w j) * (p.xn * Y) + ((if (tkOf ts (j : Int)).cr then (tkOf ts (j : Int)).lo * w j else 0) * (p.xd * ((a1 - t0) * p.xd)) + (if (tkOf ts (j : Int)).cr then (tkOf ts (j : Int)).hi * w j else 0) * (p.xd * ((d - a1) * p.xn)))) ts.length := by
    refine sumZ_le fun j hj => ?_
    obtain ⟨tk, ht⟩ : ∃ tk, ts[j]? = some tk := ⟨_, List.getElem?_eq_getElem hj⟩
    try dsimp only
    rw [tkOf_get ht]
    cases hcr : tk.cr
    · have h := edf_not (x := x) hv S h01 h1d ht hcr fun q hq hqj => by
        have := hn q hq (by rw [tk_atM ht hqj]; exact hcr)
        rw [tk_atM ht hqj] at this
        exact this
      have h2 := Int.mul_le_mul_of_nonneg_left h (show 0 ≤ p.xn by omega)
      simp only [Bool.false_eq_true, if_false, Y]
      grind
    · have h := edf_crit (x := x) hv S h01 h1d ht hcr fun q hq hqj => by
        have := hc q hq (by rw [tk_atM ht hqj]; exact hcr)
        rw [tk_atM ht hqj] at this
        exact this
      have h2 := Int.mul_le_mul_of_nonneg_left h (show 0 ≤ p.xd by omega)
      simp only [if_true]
      grind
  rw [sumZ_mul, ← e1, sumZ_add, sumZ_add, sumZ_mul, sumZ_mul, sumZ_mul] at e2
  change sumZ x js.length * (P * p.xn * p.xd) ≤ shAm ts w * (p.xn * Y) + (shBm ts w * (p.xd * ((a1 - t0) * p.xd)) + shHm ts w * (p.xd * ((d - a1) * p.xn))) at e2
  have k1 := Int.mul_le_mul_of_nonneg_left S.c1 (show 0 ≤ (a1 - t0) * p.xd from Int.mul_nonneg (by omega) (by omega))
  have k2 := Int.mul_le_mul_of_nonneg_left S.c2 (show 0 ≤ (d - a1) * p.xn from Int.mul_nonneg (by omega) (by omega))
  have k3 : sumZ x js.length * (P * p.xn * p.xd) ≤ (d - t0) * (P * p.xn * p.xd) := by
    simp only [Y] at e2
    grind
  exact Int.le_of_mul_le_mul_right k3 (Int.mul_pos (Int.mul_pos (by omega) (by omega)) (by omega))
end fin
end
end Go.Proofs.YtgponahmkjohiabGreatDoor
