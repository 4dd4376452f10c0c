import Derived.Test.YtgponahmkjohiaaGreatDoorWND
namespace Go.Proofs.YtgponahmkjohiaaGreatDoor
open Go.RowKit
set_option linter.unusedVariables false
def shAm (ts : List Tk) (w : Nat → Int) : Int := sumZ (fun j => if (tkOf ts (j : Int)).cr then 0 else (tkOf ts (j : Int)).lo * w j) ts.length
def shBm (ts : List Tk) (w : Nat → Int) : Int := sumZ (fun j => if (tkOf ts (j : Int)).cr then (tkOf ts (j : Int)).lo * w j else 0) ts.length
def shHm (ts : List Tk) (w : Nat → Int) : Int := sumZ (fun j => if (tkOf ts (j : Int)).cr then (tkOf ts (j : Int)).hi * w j else 0) ts.length
/-- What is known of the shares of tasks and of the factor: P is a common multiple of all periods, w j the part of it that is one of task j. -/
structure Sch (ts : List Tk) (p : Po) (P : Int) (w : Nat → Int) : Prop where
  due : p.due = true
  imp : ∀ (i : Nat) (tk : Tk), ts[i]? = some tk → tk.du = tk.ev
  pos : 1 ≤ P
  xn : 1 ≤ p.xn
  xle : p.xn ≤ p.xd
  wev : ∀ (i : Nat) (tk : Tk), ts[i]? = some tk → tk.ev * w i = P ∧ 0 ≤ w i
  c1 : shAm ts w * p.xn + shBm ts w * p.xd ≤ P * p.xn
  c2 : shAm ts w * p.xn + shHm ts w * p.xd ≤ P * p.xd
section
variable {ts : List Tk} {js : List Jb} {p : Po} {P : Int} {w : Nat → Int}
/-- When a job is due while needs are low, times the denominator. -/
def kl (ts : List Tk) (js : List Jb) (p : Po) (q : Nat) : Int := keyJ ts p false (jobOf js q)
theorem kl_not {q : Nat} (h : (tkJ ts js q).cr = false) : kl ts js p q = ((jobOf js q).tm + (tkJ ts js q).du) * p.xd := by
  unfold kl keyJ
  unfold tkJ at h ⊢
  rw [h]
  rfl
theorem kl_crit {q : Nat} (h : (tkJ ts js q).cr = true) : kl ts js p q = (jobOf js q).tm * p.xd + p.xn * (tkJ ts js q).du := by
  unfold kl keyJ
  unfold tkJ at h ⊢
  rw [h]
  rfl
theorem key_high (q : Nat) : keyJ ts p true (jobOf js q) = ((jobOf js q).tm + (tkJ ts js q).du) * p.xd := by
  unfold keyJ tkJ
  simp
theorem tk_atM {i : Nat} {tk : Tk} (hi : ts[i]? = some tk) {q : Nat} (h : (jobOf js q).ta = (i : Int)) : tkJ ts js q = tk := by unfold tkJ; rw [h, tkOf_get hi]
/-- How often jobs of one task come in a stretch. -/
theorem cnt_span (hv : jobsB ts js = true) {Q : Nat → Bool} {i : Nat} {tk : Tk} (hi : ts[i]? = some tk) (hQ : ∀ q, q < js.length → Q q = true → (jobOf js q).ta = (i : Int)) :
    cntZ Q js.length = 0 ∨ ∃ a b, a ≤ b ∧ b < js.length ∧ Q a = true ∧ Q b = true ∧ 1 ≤ cntZ Q js.length ∧ cntZ Q js.length * tk.ev ≤ (jobOf js b).tm - (jobOf js a).tm + tk.ev := by
  rcases cnt_far hv (P := Q) (z := (i : Int)) (T := tk.ev) (fun q hq e => ⟨hQ q hq e, by rw [tk_atM hi (hQ q hq e)]⟩) js.length (Nat.le_refl _) with h | ⟨a, b, h1, h2, h3, h4, h5⟩
  · exact .inl h
  · by_cases h0 : cntZ Q js.length = 0
    · exact .inl h0
    · right
      have := cntZ_nonneg Q js.length
      refine ⟨a, b, h1, h2, h3, h4, by omega, ?_⟩
      rw [Int.sub_mul, Int.one_mul] at h5
      omega
section fin
variable {t0 a1 d : Int} {x : Nat → Int}
theorem edf_not (hv : jobsB ts js = true) (S : Sch ts p P w) (h01 : t0 ≤ a1) (h1d : a1 ≤ d) {i : Nat} {tk : Tk} (hi : ts[i]? = some tk) (hc : tk.cr = false)
    (hx : ∀ q, q < js.length → (jobOf js q).ta = (i : Int) → x q ≤ if t0 ≤ (jobOf js q).tm ∧ kl ts js p q ≤ a1 * p.xd + p.xn * (d - a1) then tk.lo else 0) :
    P * p.xd * sumZ (fun q => if (jobOf js q).ta = (i : Int) then x q else 0) js.length ≤ ((a1 - t0) * p.xd + p.xn * (d - a1)) * (tk.lo * w i) := by
  have hs := set_jobs hv
  have hok := tk_nums (set_ok hs (get_mem hi))
  have hxn := S.xn
  have hxd : 1 ≤ p.xd := Int.le_trans S.xn S.xle
  obtain ⟨hw, hw0⟩ := S.wev i tk hi
  have hY : 0 ≤ (a1 - t0) * p.xd + p.xn * (d - a1) := Int.add_nonneg (Int.mul_nonneg (by omega) (by omega)) (Int.mul_nonneg (by omega) (by omega))
  let Q : Nat → Bool := fun q => decide ((jobOf js q).ta = (i : Int)) && (decide (t0 ≤ (jobOf js q).tm) && decide (kl ts js p q ≤ a1 * p.xd + p.xn * (d - a1)))
  have hQi : ∀ q, Q q = true ↔ (jobOf js q).ta = (i : Int) ∧ t0 ≤ (jobOf js q).tm ∧ kl ts js p q ≤ a1 * p.xd + p.xn * (d - a1) := fun q => by simp [Q]
  have h1 : sumZ (fun q => if (jobOf js q).ta = (i : Int) then x q else 0) js.length ≤ cntZ Q js.length * tk.lo := by
    refine Int.le_trans (sumZ_le fun q hq => ?_) (sumZ_cnt (P := Q) (x := fun _ => tk.lo) (c := tk.lo) fun q _ _ => Int.le_refl _)
    try dsimp only
    by_cases e : (jobOf js q).ta = (i : Int)
    · rw [if_pos e]
      refine Int.le_trans (hx q hq e) ?_
      by_cases h : t0 ≤ (jobOf js q).tm ∧ kl ts js p q ≤ a1 * p.xd + p.xn * (d - a1)
      · rw [if_pos h, if_pos ((hQi q).2 ⟨e, h⟩)]; exact Int.le_refl _
      · rw [if_neg h]; split <;> omega
    · rw [if_neg e]; split <;> omega
  have h2 : cntZ Q js.length * tk.ev * p.xd ≤ (a1 - t0) * p.xd + p.xn * (d - a1) := by
    rcases cnt_span hv (Q := Q) hi (fun q _ e => ((hQi q).1 e).1) with h0 | ⟨a, b, b1, b2, b3, b4, b5, b6⟩
    · rw [h0, Int.zero_mul, Int.zero_mul]; exact hY
    · have ha := (hQi a).1 b3
      have hb := (hQi b).1 b4
      have hkb := hb.2.2
      rw [kl_not (by rw [tk_atM hi hb.1]; exact hc), tk_atM hi hb.1, S.imp i tk hi] at hkb
      have h3 := Int.mul_le_mul_of_nonneg_right b6 (show 0 ≤ p.xd by omega)
      have h4 := Int.mul_le_mul_of_nonneg_right ha.2.1 (show 0 ≤ p.xd by omega)
      grind
  have hn := cntZ_nonneg Q js.length
  have h5 : P * p.xd * sumZ (fun q => if (jobOf js q).ta = (i : Int) then x q else 0) js.length ≤ P * p.xd * (cntZ Q js.length * tk.lo) := Int.mul_le_mul_of_nonneg_left h1 (Int.mul_nonneg (by have := S.pos; omega) (by omega))
  have h6 := Int.mul_le_mul_of_nonneg_right h2 (Int.mul_nonneg (show 0 ≤ tk.lo by omega) hw0)
  have h7 : P * p.xd * (cntZ Q js.length * tk.lo) = cntZ Q js.length * tk.ev * p.xd * (tk.lo * w i) := by rw [← hw]; grind
  omega
theorem edf_crit (hv : jobsB ts js = true) (S : Sch ts p P w) (h01 : t0 ≤ a1) (h1d : a1 ≤ d) {i : Nat} {tk : Tk} (hi : ts[i]? = some tk) (hc : tk.cr = true)
    (hx : ∀ q, q < js.length → (jobOf js q).ta = (i : Int) → x q ≤ if a1 ≤ (jobOf js q).tm then (if (jobOf js q).tm + tk.ev ≤ d then tk.hi else 0) else (if t0 ≤ (jobOf js q).tm ∧ kl ts js p q ≤ a1 * p.xd + p.xn * (d - a1) then tk.lo else 0)) :
    P * p.xn * sumZ (fun q => if (jobOf js q).ta = (i : Int) then x q else 0) js.length ≤ (a1 - t0) * p.xd * (tk.lo * w i) + (d - a1) * p.xn * (tk.hi * w i) := by
  have hs := set_jobs hv
  have hok := tk_nums (set_ok hs (get_mem hi))
  have hxn := S.xn
  have hxd : 1 ≤ p.xd := Int.le_trans S.xn S.xle
  have hxle := S.xle
  obtain ⟨hw, hw0⟩ := S.wev i tk hi
  let QA : Nat → Bool := fun q => decide ((jobOf js q).ta = (i : Int)) && (decide (t0 ≤ (jobOf js q).tm) && (decide ((jobOf js q).tm < a1) && decide (kl ts js p q ≤ a1 * p.xd + p.xn * (d - a1))))
  let QB : Nat → Bool := fun q => decide ((jobOf js q).ta = (i : Int)) && (decide (a1 ≤ (jobOf js q).tm) && decide ((jobOf js q).tm + tk.ev ≤ d))
  have hA : ∀ q, QA q = true ↔ (jobOf js q).ta = (i : Int) ∧ t0 ≤ (jobOf js q).tm ∧ (jobOf js q).tm < a1 ∧ kl ts js p q ≤ a1 * p.xd + p.xn * (d - a1) := fun q => by simp [QA]
  have hB : ∀ q, QB q = true ↔ (jobOf js q).ta = (i : Int) ∧ a1 ≤ (jobOf js q).tm ∧ (jobOf js q).tm + tk.ev ≤ d := fun q => by simp [QB]
  have h1 : sumZ (fun q => if (jobOf js q).ta = (i : Int) then x q else 0) js.length ≤ cntZ QA js.length * tk.lo + cntZ QB js.length * tk.hi := by
    refine Int.le_trans (sumZ_le (g := fun q => (if QA q then tk.lo else 0) + (if QB q then tk.hi else 0)) fun q hq => ?_) ?_
    · try dsimp only
      by_cases e : (jobOf js q).ta = (i : Int)
      · rw [if_pos e]
        refine Int.le_trans (hx q hq e) ?_
        by_cases ha : a1 ≤ (jobOf js q).tm
        · rw [if_pos ha]
          have hnA : ¬ QA q = true := fun h => by have := ((hA q).1 h).2.2.1; omega
          rw [if_neg hnA]
          by_cases hd : (jobOf js q).tm + tk.ev ≤ d
          · rw [if_pos hd, if_pos ((hB q).2 ⟨e, ha, hd⟩)]; omega
          · rw [if_neg hd]; split <;> omega
        · rw [if_neg ha]
          by_cases hd : t0 ≤ (jobOf js q).tm ∧ kl ts js p q ≤ a1 * p.xd + p.xn * (d - a1)
          · rw [if_pos hd, if_pos ((hA q).2 ⟨e, hd.1, by omega, hd.2⟩)]; split <;> omega
          · rw [if_neg hd]; split <;> split <;> omega
      · rw [if_neg e]; split <;> split <;> omega
    · rw [sumZ_add]
      exact Int.add_le_add (sumZ_cnt (P := QA) (x := fun _ => tk.lo) (c := tk.lo) fun q _ _ => Int.le_refl _) (sumZ_cnt (P := QB) (x := fun _ => tk.hi) (c := tk.hi) fun q _ _ => Int.le_refl _)
  have h2 : p.xn * tk.ev * (cntZ QA js.length * tk.lo + cntZ QB js.length * tk.hi) ≤ (a1 - t0) * p.xd * tk.lo + (d - a1) * p.xn * tk.hi := by
    rcases cnt_span hv (Q := QB) hi (fun q _ e => ((hB q).1 e).1) with h0 | ⟨a, b, b1, b2, b3, b4, b5, b6⟩
    · rw [h0, Int.zero_mul, Int.add_zero]
      have hr : 0 ≤ (d - a1) * p.xn := Int.mul_nonneg (by omega) (by omega)
      have hr2 := Int.mul_le_mul_of_nonneg_left (show tk.lo ≤ tk.hi by omega) hr
      rcases cnt_span hv (Q := QA) hi (fun q _ e => ((hA q).1 e).1) with g0 | ⟨a, b, b1, b2, b3, b4, b5, b6⟩
      · rw [g0, Int.zero_mul, Int.mul_zero]
        exact Int.add_nonneg (Int.mul_nonneg (Int.mul_nonneg (by omega) (by omega)) (by omega)) (Int.mul_nonneg hr (by omega))
      · have ha := (hA a).1 b3
        have hb := (hA b).1 b4
        have hkb := hb.2.2.2
        rw [kl_crit (by rw [tk_atM hi hb.1]; exact hc), tk_atM hi hb.1, S.imp i tk hi] at hkb
        have e1 : p.xn * (cntZ QA js.length * tk.ev) ≤ (a1 - t0) * p.xd + p.xn * (d - a1) := by
          have h3 := Int.mul_le_mul_of_nonneg_left b6 (show 0 ≤ p.xn by omega)
          have hab : 0 ≤ (jobOf js b).tm - (jobOf js a).tm := by have := tm_mono hv b1 b2; omega
          have h4 := Int.mul_le_mul_of_nonneg_right hxle hab
          have h5 := Int.mul_le_mul_of_nonneg_right ha.2.1 (show 0 ≤ p.xd by omega)
          grind
        have e2 := Int.mul_le_mul_of_nonneg_right e1 (show 0 ≤ tk.lo by omega)
        grind
    · have ha := (hB a).1 b3
      have hb := (hB b).1 b4
      have n2 : cntZ QB js.length * tk.ev ≤ d - (jobOf js a).tm := by omega
      have n1 : cntZ QA js.length * tk.ev ≤ (jobOf js a).tm - t0 := by
        rcases cnt_span hv (Q := QA) hi (fun q _ e => ((hA q).1 e).1) with g0 | ⟨u, v, c1, c2, c3, c4, c5, c6⟩
        · rw [g0, Int.zero_mul]; omega
        · have hu := (hA u).1 c3
          have hv' := (hA v).1 c4
          have hva : v < a := by
            rcases Nat.lt_or_ge v a with hh | hh
            · exact hh
            · have := tm_mono hv hh c2; omega
          have := tm_far hv hva (by omega) (by rw [hv'.1, ha.1])
          rw [tk_atM hi ha.1] at this
          omega
      have m1 := Int.mul_le_mul_of_nonneg_left n1 (show 0 ≤ p.xn * tk.lo from Int.mul_nonneg (by omega) (by omega))
      have m2 := Int.mul_le_mul_of_nonneg_left n2 (show 0 ≤ p.xn * tk.hi from Int.mul_nonneg (by omega) (by omega))
      have m3 : 0 ≤ p.xn * ((jobOf js a).tm - a1) * (tk.hi - tk.lo) := Int.mul_nonneg (Int.mul_nonneg (by omega) (by omega)) (by omega)
      have m4 : 0 ≤ (p.xd - p.xn) * (a1 - t0) * tk.lo := Int.mul_nonneg (Int.mul_nonneg (by omega) (by omega)) (by omega)
      grind
  have h5 := Int.mul_le_mul_of_nonneg_left h1 (show 0 ≤ P * p.xn from Int.mul_nonneg (by have := S.pos; omega) (by omega))
  have h6 := Int.mul_le_mul_of_nonneg_right h2 hw0
  have h7 : P * p.xn * (cntZ QA js.length * tk.lo + cntZ QB js.length * tk.hi) = p.xn * tk.ev * (cntZ QA js.length * tk.lo + cntZ QB js.length * tk.hi) * w i := by rw [← hw]; grind
  have h8 : ((a1 - t0) * p.xd * tk.lo + (d - a1) * p.xn * tk.hi) * w i = (a1 - t0) * p.xd * (tk.lo * w i) + (d - a1) * p.xn * (tk.hi * w i) := by grind
  omega
/-- Work that keeps to the deadlines fits. -/
theorem edf_fin (hv : jobsB ts js = true) (S : Sch ts p P w) (h01 : t0 ≤ a1) (h1d : a1 ≤ d)
    (hn : ∀ q, q < js.length → (tkJ ts js q).cr = false → x q ≤ if t0 ≤ (jobOf js q).tm ∧ kl ts js p q ≤ a1 * p.xd + p.xn * (d - a1) then (tkJ ts js q).lo else 0)
    (hc : ∀ q, q < js.length → (tkJ ts js q).cr = true → x q ≤ if a1 ≤ (jobOf js q).tm then (if (jobOf js q).tm + (tkJ ts js q).ev ≤ d then (tkJ ts js q).hi else 0) else (if t0 ≤ (jobOf js q).tm ∧ kl ts js p q ≤ a1 * p.xd + p.xn * (d - a1) then (tkJ ts js q).lo else 0)) :
    sumZ x js.length ≤ d - t0 := by
  have hs := set_jobs hv
  have hxn := S.xn
  have hxd : 1 ≤ p.xd := Int.le_trans S.xn S.xle
  have hP := S.pos
  have e1 : sumZ x js.length = sumZ (fun j => sumZ (fun q => if (jobOf js q).ta = (j : Int) then x q else 0) js.length) ts.length := by
    rw [← sumZ_class]
    refine sumZ_congr fun q hq => ?_
    have := job_ok hv hq
    rw [if_pos ⟨this.2.2.2.1, this.2.2.2.2.1⟩]
  let Y := (a1 - t0) * p.xd + p.xn * (d - a1)
  have e2 : sumZ (fun j => sumZ (fun q => if (jobOf js q).ta = (j : Int) then x q else 0) js.length * (P * p.xn * p.xd)) ts.length ≤
      sumZ (fun j => (if (tkOf ts (j : Int)).cr then 0 else (tkOf ts (j : Int)).lo * w j) * (p.xn * Y) + ((if (tkOf ts (j : Int)).cr then (tkOf ts (j : Int)).lo * w j else 0) * (p.xd * ((a1 - t0) * p.xd)) + (if (tkOf ts (j : Int)).cr then (tkOf ts (j : Int)).hi * w j else 0) * (p.xd * ((d - a1) * p.xn)))) ts.length := by
    refine sumZ_le fun j hj => ?_
    obtain ⟨tk, ht⟩ : ∃ tk, ts[j]? = some tk := ⟨_, List.getElem?_eq_getElem hj⟩
    try dsimp only
    rw [tkOf_get ht]
    cases hcr : tk.cr
    · have h := edf_not (x := x) hv S h01 h1d ht hcr fun q hq hqj => by
        have := hn q hq (by rw [tk_atM ht hqj]; exact hcr)
        rw [tk_atM ht hqj] at this
        exact this
      have h2 := Int.mul_le_mul_of_nonneg_left h (show 0 ≤ p.xn by omega)
      simp only [Bool.false_eq_true, if_false, Y]
      grind
    · have h := edf_crit (x := x) hv S h01 h1d ht hcr fun q hq hqj => by
        have := hc q hq (by rw [tk_atM ht hqj]; exact hcr)
        rw [tk_atM ht hqj] at this
        exact this
      have h2 := Int.mul_le_mul_of_nonneg_left h (show 0 ≤ p.xd by omega)
      simp only [if_true]
      grind
  rw [sumZ_mul, ← e1, sumZ_add, sumZ_add, sumZ_mul, sumZ_mul, sumZ_mul] at e2
  change sumZ x js.length * (P * p.xn * p.xd) ≤ shAm ts w * (p.xn * Y) + (shBm ts w * (p.xd * ((a1 - t0) * p.xd)) + shHm ts w * (p.xd * ((d - a1) * p.xn))) at e2
  have k1 := Int.mul_le_mul_of_nonneg_left S.c1 (show 0 ≤ (a1 - t0) * p.xd from Int.mul_nonneg (by omega) (by omega))
  have k2 := Int.mul_le_mul_of_nonneg_left S.c2 (show 0 ≤ (d - a1) * p.xn from Int.mul_nonneg (by omega) (by omega))
  have k3 : sumZ x js.length * (P * p.xn * p.xd) ≤ (d - t0) * (P * p.xn * p.xd) := by
    simp only [Y] at e2
    grind
  exact Int.le_of_mul_le_mul_right k3 (Int.mul_pos (Int.mul_pos (by omega) (by omega)) (by omega))
end fin
end
end Go.Proofs.YtgponahmkjohiaaGreatDoor
