import Derived.Test.YtgponahmkjohiabGreatDoorT1Pk22
namespace Go.Proofs.YtgponahmkjohiabGreatDoor
open Go.RowKit
set_option linter.unusedVariables false
theorem least_nat {P : Nat → Prop} : ∀ n : Nat, P n → ∃ m, m ≤ n ∧ P m ∧ ∀ k, k < m → ¬ P k := by
  intro n
  induction n using Nat.strongRecOn with
  | _ n ih =>
    intro h
    by_cases hx : ∃ k, k < n ∧ P k
    · obtain ⟨k, h1, h2⟩ := hx
      obtain ⟨m, m1, m2⟩ := ih k h1 h2
      exact ⟨m, by omega, m2⟩
    · exact ⟨n, Nat.le_refl _, h, fun k hk hp => hx ⟨k, hk, hp⟩⟩
section
variable {ts : List Tk} {js : List Jb} {p : Po} {P : Int} {w : Nat → Int}
theorem ch_due (hv : jobsB ts js = true) (hd : p.due = true) {n c k : Nat} (hc : chN ts js p n = some c) (hk : opn ts js p n k) : keyJ ts p (hiN ts js p n) (jobOf js c) ≤ keyJ ts p (hiN ts js p n) (jobOf js k) := by
  have h := (ch_some hv hc).2 k hk
  rcases Int.lt_or_le (keyJ ts p (hiN ts js p n) (jobOf js k)) (keyJ ts p (hiN ts js p n) (jobOf js c)) with h2 | h2
  · rw [(firstB_due hd).2 (.inl h2)] at h; cases h
  · exact h2
theorem g_not (q : Nat) {n : Nat} : ∀ {m : Nat}, n ≤ m → (∀ u, n ≤ u → u < m → chN ts js p u ≠ some q) → gN ts js p m q = gN ts js p n q := by
  intro m hm
  induction hm with
  | refl => intro _; rfl
  | @step m hm ih =>
    intro h
    rw [← ih fun u h1 h2 => h u h1 (Nat.lt_succ_of_lt h2)]
    show (if chN ts js p m = some q then gN ts js p m q + 1 else gN ts js p m q) = _
    rw [if_neg (h m hm (Nat.lt_succ_self _))]
theorem cap_low (hv : jobsB ts js = true) {t0 s q : Nat} {V : Int} (hs : t0 ≤ s) (hq : q < js.length) (hstart : ∀ q, lft ts js p t0 q → ¬ kl ts js p q ≤ V)
    (hrun : ∀ u, t0 ≤ u → u < s → ∀ c, chN ts js p u = some c → kl ts js p c ≤ V) (hlow : ∀ u, t0 ≤ u → u < s → hiN ts js p u = false) :
    gN ts js p s q - gN ts js p t0 q ≤ if (t0 : Int) ≤ (jobOf js q).tm ∧ kl ts js p q ≤ V then (tkJ ts js q).lo else 0 := by
  by_cases hV : kl ts js p q ≤ V
  · by_cases ht : (t0 : Int) ≤ (jobOf js q).tm
    · rw [if_pos ⟨ht, hV⟩, g_zero hv hq ht]
      have := g_low hv hq ht s hlow
      omega
    · rw [if_neg fun h => ht h.1, (g_same hv (by omega) (fun hl => hstart q hl hV) s hs).1]
      omega
  · rw [if_neg fun h => hV h.2, g_not q hs fun u h1 h2 hc => hV (hrun u h1 h2 q hc)]
    omega
theorem sum_runs (hv : jobsB ts js = true) {t0 t k : Nat} (h : t0 ≤ t) (hk : k < js.length) (hr : ∀ u, t0 ≤ u → u < t → ∃ c, chN ts js p u = some c) :
    sumZ (fun q => gN ts js p t q - gN ts js p t0 q + if q = k then 1 else 0) js.length = (t : Int) - t0 + 1 := by
  rw [sumZ_add, sumZ_point (f := fun q => if q = k then (1 : Int) else 0) hk (fun q _ hq => if_neg hq)]
  have := work_eq hv (fun _ => true) h fun u h1 h2 => by obtain ⟨c, hc⟩ := hr u h1 h2; exact ⟨c, hc, rfl⟩
  simp only [if_true] at this
  rw [this]
  simp
theorem kl_le (S : Sch ts p P w) (hv : jobsB ts js = true) {q : Nat} (hq : q < js.length) : kl ts js p q ≤ ((jobOf js q).tm + (tkJ ts js q).du) * p.xd := by
  have hok := tk_nums (job_ok hv hq).2.2.2.2.2.2.2
  have hxle := S.xle
  cases hc : (tkJ ts js q).cr
  · rw [kl_not hc]; exact Int.le_refl _
  · rw [kl_crit hc]
    have := Int.mul_le_mul_of_nonneg_right hxle (show 0 ≤ (tkJ ts js q).du by omega)
    grind
theorem du_ev (S : Sch ts p P w) (hv : jobsB ts js = true) {q : Nat} (hq : q < js.length) : (tkJ ts js q).du = (tkJ ts js q).ev := by
  have h := job_ok hv hq
  obtain ⟨i, hi⟩ := Int.eq_ofNat_of_zero_le h.2.2.2.1
  have hti : ts[i]? = some (ts[i]'(by omega)) := List.getElem?_eq_getElem (by omega)
  rw [tk_atM hti hi]
  exact S.imp i _ hti
/-- While something is left, the mode stays high. -/
theorem hi_from (hv : jobsB ts js = true) {s t : Nat} (hh : hiN ts js p s = true) (hl : ∀ u, s < u → u ≤ t → ∃ q, lft ts js p u q) : ∀ u, s ≤ u → u ≤ t → hiN ts js p u = true := by
  intro u hu
  induction hu with
  | refl => intro _; exact hh
  | @step u hu ih => intro hut; exact hi_stays hv (ih (by omega)) (hl (u + 1) (by have : s ≤ u := hu; omega) hut)
theorem edf_low (hv : jobsB ts js = true) (S : Sch ts p P w) {k t : Nat} (hl : lft ts js p t k) (hlow : (runM ts js p t).hi = false) (hd : (jobOf js k).tm + (tkJ ts js k).du ≤ t) : False := by
  obtain ⟨hk, htm⟩ := lft_len hv hl
  obtain ⟨a1, a2, a3, a4, a5, a6, a7, a8⟩ := job_ok hv hk
  have hok := tk_nums a8
  obtain ⟨a, ha⟩ := Int.eq_ofNat_of_zero_le a2
  have hxd : 1 ≤ p.xd := Int.le_trans S.xn S.xle
  have hxn := S.xn
  generalize hdd : (jobOf js k).tm + (tkJ ts js k).du = d at hd
  have hkk : kl ts js p k ≤ d * p.xd := by rw [← hdd]; exact kl_le S hv hk
  obtain ⟨t0, b1, b2, b3⟩ := busy_from (p := p) hv (fun q => kl ts js p q ≤ d * p.xd) a
  have hleft : ∀ u, t0 < u → u ≤ t → ∃ q, lft ts js p u q := fun u h1 h2 => by
    by_cases hua : u ≤ a
    · obtain ⟨q, hq, _⟩ := b3 u h1 hua; exact ⟨q, hq⟩
    · exact ⟨k, lft_since hv hl (by omega) h2⟩
  have hlo : ∀ u, t0 ≤ u → u ≤ t → hiN ts js p u = false := fun u h1 h2 => by
    cases hh : hiN ts js p u
    · rfl
    · have := hi_from hv hh (fun v v1 v2 => hleft v (by omega) v2) t h2 (Nat.le_refl _)
      have := ((hiN_iff hv t).1 this).1
      rw [hlow] at this; cases this
  have hat : a < t := by omega
  have hrun : ∀ u, t0 ≤ u → u < t → ∃ c, chN ts js p u = some c ∧ kl ts js p c ≤ d * p.xd := fun u h1 h2 => by
    have key : ∀ q, opn ts js p u q → kl ts js p q ≤ d * p.xd → ∃ c, chN ts js p u = some c ∧ kl ts js p c ≤ d * p.xd := fun q ho hq => by
      obtain ⟨c, hc⟩ := ch_ex hv ho
      have := ch_due hv S.due hc ho
      rw [hlo u h1 (Nat.le_of_lt h2)] at this
      exact ⟨c, hc, Int.le_trans this hq⟩
    by_cases hua : u < a
    · obtain ⟨q, hq, hqV⟩ := b3 (u + 1) (by omega) (by omega)
      exact key q (opn_of_next hv hq) hqV
    · exact key k (opn_since hv hl u (by omega) h2) hkk
  have hcap : ∀ q, q < js.length → gN ts js p t q - gN ts js p t0 q ≤ if (t0 : Int) ≤ (jobOf js q).tm ∧ kl ts js p q ≤ d * p.xd then (tkJ ts js q).lo else 0 := fun q hq =>
    cap_low hv (by omega) hq b2 (fun u h1 h2 c hc => by obtain ⟨c', hc', h⟩ := hrun u h1 h2; rw [hc] at hc'; obtain rfl := Option.some.inj hc'; exact h) (fun u h1 h2 => hlo u h1 (Nat.le_of_lt h2))
  have hgk : gN ts js p t k < (tkJ ts js k).lo := by
    obtain ⟨q, hq, rfl⟩ := hl
    exact (run_at (p := p) hv t).1.low hlow q hq
  have hcap2 : ∀ q, q < js.length → gN ts js p t q - gN ts js p t0 q + (if q = k then 1 else 0) ≤ if (t0 : Int) ≤ (jobOf js q).tm ∧ kl ts js p q ≤ d * p.xd + p.xn * (d - d) then (tkJ ts js q).lo else 0 := fun q hq => by
    rw [show d * p.xd + p.xn * (d - d) = d * p.xd by rw [Int.sub_self, Int.mul_zero, Int.add_zero]]
    by_cases e : q = k
    · subst e
      rw [if_pos rfl, if_pos ⟨by omega, hkk⟩]
      have := g_pos (p := p) hv t0 q
      omega
    · rw [if_neg e]; have := hcap q hq; omega
  have hfin := edf_fin (t0 := (t0 : Int)) (a1 := d) (d := d) hv S (by omega) (Int.le_refl _) (fun q hq _ => hcap2 q hq) (fun q hq hc => by
    refine Int.le_trans (hcap2 q hq) ?_
    by_cases e : d ≤ (jobOf js q).tm
    · rw [if_pos e, if_neg]
      · split
        · have := tk_nums (job_ok hv hq).2.2.2.2.2.2.2; omega
        · exact Int.le_refl _
      · rintro ⟨_, h⟩
        rw [kl_crit hc, Int.sub_self, Int.mul_zero, Int.add_zero] at h
        have h1 := Int.mul_le_mul_of_nonneg_right e (show 0 ≤ p.xd by omega)
        have h2 : 0 < p.xn * (tkJ ts js q).du := Int.mul_pos (by omega) (by have := tk_nums (job_ok hv hq).2.2.2.2.2.2.2; omega)
        omega
    · rw [if_neg e]; exact Int.le_refl _)
  rw [sum_runs hv (by omega) hk fun u h1 h2 => by obtain ⟨c, hc, _⟩ := hrun u h1 h2; exact ⟨c, hc⟩] at hfin
  omega
theorem due_le_of (S : Sch ts p P w) {q r : Nat} (h : keyJ ts p true (jobOf js q) ≤ keyJ ts p true (jobOf js r)) : (jobOf js q).tm + (tkJ ts js q).du ≤ (jobOf js r).tm + (tkJ ts js r).du := by
  have hxd : 1 ≤ p.xd := Int.le_trans S.xn S.xle
  rw [key_high, key_high] at h
  exact Int.le_of_mul_le_mul_right h (by omega)
theorem edf_high (hv : jobsB ts js = true) (S : Sch ts p P w) {k t : Nat} (hl : lft ts js p t k) (hhi : (runM ts js p t).hi = true) (hd : (jobOf js k).tm + (tkJ ts js k).du ≤ t) : False := by
  obtain ⟨hk, htm⟩ := lft_len hv hl
  obtain ⟨a1, a2, a3, a4, a5, a6, a7, a8⟩ := job_ok hv hk
  have hok := tk_nums a8
  obtain ⟨a, ha⟩ := Int.eq_ofNat_of_zero_le a2
  have hxd : 1 ≤ p.xd := Int.le_trans S.xn S.xle
  have hxn := S.xn
  have hkc : (tkJ ts js k).cr = true := by
    obtain ⟨q, hq, rfl⟩ := hl
    exact (run_at (p := p) hv t).1.crit hhi q hq
  generalize hdd : (jobOf js k).tm + (tkJ ts js k).du = d at hd
  -- since when needs are high
  obtain ⟨s, hst, hs1, hs2⟩ := least_nat (P := fun s => ∀ u, s ≤ u → u < t → hiN ts js p u = true) t (fun u h1 h2 => by omega)
  have hs0 : 1 ≤ s := by
    rcases Nat.eq_zero_or_pos s with rfl | h
    · exfalso
      have h0 := hs1 0 (Nat.le_refl _) (by omega)
      have := ((hiN_iff hv 0).1 h0).1
      cases this
    · exact h
  have hsl : hiN ts js p (s - 1) = false := by
    cases hh : hiN ts js p (s - 1)
    · rfl
    · refine absurd (fun u h1 h2 => ?_) (hs2 (s - 1) (by omega))
      by_cases e : u = s - 1
      · rw [e]; exact hh
      · exact hs1 u (by omega) h2
  have hsh : (runM ts js p s).hi = true := by
    by_cases e : s = t
    · rw [e]; exact hhi
    · exact ((hiN_iff hv s).1 (hs1 s (Nat.le_refl _) (by omega))).1
  have hat : a < t := by omega
  obtain ⟨t1, b1, b2, b3⟩ := busy_from (p := p) hv (fun q => (jobOf js q).tm + (tkJ ts js q).du ≤ d) a
  have hgk : gN ts js p t k < (jobOf js k).ne := (opn_g hv (opn_of_lft hv hl)).2.1
  -- while needs are high, jobs run that are due by then
  have hrunH : ∀ u, s ≤ u → t1 ≤ u → u < t → ∃ c, chN ts js p u = some c ∧ (jobOf js c).tm + (tkJ ts js c).du ≤ d ∧ (tkJ ts js c).cr = true := fun u h1 h2 h3 => by
    have hu := hs1 u h1 h3
    have key : ∀ q, opn ts js p u q → (jobOf js q).tm + (tkJ ts js q).du ≤ d → ∃ c, chN ts js p u = some c ∧ (jobOf js c).tm + (tkJ ts js c).du ≤ d ∧ (tkJ ts js c).cr = true := fun q ho hq => by
      obtain ⟨c, hc⟩ := ch_ex hv ho
      have := ch_due hv S.due hc ho
      rw [hu] at this
      have := due_le_of S this
      exact ⟨c, hc, by omega, (opn_g hv (ch_some hv hc).1).2.2.1 hu⟩
    by_cases hua : u < a
    · obtain ⟨q, hq, hqV⟩ := b3 (u + 1) (by omega) (by omega)
      exact key q (opn_of_next hv hq) hqV
    · exact key k (opn_since hv hl u (by omega) h3) (by omega)
  have hcapH : ∀ q, q < js.length → ∀ z : Nat, gN ts js p t q - gN ts js p z q + (if q = k then 1 else 0) ≤ (tkJ ts js q).hi := fun q hq z => by
    have h1 := g_pos (p := p) hv z q
    have h2 := g_le (p := p) hv hq t
    have h3 := (job_ok hv hq).2.2.2.2.2.1
    by_cases e : q = k
    · subst e; rw [if_pos rfl]; omega
    · rw [if_neg e]; omega
  by_cases hcase : s ≤ t1
  · -- all of it in the high mode
    have hnotrun : ∀ q, ¬ ((jobOf js q).tm + (tkJ ts js q).du ≤ d ∧ (tkJ ts js q).cr = true) → gN ts js p t q = gN ts js p t1 q := fun q hq => g_not q (by omega) fun u h1 h2 hc => by
      obtain ⟨c, hc', h⟩ := hrunH u (by omega) h1 h2
      rw [hc] at hc'
      obtain rfl := Option.some.inj hc'
      exact hq h
    have hfin := edf_fin (t0 := (t1 : Int)) (a1 := (t1 : Int)) (d := d) (x := fun q => gN ts js p t q - gN ts js p t1 q + if q = k then 1 else 0) hv S (Int.le_refl _) (by omega) (fun q hq hc => by
      have hqk : q ≠ k := by rintro rfl; rw [hkc] at hc; cases hc
      have hlo := tk_nums (job_ok hv hq).2.2.2.2.2.2.2
      try dsimp only
      rw [hnotrun q (fun h => by rw [hc] at h; cases h.2), if_neg hqk]
      split <;> omega) (fun q hq hc => by
      have hlo := tk_nums (job_ok hv hq).2.2.2.2.2.2.2
      have hde := du_ev S hv hq
      try dsimp only
      by_cases e : (t1 : Int) ≤ (jobOf js q).tm
      · rw [if_pos e]
        by_cases hD : (jobOf js q).tm + (tkJ ts js q).ev ≤ d
        · rw [if_pos hD]; exact hcapH q hq t1
        · have hqk : q ≠ k := by rintro rfl; omega
          rw [if_neg hD, hnotrun q (fun h => hD (by omega)), if_neg hqk]; omega
      · have hqk : q ≠ k := by rintro rfl; omega
        rw [if_neg e, if_neg hqk]
        have : gN ts js p t q = gN ts js p t1 q := by
          by_cases hD : (jobOf js q).tm + (tkJ ts js q).du ≤ d
          · exact (g_same hv (by omega) (fun hx => b2 q hx hD) t (by omega)).1
          · exact hnotrun q fun h => hD h.1
        rw [this]
        split <;> omega)
    rw [sum_runs hv (by omega) hk fun u h1 h2 => by obtain ⟨c, hc, _⟩ := hrunH u (by omega) h1 h2; exact ⟨c, hc⟩] at hfin
    omega
  · -- the switch lies within
    have ht1s : t1 < s := by omega
    have hex : ∃ q, lft ts js p s q ∧ (jobOf js q).tm + (tkJ ts js q).du ≤ d := by
      by_cases hsa : s ≤ a
      · exact b3 s ht1s hsa
      · exact ⟨k, lft_since hv hl (by omega) hst, by omega⟩
    obtain ⟨q0, hq0⟩ := hex
    obtain ⟨q1, _, ⟨hq1, hq1d⟩, hqmin⟩ := least_nat (P := fun q => lft ts js p s q ∧ (jobOf js q).tm + (tkJ ts js q).du ≤ d) q0 hq0
    obtain ⟨hq1l, hq1t⟩ := lft_len hv hq1
    have hq1c : (tkJ ts js q1).cr = true := by
      obtain ⟨q, hq, rfl⟩ := hq1
      exact (run_at (p := p) hv s).1.crit hsh q hq
    obtain ⟨e, he⟩ := Int.eq_ofNat_of_zero_le (job_ok hv hq1l).2.1
    have hq1ok := tk_nums (job_ok hv hq1l).2.2.2.2.2.2.2
    have hmin : ∀ q, lft ts js p s q → (jobOf js q).tm + (tkJ ts js q).du ≤ d → (e : Int) ≤ (jobOf js q).tm := fun q hq hqd => by
      rcases Nat.lt_or_ge q q1 with hh | hh
      · exact absurd ⟨hq, hqd⟩ (hqmin q hh)
      · have := tm_mono hv hh (lft_len hv hq).1; omega
    have hes : e < s := by omega
    have hkV : kl ts js p q1 ≤ (e : Int) * p.xd + p.xn * (d - e) := by
      rw [kl_crit hq1c, he]
      have := Int.mul_le_mul_of_nonneg_left (show (tkJ ts js q1).du ≤ d - e by omega) (show 0 ≤ p.xn by omega)
      omega
    obtain ⟨t0, c1, c2, c3⟩ := busy_from (p := p) hv (fun q => kl ts js p q ≤ (e : Int) * p.xd + p.xn * (d - e)) e
    have hleft : ∀ u, t0 < u → u ≤ s → ∃ q, lft ts js p u q := fun u h1 h2 => by
      by_cases hue : u ≤ e
      · obtain ⟨q, hq, _⟩ := c3 u h1 hue; exact ⟨q, hq⟩
      · exact ⟨q1, lft_since hv hq1 (by omega) h2⟩
    have hlo : ∀ u, t0 ≤ u → u < s → hiN ts js p u = false := fun u h1 h2 => by
      cases hh : hiN ts js p u
      · rfl
      · have := hi_from hv hh (t := s - 1) (fun v v1 v2 => hleft v (by omega) (by omega)) (s - 1) (by omega) (Nat.le_refl _)
        rw [hsl] at this; cases this
    have hrunL : ∀ u, t0 ≤ u → u < s → ∃ c, chN ts js p u = some c ∧ kl ts js p c ≤ (e : Int) * p.xd + p.xn * (d - e) := fun u h1 h2 => by
      have key : ∀ q, opn ts js p u q → kl ts js p q ≤ (e : Int) * p.xd + p.xn * (d - e) → ∃ c, chN ts js p u = some c ∧ kl ts js p c ≤ (e : Int) * p.xd + p.xn * (d - e) := fun q ho hq => by
        obtain ⟨c, hc⟩ := ch_ex hv ho
        have := ch_due hv S.due hc ho
        rw [hlo u h1 h2] at this
        exact ⟨c, hc, Int.le_trans this hq⟩
      by_cases hue : u < e
      · obtain ⟨q, hq, hqV⟩ := c3 (u + 1) (by omega) (by omega)
        exact key q (opn_of_next hv hq) hqV
      · exact key q1 (opn_since hv hq1 u (by omega) h2) hkV
    have hcapL : ∀ q, q < js.length → gN ts js p s q - gN ts js p t0 q ≤ if (t0 : Int) ≤ (jobOf js q).tm ∧ kl ts js p q ≤ (e : Int) * p.xd + p.xn * (d - e) then (tkJ ts js q).lo else 0 := fun q hq =>
      cap_low hv (by omega) hq c2 (fun u h1 h2 c hc => by obtain ⟨c', hc', h⟩ := hrunL u h1 h2; rw [hc] at hc'; obtain rfl := Option.some.inj hc'; exact h) hlo
    have hke : (e : Int) ≤ (jobOf js k).tm := by
      by_cases hks : (jobOf js k).tm < (s : Int)
      · exact hmin k (lft_since hv hl hks hst) (by omega)
      · omega
    have hrunH' : ∀ u, s ≤ u → u < t → ∀ c, chN ts js p u = some c → (jobOf js c).tm + (tkJ ts js c).du ≤ d ∧ (tkJ ts js c).cr = true := fun u h1 h2 c hc => by
      obtain ⟨c', hc', h⟩ := hrunH u h1 (by omega) h2
      rw [hc] at hc'
      obtain rfl := Option.some.inj hc'
      exact h
    have hfin := edf_fin (t0 := (t0 : Int)) (a1 := (e : Int)) (d := d) (x := fun q => gN ts js p t q - gN ts js p t0 q + if q = k then 1 else 0) hv S (by omega) (by omega) (fun q hq hc => by
      have hqk : q ≠ k := by rintro rfl; rw [hkc] at hc; cases hc
      try dsimp only
      rw [if_neg hqk, g_not q hst fun u h1 h2 hx => by have := (hrunH' u h1 h2 q hx).2; rw [hc] at this; cases this]
      have := hcapL q hq
      omega) (fun q hq hc => by
      have hlo' := tk_nums (job_ok hv hq).2.2.2.2.2.2.2
      have hde := du_ev S hv hq
      try dsimp only
      by_cases h1 : (e : Int) ≤ (jobOf js q).tm
      · rw [if_pos h1]
        by_cases hD : (jobOf js q).tm + (tkJ ts js q).ev ≤ d
        · rw [if_pos hD]; exact hcapH q hq t0
        · have hqk : q ≠ k := by rintro rfl; omega
          rw [if_neg hD, if_neg hqk, g_not q (show t0 ≤ t by omega) fun u u1 u2 hx => ?_]
          · omega
          · by_cases hus : u < s
            · obtain ⟨c, hc', hcV⟩ := hrunL u u1 hus
              rw [hx] at hc'
              obtain rfl := Option.some.inj hc'
              rw [kl_crit hc] at hcV
              have m1 := Int.mul_le_mul_of_nonneg_right S.xle (show 0 ≤ (jobOf js q).tm - e by omega)
              have m2 : p.xn * ((jobOf js q).tm - e + (tkJ ts js q).du) ≤ p.xn * (d - e) := by grind
              have m3 := Int.le_of_mul_le_mul_left m2 (by omega)
              omega
            · have := (hrunH' u (by omega) u2 q hx).1
              omega
      · have hqk : q ≠ k := by rintro rfl; omega
        rw [if_neg h1, if_neg hqk, g_not q hst fun u u1 u2 hx => ?_]
        · have := hcapL q hq; omega
        · have hoq := (ch_some hv hx).1
          have hlq : lft ts js p u q := by
            rcases (opn_iff hv).1 hoq with h | ⟨_, h, _⟩
            · exact h
            · omega
          have := hmin q (lft_since hv hlq (by omega) u1) (hrunH' u u1 u2 q hx).1
          exact h1 this)
    rw [sum_runs hv (by omega) hk fun u h1 h2 => by
      by_cases hus : u < s
      · obtain ⟨c, hc, _⟩ := hrunL u h1 hus; exact ⟨c, hc⟩
      · obtain ⟨c, hc, _⟩ := hrunH u (by omega) (by omega) h2; exact ⟨c, hc⟩] at hfin
    omega
/-- Tasks whose shares leave enough are in time by deadlines. -/
theorem edf_all (hv : jobsB ts js = true) (S : Sch ts p P w) : ∀ k t, lft ts js p t k → (t : Int) < (jobOf js k).tm + (tkJ ts js k).du := by
  intro k t hl
  rcases Int.lt_or_le (t : Int) ((jobOf js k).tm + (tkJ ts js k).du) with h | h
  · exact h
  · exfalso
    cases hh : (runM ts js p t).hi
    · exact edf_low hv S hl hh h
    · exact edf_high hv S hl hh h
end
end Go.Proofs.YtgponahmkjohiabGreatDoor

namespace Go.Proofs.YtgponahmkjohiabGreatDoor
open Go.RowKit
set_option linter.unusedVariables false
def lowW (n : Nat) (ts : List Tk) (c : Bool) : Nat := ((ts.filter fun t => t.cr == c).map fun t => n / t.ev.toNat * t.lo.toNat).sum
theorem low_share {ts : List Tk} {n : Nat} (c : Bool) (hn : 0 < n) (h : ∀ t ∈ ts, t.ok = true) (hd : ∀ t ∈ ts, t.ev.toNat ∣ n) : lowL ts c = redN (lowW n ts c) n := by
  have hf : ∀ t ∈ ts.filter (fun t => t.cr == c), 0 < t.ev.toNat := fun t ht => by have := ok_nums (h t (List.mem_filter.1 ht).1); omega
  have e1 : sumN ((ts.filter fun t => t.cr == c).map part) = sumN ((ts.filter fun t => t.cr == c).map fun t => (t.lo.toNat, t.ev.toNat)) :=
    sum_rep _ _ _ fun t ht => ⟨red_pos (hf t ht), hf t ht, red_same _ _⟩
  unfold lowL
  rw [e1, sum_common hn]
  · unfold lowW
    rw [List.map_map]
    rfl
  · intro x hx
    obtain ⟨t, ht, rfl⟩ := List.mem_map.1 hx
    exact ⟨hf t ht, hd t (List.mem_filter.1 ht).1⟩
theorem sum_filt (p : Tk → Bool) (f : Tk → Nat) : ∀ ts : List Tk, ((ts.filter p).map f).sum = (ts.map fun t => if p t then f t else 0).sum
  | [] => rfl
  | t :: ts => by
    rw [List.filter_cons, List.map_cons, List.sum_cons, ← sum_filt p f ts]
    cases p t
    · simp
    · simp
theorem sum_all (f : Tk → Nat) (ts : List Tk) : (((ts.map f).sum : Nat) : Int) = sumZ (fun j => ((f (tkOf ts (j : Int)) : Nat) : Int)) ts.length := by
  have h := sum_tasks (ts := ts) f (Nat.le_refl _)
  rw [List.take_length] at h
  exact h
def wP (n : Nat) (ts : List Tk) (j : Nat) : Int := ((n / (tkOf ts (j : Int)).ev.toNat : Nat) : Int)
theorem tk_in {ts : List Tk} {j : Nat} (hj : j < ts.length) : ts[j]? = some (tkOf ts (j : Int)) ∧ tkOf ts (j : Int) ∈ ts := by
  have hg : ts[j]? = some ts[j] := List.getElem?_eq_getElem hj
  rw [tkOf_get hg]
  exact ⟨hg, List.getElem_mem hj⟩
theorem shA_is {ts : List Tk} {n : Nat} (h : ∀ t ∈ ts, t.ok = true) : shAm ts (wP n ts) = ((lowW n ts false : Nat) : Int) := by
  unfold shAm lowW
  rw [sum_filt, sum_all]
  refine sumZ_congr fun j hj => ?_
  have ht := ok_nums (h _ (tk_in hj).2)
  try dsimp only
  unfold wP
  obtain ⟨l, hl⟩ := Int.eq_ofNat_of_zero_le (show 0 ≤ (tkOf ts (j : Int)).lo by omega)
  cases hc : (tkOf ts (j : Int)).cr
  · rw [hl]; simp [Int.mul_comm]
  · simp
theorem shB_is {ts : List Tk} {n : Nat} (h : ∀ t ∈ ts, t.ok = true) : shBm ts (wP n ts) = ((lowW n ts true : Nat) : Int) := by
  unfold shBm lowW
  rw [sum_filt, sum_all]
  refine sumZ_congr fun j hj => ?_
  have ht := ok_nums (h _ (tk_in hj).2)
  try dsimp only
  unfold wP
  obtain ⟨l, hl⟩ := Int.eq_ofNat_of_zero_le (show 0 ≤ (tkOf ts (j : Int)).lo by omega)
  cases hc : (tkOf ts (j : Int)).cr
  · simp
  · rw [hl]; simp [Int.mul_comm]
theorem shH_is {ts : List Tk} {n : Nat} (h : ∀ t ∈ ts, t.ok = true) : shHm ts (wP n ts) = ((needs n ts : Nat) : Int) := by
  unfold shHm needs
  rw [sum_filt, sum_all]
  refine sumZ_congr fun j hj => ?_
  have ht := ok_nums (h _ (tk_in hj).2)
  try dsimp only
  unfold wP
  obtain ⟨l, hl⟩ := Int.eq_ofNat_of_zero_le (show 0 ≤ (tkOf ts (j : Int)).hi by omega)
  cases hc : (tkOf ts (j : Int)).cr
  · simp
  · rw [hl]; simp [Int.mul_comm]
theorem shB_le {ts : List Tk} {n : Nat} (h : ∀ t ∈ ts, t.ok = true) : shBm ts (wP n ts) ≤ shHm ts (wP n ts) := by
  unfold shBm shHm
  refine sumZ_le fun j hj => ?_
  have ht := ok_nums (h _ (tk_in hj).2)
  try dsimp only
  split
  · exact Int.mul_le_mul_of_nonneg_right (by omega) (Int.natCast_nonneg _)
  · exact Int.le_refl _
theorem needs_none {ts : List Tk} {n : Nat} (h : ∀ t ∈ ts, t.cr = false) : needs n ts = 0 := by
  unfold needs
  rw [List.filter_eq_nil_iff.2 (fun t ht => by rw [h t ht]; decide)]
  rfl
section
variable {a1 a2 b1 b2 h1 h2 x1 x2 m1 m2 A B H n : Nat}
theorem sch_plain (ha : a1 * n = A * a2) (hh : h1 * n = H * h2) (pa : 0 < a2) (ph : 0 < h2) (h : a1 * h2 + h1 * a2 ≤ a2 * h2) : A + H ≤ n := by
  refine Nat.le_of_mul_le_mul_right (c := a2 * h2) ?_ (Nat.mul_pos pa ph)
  have e1 := Nat.mul_le_mul_right n h
  have e2 : (a1 * h2 + h1 * a2) * n = (A + H) * (a2 * h2) := by
    have : (a1 * h2 + h1 * a2) * n = a1 * n * h2 + h1 * n * a2 := by rw [Nat.add_mul, Nat.mul_right_comm a1 h2 n, Nat.mul_right_comm h1 a2 n]
    rw [this, ha, hh, Nat.add_mul, ← Nat.mul_assoc, Nat.mul_comm a2 h2, ← Nat.mul_assoc]
  rw [e2] at e1
  rw [Nat.mul_comm n]
  exact e1
theorem sch_fac (ha : a1 * n = A * a2) (hb : b1 * n = B * b2) (pa : 0 < a2) (pb : 0 < b2) (hlt : a1 < a2) (hx : x1 * (b2 * (a2 - a1)) = b1 * a2 * x2) : (x1 : Int) * n = x1 * A + x2 * B := by
  have h1 : (x1 : Int) * (b2 * ((a2 : Int) - a1)) = b1 * a2 * x2 := by
    have : (((a2 - a1 : Nat)) : Int) = (a2 : Int) - a1 := by omega
    rw [← this]
    exact_mod_cast hx
  have h2 : (a1 : Int) * n = A * a2 := by exact_mod_cast ha
  have h3 : (b1 : Int) * n = B * b2 := by exact_mod_cast hb
  have hp : (0 : Int) < (a2 : Int) * b2 := Int.mul_pos (by omega) (by omega)
  refine Int.eq_of_mul_eq_mul_right (a := (a2 : Int) * b2) (by omega) ?_
  grind
theorem sch_virt (ha : a1 * n = A * a2) (hh : h1 * n = H * h2) (pa : 0 < a2) (ph : 0 < h2) (pm : 0 < m2) (hm : m1 * (x2 * a2) = x1 * a1 * m2) (h : m1 * h2 + h1 * m2 ≤ m2 * h2) : (A : Int) * x1 + H * x2 ≤ n * x2 := by
  have e2 : (a1 : Int) * n = A * a2 := by exact_mod_cast ha
  have e3 : (h1 : Int) * n = H * h2 := by exact_mod_cast hh
  have e4 : (m1 : Int) * (x2 * a2) = x1 * a1 * m2 := by exact_mod_cast hm
  have e5 : (m1 : Int) * h2 + h1 * m2 ≤ m2 * h2 := by exact_mod_cast h
  have e6 := Int.mul_le_mul_of_nonneg_right e5 (show (0 : Int) ≤ (x2 : Int) * a2 * n from Int.mul_nonneg (Int.mul_nonneg (by omega) (by omega)) (by omega))
  have hp : (0 : Int) < (m2 : Int) * (h2 * a2) := Int.mul_pos (by omega) (Int.mul_pos (by omega) (by omega))
  have f1 : ((m1 : Int) * h2 + h1 * m2) * ((x2 : Int) * a2 * n) = (m1 * (x2 * a2)) * (h2 * n) + (h1 * n) * (m2 * x2 * a2) := by clear ha hh hm h e2 e3 e4 e5 e6 hp; grind
  have f2 : ((x1 : Int) * a1 * m2) * (h2 * n) = (a1 * n) * (x1 * m2 * h2) := by clear ha hh hm h e2 e3 e4 e5 e6 hp f1; grind
  have f3 : ((A : Int) * a2) * (x1 * m2 * h2) + (H * h2) * (m2 * x2 * a2) = (A * x1 + H * x2) * (m2 * (h2 * a2)) := by clear ha hh hm h e2 e3 e4 e5 e6 hp f1 f2; grind
  have f4 : (m2 : Int) * h2 * (x2 * a2 * n) = n * x2 * (m2 * (h2 * a2)) := by clear ha hh hm h e2 e3 e4 e5 e6 hp f1 f2 f3; grind
  rw [f1, e4, f2, e2, e3, f3, f4] at e6
  exact Int.le_of_mul_le_mul_right e6 hp
end
/-- Tasks that hold with virtual deadlines keep what is asked of their shares. -/
theorem sch_of {ts : List Tk} (hv : virtV ts = true) : ∃ P w, Sch ts (poOf ts 1) P w := by
  have hf : facB ts = true := by unfold virtV at hv; simp at hv; exact hv.1
  have hi := fac_imp hf
  have hs := imp_set hi
  have hok := (setB_all hs).2
  have hall := imp_all hi
  have hn := prodE_pos hok
  have hd : ∀ t ∈ ts, t.ev.toNat ∣ prodE ts := fun t ht => prodE_dvd ht
  obtain ⟨n, hnn⟩ : ∃ n, prodE ts = n := ⟨_, rfl⟩
  rw [hnn] at hn hd
  have ea : lowOf ts false = redN (lowW n ts false) n := by unfold lowOf; rw [hs, if_pos rfl]; exact low_share false hn hok hd
  have eb : lowOf ts true = redN (lowW n ts true) n := by unfold lowOf; rw [hs, if_pos rfl]; exact low_share true hn hok hd
  have eh : highOf ts = redN (needs n ts) n := by unfold highOf; rw [hs, if_pos rfl]; exact needs_share hn hok hd
  have ra : (lowOf ts false).1 * n = lowW n ts false * (lowOf ts false).2 := by rw [ea]; exact red_same _ _
  have rb : (lowOf ts true).1 * n = lowW n ts true * (lowOf ts true).2 := by rw [eb]; exact red_same _ _
  have rh : (highOf ts).1 * n = needs n ts * (highOf ts).2 := by rw [eh]; exact red_same _ _
  obtain ⟨pa, pb, ph⟩ := set_pos hs
  have hpx : polX ts 1 = facV ts := rfl
  have hle := (facV_sh hf).2.1
  refine ⟨(n : Int), wP n ts, rfl, fun i tk h => hall tk (List.mem_of_getElem? h), by omega, ?_, ?_, ?_, ?_, ?_⟩
  · show 1 ≤ (((polX ts 1).1 : Nat) : Int)
    rw [hpx]
    by_cases hc : ∃ t ∈ ts, t.cr = true
    · obtain ⟨t, ht, hc⟩ := hc
      have := fac_pos hf ht hc
      omega
    · have hno : ∀ t ∈ ts, t.cr = false := fun t ht => by
        cases h : t.cr
        · rfl
        · exact absurd ⟨t, ht, h⟩ hc
      have h0 : (highOf ts).1 = 0 := by
        rw [needs_none hno, Nat.zero_mul] at rh
        rcases Nat.mul_eq_zero.1 rh with h | h
        · exact h
        · omega
      have hpl : plainV ts = true := by
        cases hp : plainV ts
        · have h2 := (fac_two hf hp).1
          have h3 := sum_le_one pa pb h2
          have h4 : leN (addN (lowOf ts false) (highOf ts)) (1, 1) := sum_le_one' pa ph (by
            rw [h0, Nat.zero_mul, Nat.add_zero]
            refine Nat.mul_le_mul_right _ ?_
            refine Nat.le_of_mul_le_mul_right (c := (lowOf ts true).2) ?_ pb
            omega)
          have : plainV ts = true := by unfold plainV; rw [hi, leB_iff.2 h4]; rfl
          rw [hp] at this
          cases this
        · rfl
      rw [facV_plain hpl]
      decide
  · show (((polX ts 1).1 : Nat) : Int) ≤ (((polX ts 1).2 : Nat) : Int)
    rw [hpx]
    omega
  · intro i tk h
    have hm := List.mem_of_getElem? h
    have ho := ok_nums (hok tk hm)
    unfold wP
    rw [tkOf_get h]
    refine ⟨?_, Int.natCast_nonneg _⟩
    have e := Nat.mul_div_cancel' (hd tk hm)
    have e2 : ((tk.ev.toNat : Nat) : Int) = tk.ev := by omega
    rw [← e2]
    exact_mod_cast e
  · show shAm ts (wP n ts) * (((polX ts 1).1 : Nat) : Int) + shBm ts (wP n ts) * (((polX ts 1).2 : Nat) : Int) ≤ (n : Int) * (((polX ts 1).1 : Nat) : Int)
    rw [hpx]
    cases hp : plainV ts
    · have hx := facV_some hf hp
      have hlt := fac_lt hf hp
      have hx2 : (facV ts).1 * ((lowOf ts true).2 * ((lowOf ts false).2 - (lowOf ts false).1)) = (lowOf ts true).1 * (lowOf ts false).2 * (facV ts).2 := by
        rw [hx]; unfold facN; exact red_same _ _
      have h := sch_fac ra rb pa pb hlt hx2
      rw [shA_is hok, shB_is hok]
      grind
    · rw [facV_plain hp]
      have h := sch_plain ra rh pa ph (sum_le_one pa ph (plain_le hp))
      have h2 := shB_le (n := n) hok
      rw [shH_is hok] at h2
      rw [shA_is hok]
      simp only [Int.natCast_one, Int.mul_one]
      omega
  · show shAm ts (wP n ts) * (((polX ts 1).1 : Nat) : Int) + shHm ts (wP n ts) * (((polX ts 1).2 : Nat) : Int) ≤ (n : Int) * (((polX ts 1).2 : Nat) : Int)
    rw [hpx, shA_is hok, shH_is hok]
    cases hp : plainV ts
    · have hvv : leN (addN (mulN (facV ts) (lowOf ts false)) (highOf ts)) (1, 1) := by
        unfold virtV at hv
        rw [hf, hp] at hv
        simp at hv
        exact leB_iff.1 hv
      have p2 : 0 < (facV ts).2 := (facV_sh hf).1.pos
      have pm : 0 < (mulN (facV ts) (lowOf ts false)).2 := red_pos (Nat.mul_pos p2 pa)
      exact sch_virt ra rh pa ph pm (by unfold mulN; exact red_same _ _) (sum_le_one pm ph hvv)
    · rw [facV_plain hp]
      have h := sch_plain ra rh pa ph (sum_le_one pa ph (plain_le hp))
      simp only [Int.natCast_one, Int.mul_one]
      omega
end Go.Proofs.YtgponahmkjohiabGreatDoor
