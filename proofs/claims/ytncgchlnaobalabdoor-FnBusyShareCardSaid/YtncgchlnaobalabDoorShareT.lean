/- Shares of tasks: sums of fractions over lists of tasks. No program in this text. -/
import Derived.Test.YtncgchlnaobalabDoorShareC
import Derived.Test.YtncgchlnaobalabDoorLawCrit
import Derived.Test.YtncgchlnaobalabDoorHyper
namespace Go.Proofs.YtncgchlnaobalabDoor

/-- The part of one task; the share of all tasks of a kind; the share of the critical ones with their high needs. -/
def part (t : Tk) : Nat × Nat := redN t.lo.toNat t.ev.toNat
def lowL (ts : List Tk) (c : Bool) : Nat × Nat := sumN ((ts.filter fun t => t.cr == c).map part)
def lowOf (ts : List Tk) (c : Bool) : Nat × Nat := if setB ts then lowL ts c else (0, 0)
def highOf (ts : List Tk) : Nat × Nat := if setB ts then lowL (critL ts) true else (0, 0)

theorem ok_of_set {ts : List Tk} {t : Tk} (h : setB ts = true) (ht : t ∈ ts) : t.ok = true := by
  unfold setB at h
  simp at h
  exact h.2 t ht
theorem ok_nums {t : Tk} (h : t.ok = true) : 1 ≤ t.lo ∧ t.lo ≤ t.hi ∧ t.hi ≤ t.ev ∧ t.ev ≤ 20 := by
  unfold Tk.ok validB at h
  simp at h
  omega
theorem part_facts {t : Tk} (h : t.ok = true) : 0 < (part t).2 ∧ (part t).2 ≤ 20 ∧ (part t).1 ≤ (part t).2 ∧ 0 < (part t).1 := by
  obtain ⟨a, b, c, d⟩ := ok_nums h
  have h1 : 0 < t.ev.toNat := by omega
  refine ⟨red_pos h1, Nat.le_trans (red_le_den _ _) (by omega), ?_, ?_⟩
  · unfold part redN
    exact Nat.div_le_div_right (by omega)
  · have := red_zero (n := t.lo.toNat) h1
    unfold part
    omega
theorem parts_facts {ts : List Tk} (c : Bool) (h : ∀ t ∈ ts, t.ok = true) : ∀ x ∈ (ts.filter fun t => t.cr == c).map part, 0 < x.2 ∧ x.2 ≤ 20 ∧ x.1 ≤ x.2 := by
  intro x hx
  obtain ⟨t, ht, rfl⟩ := List.mem_map.1 hx
  obtain ⟨p1, p2, p3, _⟩ := part_facts (h t (List.mem_filter.1 ht).1)
  exact ⟨p1, p2, p3⟩
theorem lowL_sh {ts : List Tk} (c : Bool) (hl : ts.length ≤ 5) (h : ∀ t ∈ ts, t.ok = true) : Sh (lowL ts c).1 (lowL ts c).2 ∧ (lowL ts c).1 ≤ 16000000 ∧ (lowL ts c).2 ≤ 3200000 := by
  have hp := parts_facts c h
  have p1 : 0 < (lowL ts c).2 := sum_pos fun x hx => (hp x hx).1
  have p2 : Nat.Coprime (lowL ts c).1 (lowL ts c).2 := sum_cop fun x hx => (hp x hx).1
  obtain ⟨b1, b2⟩ := sum_bound hp
  have hn : ((ts.filter fun t => t.cr == c).map part).length ≤ 5 := by
    rw [List.length_map]; exact Nat.le_trans (List.length_filter_le _ _) hl
  have c1 : (lowL ts c).2 ≤ 3200000 := Nat.le_trans b1 (Nat.le_trans (Nat.pow_le_pow_right (by omega) hn) (by decide))
  have c2 : (lowL ts c).1 ≤ 5 * (lowL ts c).2 := Nat.le_trans b2 (Nat.mul_le_mul_right _ hn)
  exact ⟨⟨p1, by omega, by omega, p2⟩, by omega, c1⟩
theorem setB_all {ts : List Tk} (h : setB ts = true) : ts.length ≤ 5 ∧ ∀ t ∈ ts, t.ok = true := by
  unfold setB at h
  simp at h
  exact h
theorem lowOf_sh {ts : List Tk} (c : Bool) (h : setB ts = true) : Sh (lowOf ts c).1 (lowOf ts c).2 ∧ (lowOf ts c).1 ≤ 16000000 ∧ (lowOf ts c).2 ≤ 3200000 := by
  obtain ⟨a, b⟩ := setB_all h
  unfold lowOf
  rw [if_pos h]
  exact lowL_sh c a b
theorem lowOf_bad {ts : List Tk} (c : Bool) (h : setB ts = false) : lowOf ts c = (0, 0) := by unfold lowOf; rw [h]; rfl
theorem highOf_bad {ts : List Tk} (h : setB ts = false) : highOf ts = (0, 0) := by unfold highOf; rw [h]; rfl
theorem crit_ok {ts : List Tk} (h : ∀ t ∈ ts, t.ok = true) : ∀ t ∈ critL ts, t.ok = true := by
  intro t ht
  obtain ⟨u, hu, _, rfl⟩ := critL_mem ht
  exact ok_crit (h u hu)
theorem highOf_low {ts us : List Tk} (hs : setB ts = true) (hu : us = critOf ts) : lowOf us true = highOf ts := by
  have hu' : us = critL ts := by rw [hu]; simp [critOf, hs]
  unfold lowOf highOf
  rw [(crit_facts hs hu).1, hs, hu']
theorem highOf_sh {ts : List Tk} (h : setB ts = true) : Sh (highOf ts).1 (highOf ts).2 ∧ (highOf ts).1 ≤ 16000000 ∧ (highOf ts).2 ≤ 3200000 := by
  rw [← highOf_low h rfl]
  exact lowOf_sh true (crit_facts h rfl).1
theorem lowL_yes {ts : List Tk} {c : Bool} {k : Nat} {t : Tk} (h : ts[k]? = some t) (hc : t.cr = c) : lowL (ts.take (k + 1)) c = addN (lowL (ts.take k) c) (part t) := by
  obtain ⟨hk, rfl⟩ := List.getElem?_eq_some_iff.1 h
  unfold lowL sumN
  rw [List.take_succ_eq_append_getElem hk, List.filter_append, List.filter_cons]
  simp [hc, List.foldl_append]
theorem lowL_no {ts : List Tk} {c : Bool} {k : Nat} {t : Tk} (h : ts[k]? = some t) (hc : ¬ t.cr = c) : lowL (ts.take (k + 1)) c = lowL (ts.take k) c := by
  obtain ⟨hk, rfl⟩ := List.getElem?_eq_some_iff.1 h
  unfold lowL
  rw [List.take_succ_eq_append_getElem hk, List.filter_append, List.filter_cons]
  simp [hc]
theorem lowL_take_sh {ts : List Tk} (c : Bool) (k : Nat) (h : setB ts = true) : Sh (lowL (ts.take k) c).1 (lowL (ts.take k) c).2 ∧ (lowL (ts.take k) c).1 ≤ 16000000 ∧ (lowL (ts.take k) c).2 ≤ 3200000 := by
  obtain ⟨a, b⟩ := setB_all h
  exact lowL_sh c (by rw [List.length_take]; omega) fun t ht => b t (List.mem_of_mem_take ht)

/-- One round of the sum. -/
theorem low_step {ts : List Tk} {c : Bool} {k : Nat} {t : Tk} {u v : Nat} (hs : setB ts = true) (ht : ts[k]? = some t) (hc : t.cr = c) (huv : lowL (ts.take k) c = (u, v)) :
    ∃ x y u' v' : Nat, mkS t.lo t.ev = (x, y) ∧ mkB t.lo t.ev = true ∧ plusB u v x y = true ∧ plusS u v x y = (u', v') ∧ lowL (ts.take (k + 1)) c = (u', v') ∧ Sh u v ∧ Sh x y := by
  obtain ⟨a, b⟩ := setB_all hs
  have hok := b t (List.mem_of_getElem? ht)
  obtain ⟨n1, n2, n3, n4⟩ := ok_nums hok
  have hm : mkB t.lo t.ev = true := by unfold mkB; simp; omega
  have hp : mkS t.lo t.ev = part t := by unfold mkS; rw [hm]; rfl
  have s1 := (lowL_take_sh c k hs).1
  have s2 := lowL_take_sh c (k + 1) hs
  rw [lowL_yes ht hc] at s2
  have s3 : Sh (part t).1 (part t).2 := by
    have e : part t = redN t.lo.toNat t.ev.toNat := rfl
    rw [e]
    exact sh_red (by omega) (by omega) (by omega)
  rw [huv] at s1 s2
  dsimp only at s1
  obtain ⟨e1, e2⟩ := plus_sh s1 s3
  have hb : addB (u, v) ((part t).1, (part t).2) = true := by
    unfold addB
    simp
    exact ⟨s2.1.num, s2.1.den⟩
  refine ⟨(part t).1, (part t).2, (addN (u, v) (part t)).1, (addN (u, v) (part t)).2, hp, hm, e1.trans hb, ?_, ?_, s1, s3⟩
  · rw [e2, hb]; rfl
  · rw [lowL_yes ht hc, huv]

/-- What the laws say. -/
theorem crit_parts (ts : List Tk) : lowL (critL ts) true = sumN ((ts.filter fun t => t.cr == true).map fun t => redN t.hi.toNat t.ev.toNat) := by
  unfold lowL critL
  congr 1
  induction ts with
  | nil => rfl
  | cons t ts ih =>
    cases hc : t.cr
    · simp only [List.filter_cons, hc]
      simpa using ih
    · simp only [List.filter_cons, hc]
      simp only [if_true, List.filter_cons, List.map_cons]
      simp only [hc, beq_self_eq_true, if_true, List.map_cons]
      rw [ih]
      rfl
theorem low_le_high {ts : List Tk} (h : setB ts = true) : leN (lowOf ts true) (highOf ts) := by
  obtain ⟨_, b⟩ := setB_all h
  unfold lowOf highOf
  rw [if_pos h, if_pos h, crit_parts]
  unfold lowL
  refine sum_mono part _ _ fun t ht => ?_
  obtain ⟨n1, n2, n3, n4⟩ := ok_nums (b t (List.mem_filter.1 ht).1)
  have h1 : 0 < t.ev.toNat := by omega
  refine ⟨red_pos h1, red_pos h1, ?_⟩
  unfold part redN leN
  have e1 := red_same t.lo.toNat t.ev.toNat
  have e2 := red_same t.hi.toNat t.ev.toNat
  unfold redN at e1 e2
  dsimp only at e1 e2 ⊢
  refine Nat.le_of_mul_le_mul_right ?_ (Nat.mul_pos h1 h1)
  calc _ = (t.lo.toNat / t.lo.toNat.gcd t.ev.toNat * t.ev.toNat) * (t.ev.toNat / t.hi.toNat.gcd t.ev.toNat * t.ev.toNat) := by ac_rfl
    _ = (t.lo.toNat * (t.ev.toNat / t.lo.toNat.gcd t.ev.toNat)) * (t.ev.toNat / t.hi.toNat.gcd t.ev.toNat * t.ev.toNat) := by rw [e1]
    _ ≤ (t.hi.toNat * (t.ev.toNat / t.lo.toNat.gcd t.ev.toNat)) * (t.ev.toNat / t.hi.toNat.gcd t.ev.toNat * t.ev.toNat) := Nat.mul_le_mul_right _ (Nat.mul_le_mul_right _ (by omega))
    _ = (t.hi.toNat * (t.ev.toNat / t.hi.toNat.gcd t.ev.toNat)) * ((t.ev.toNat / t.lo.toNat.gcd t.ev.toNat) * t.ev.toNat) := by ac_rfl
    _ = (t.hi.toNat / t.hi.toNat.gcd t.ev.toNat * t.ev.toNat) * ((t.ev.toNat / t.lo.toNat.gcd t.ev.toNat) * t.ev.toNat) := by rw [e2]
    _ = _ := by ac_rfl
theorem high_zero {ts us : List Tk} (hs : setB ts = true) (hu : us = critOf ts) : ((highOf ts).1 = 0 ↔ us.length = 0) := by
  obtain ⟨_, b⟩ := setB_all hs
  have hu' : us = critL ts := by rw [hu]; simp [critOf, hs]
  have e : highOf ts = sumN ((us.filter fun t => t.cr == true).map part) := by unfold highOf lowL; rw [if_pos hs, hu']
  have ef : (us.filter fun t => t.cr == true) = us := by
    rw [List.filter_eq_self]
    intro t ht
    rw [hu'] at ht
    obtain ⟨u, _, hc, rfl⟩ := critL_mem ht
    simp [hc]
  rw [e, ef, sum_zero]
  · simp
  · intro x hx
    obtain ⟨t, ht, rfl⟩ := List.mem_map.1 hx
    obtain ⟨p1, _, _, p4⟩ := part_facts (crit_ok b t (hu' ▸ ht))
    exact ⟨p4, p1⟩
theorem lowL_app (xs ys : List Tk) (c : Bool) (h : ∀ t ∈ xs ++ ys, t.ok = true) : lowL (xs ++ ys) c = addN (lowL xs c) (lowL ys c) := by
  unfold lowL
  rw [List.filter_append, List.map_append]
  exact sum_app (fun x hx => (parts_facts c (fun t ht => h t (List.mem_append_left _ ht)) x hx).1) (fun x hx => (parts_facts c (fun t ht => h t (List.mem_append_right _ ht)) x hx).1)
theorem critL_app (xs ys : List Tk) : critL (xs ++ ys) = critL xs ++ critL ys := by unfold critL; simp
theorem low_parts {ts : List Tk} (c : Bool) (k : Nat) (h : setB ts = true) : lowOf ts c = addN (lowOf (ts.take k) c) (lowOf (ts.drop k) c) := by
  obtain ⟨a, b⟩ := setB_all h
  have h1 : setB (ts.take k) = true := by unfold setB at h ⊢; simp at h ⊢; exact ⟨by omega, fun t ht => h.2 t (List.mem_of_mem_take ht)⟩
  have h2 : setB (ts.drop k) = true := by unfold setB at h ⊢; simp at h ⊢; exact ⟨by omega, fun t ht => h.2 t (List.mem_of_mem_drop ht)⟩
  unfold lowOf
  rw [if_pos h, if_pos h1, if_pos h2]
  conv => lhs; rw [← List.take_append_drop k ts]
  exact lowL_app _ _ c (by rw [List.take_append_drop]; exact b)
theorem high_parts {ts : List Tk} (k : Nat) (h : setB ts = true) : highOf ts = addN (highOf (ts.take k)) (highOf (ts.drop k)) := by
  obtain ⟨a, b⟩ := setB_all h
  have h1 : setB (ts.take k) = true := by unfold setB at h ⊢; simp at h ⊢; exact ⟨by omega, fun t ht => h.2 t (List.mem_of_mem_take ht)⟩
  have h2 : setB (ts.drop k) = true := by unfold setB at h ⊢; simp at h ⊢; exact ⟨by omega, fun t ht => h.2 t (List.mem_of_mem_drop ht)⟩
  unfold highOf
  rw [if_pos h, if_pos h1, if_pos h2]
  conv => lhs; rw [← List.take_append_drop k ts, critL_app]
  refine lowL_app _ _ true ?_
  rw [← critL_app, List.take_append_drop]
  exact crit_ok b
theorem low_perm {xs ys : List Tk} (c : Bool) (hp : xs.Perm ys) (h : ∀ t ∈ xs, t.ok = true) : lowL xs c = lowL ys c := by
  unfold lowL
  exact sum_perm ((hp.filter _).map _) fun x hx => (parts_facts c h x hx).1
theorem crit_perm {xs ys : List Tk} (hp : xs.Perm ys) : (critL xs).Perm (critL ys) := (hp.filter _).map _

/-- One task alone. -/
theorem low_one {t : Tk} (h : t.ok = true) : lowL [t] t.cr = part t ∧ 0 < (part t).1 ∧ leN (part t) (1, 1) := by
  obtain ⟨p1, p2, p3, p4⟩ := part_facts h
  refine ⟨?_, p4, ?_⟩
  · unfold lowL
    simp [sumN]
    unfold addN
    simp
    obtain ⟨n1, n2, n3, n4⟩ := ok_nums h
    exact red_of_cop (red_cop (by omega))
  · unfold leN
    simpa using p3
theorem high_one {t : Tk} (h : t.ok = true) : leN (lowL (critL [t]) true) (1, 1) := by
  have hc : ∀ u ∈ critL [t], u.ok = true := crit_ok (ts := [t]) (by intro u hu; simp at hu; rw [hu]; exact h)
  have hl : (critL [t]).length ≤ 1 := critL_len [t]
  have hp := parts_facts true hc
  obtain ⟨b1, b2⟩ := sum_bound hp
  have hn : (((critL [t]).filter fun t => t.cr == true).map part).length ≤ 1 := by
    rw [List.length_map]; exact Nat.le_trans (List.length_filter_le _ _) hl
  unfold leN
  have : (lowL (critL [t]) true).1 ≤ 1 * (lowL (critL [t]) true).2 := Nat.le_trans b2 (Nat.mul_le_mul_right _ hn)
  simpa using this

/-- What the critical tasks need until all begin together again. -/
def needs (n : Nat) (ts : List Tk) : Nat := ((ts.filter Tk.cr).map fun t => n / t.ev.toNat * t.hi.toNat).sum
theorem needs_yes {ts : List Tk} {n k : Nat} {t : Tk} (h : ts[k]? = some t) (hc : t.cr = true) : needs n (ts.take (k + 1)) = needs n (ts.take k) + n / t.ev.toNat * t.hi.toNat := by
  obtain ⟨hk, rfl⟩ := List.getElem?_eq_some_iff.1 h
  unfold needs
  rw [List.take_succ_eq_append_getElem hk, List.filter_append, List.filter_cons]
  simp [hc]
theorem needs_no {ts : List Tk} {n k : Nat} {t : Tk} (h : ts[k]? = some t) (hc : t.cr = false) : needs n (ts.take (k + 1)) = needs n (ts.take k) := by
  obtain ⟨hk, rfl⟩ := List.getElem?_eq_some_iff.1 h
  unfold needs
  rw [List.take_succ_eq_append_getElem hk, List.filter_append, List.filter_cons]
  simp [hc]
theorem needs_le {ts : List Tk} (n : Nat) (h : ∀ t ∈ ts, t.ok = true) : needs n ts ≤ ts.length * n := by
  induction ts with
  | nil => simp [needs]
  | cons t ts ih =>
    have ih := ih fun u hu => h u (List.mem_cons_of_mem _ hu)
    obtain ⟨n1, n2, n3, n4⟩ := ok_nums (h t (by simp))
    unfold needs at ih ⊢
    rw [List.filter_cons, List.length_cons, Nat.add_mul]
    split
    · rw [List.map_cons, List.sum_cons]
      have : n / t.ev.toNat * t.hi.toNat ≤ n := Nat.le_trans (Nat.mul_le_mul_left _ (by omega : t.hi.toNat ≤ t.ev.toNat)) (Nat.div_mul_le_self _ _)
      omega
    · omega
theorem needs_share {ts : List Tk} {n : Nat} (hn : 0 < n) (h : ∀ t ∈ ts, t.ok = true) (hd : ∀ t ∈ ts, t.ev.toNat ∣ n) : lowL (critL ts) true = redN (needs n ts) n := by
  rw [crit_parts]
  have e0 : (ts.filter fun t => t.cr == true) = ts.filter Tk.cr := by congr 1; funext t; cases t.cr <;> rfl
  rw [e0]
  have hf : ∀ t ∈ ts.filter Tk.cr, 0 < t.ev.toNat := fun t ht => by have := ok_nums (h t (List.mem_filter.1 ht).1); omega
  have e1 : sumN ((ts.filter Tk.cr).map fun t => redN t.hi.toNat t.ev.toNat) = sumN ((ts.filter Tk.cr).map fun t => (t.hi.toNat, t.ev.toNat)) :=
    sum_rep _ _ _ fun t ht => ⟨red_pos (hf t ht), hf t ht, red_same _ _⟩
  rw [e1, sum_common hn]
  · unfold needs
    rw [List.map_map]
    rfl
  · intro x hx
    obtain ⟨t, ht, rfl⟩ := List.mem_map.1 hx
    exact ⟨hf t ht, hd t (List.mem_filter.1 ht).1⟩

end Go.Proofs.YtncgchlnaobalabDoor
