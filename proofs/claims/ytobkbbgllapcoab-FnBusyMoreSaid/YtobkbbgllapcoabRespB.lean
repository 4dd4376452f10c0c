/- Busy times and shares: what tasks need in a common multiple of their periods (no program text). -/
import Derived.Test.YtobkbbgllapcoabRespM
import Derived.Test.YtobkbbgllapcoabLawHyper
namespace Go.Proofs.Ytobkbbgllapcoab
open Go.RowKit
set_option linter.unusedVariables false

theorem jobs_mul {e H : Nat} (he : 1 ≤ e) (h : e ∣ H) : (H + e - 1) / e = H / e := by
  obtain ⟨q, rfl⟩ := h
  rw [Nat.mul_div_cancel_left _ (by omega)]
  refine Nat.div_eq_of_lt_le ?_ ?_
  · rw [Nat.mul_comm]; omega
  · rw [Nat.succ_mul, Nat.mul_comm]; omega
/-- In a multiple of its period a task needs just its share. -/
theorem dmd_hyper {t : Tk} (ht : t.ok = true) {H : Nat} (h : t.ev.toNat ∣ H) : dmd t H false * t.ev.toNat = H * t.lo.toNat := by
  have o := ok_parts ht
  unfold dmd demN
  rw [jobs_mul (by omega) h]
  obtain ⟨q, rfl⟩ := h
  rw [Nat.mul_div_cancel_left _ (by omega)]
  show q * t.lo.toNat * t.ev.toNat = t.ev.toNat * q * t.lo.toNat
  ac_rfl
theorem dmd_ge {t : Tk} (ht : t.ok = true) (n : Nat) : n * t.lo.toNat ≤ dmd t n false * t.ev.toNat := by
  have o := ok_parts ht
  exact dem_ge t.lo.toNat (by omega) n
theorem dmd_scale {t : Tk} (ht : t.ok = true) {H : Nat} (h : t.ev.toNat ∣ H) (n : Nat) : dmd t H false * n ≤ H * dmd t n false := by
  have o := ok_parts ht
  have h1 := dmd_hyper ht h
  have h2 := dmd_ge ht n
  have e1 : t.ev.toNat > 0 := by omega
  refine Nat.le_of_mul_le_mul_right ?_ e1
  calc dmd t H false * n * t.ev.toNat = (dmd t H false * t.ev.toNat) * n := by ac_rfl
    _ = H * (n * t.lo.toNat) := by rw [h1]; ac_rfl
    _ ≤ H * (dmd t n false * t.ev.toNat) := Nat.mul_le_mul_left _ h2
    _ = H * dmd t n false * t.ev.toNat := by ac_rfl
theorem dLow_scale : ∀ {ts : List Tk}, (∀ t ∈ ts, t.ok = true) → ∀ {H : Nat}, (∀ t ∈ ts, t.ev.toNat ∣ H) → ∀ n, dLow ts H * n ≤ H * dLow ts n
  | [], _, _, _, _ => by simp [dLow]
  | t :: ts, ho, H, hd, n => by
    rw [dLow_cons, dLow_cons, Nat.add_mul, Nat.mul_add]
    exact Nat.add_le_add (dmd_scale (ho t (by simp)) (hd t (by simp)) n) (dLow_scale (fun x hx => ho x (by simp [hx])) (fun x hx => hd x (by simp [hx])) n)
/-- If some window is enough, a common multiple of the periods is. -/
theorem hyper_enough {ts : List Tk} (hs : setB ts = true) {n : Nat} (h1 : 1 ≤ n) (hn : dLow ts n ≤ n) : dLow ts (lcmL ts) ≤ lcmL ts := by
  have h := dLow_scale (fun t ht => set_ok hs ht) (fun t ht => lcmL_dvd ht) n (H := lcmL ts)
  have h2 : lcmL ts * dLow ts n ≤ lcmL ts * n := Nat.mul_le_mul_left _ hn
  exact Nat.le_of_mul_le_mul_right (Nat.le_trans h h2) h1
theorem bLow_some {ts : List Tk} {n : Nat} (h : bLow ts = some n) : setB ts = true ∧ ts ≠ [] ∧ 1 ≤ n ∧ n ≤ lcmL ts ∧ dLow ts n = n ∧ ∀ x, 1 ≤ x → x < n → x < dLow ts x := by
  cases hs : setB ts
  · rw [bLow_bad hs] at h; cases h
  · by_cases hn : ts = []
    · subst hn; cases h
    · rw [bLow_is hs hn] at h
      obtain ⟨h1, h2, h3, h4⟩ := least_some.1 h
      exact ⟨rfl, hn, h1, h2, least_fix (fun x y hxy => dLow_mono ts hxy) (fun x hx => dLow_pos hs hn hx) h, h4⟩
/-- There is a busy time exactly if the tasks need no more than there is in a common multiple of the periods. -/
theorem bLow_iff {ts : List Tk} (hs : setB ts = true) (hn : ts ≠ []) : (bLow ts).isSome = decide (dLow ts (lcmL ts) ≤ lcmL ts) := by
  rw [bLow_is hs hn]
  cases h : leastN (dLow ts) 1 (lcmL ts) with
  | none =>
    have := least_none.1 h (lcmL ts) (lcmL_le hs).1 (Nat.le_refl _)
    rw [decide_eq_false (by omega)]; rfl
  | some n =>
    obtain ⟨h1, h2, h3, h4⟩ := least_some.1 h
    rw [decide_eq_true (hyper_enough hs h1 h3)]; rfl
/-- Without its first task a processor is busy shorter. -/
theorem busy_more {ts : List Tk} {n : Nat} (h : bLow ts = some n) (hl : 2 ≤ ts.length) : ∃ m, bLow (ts.drop 1) = some m ∧ m < n := by
  obtain ⟨hs, hn, h1, h2, h3, h4⟩ := bLow_some h
  cases ts with
  | nil => exact absurd rfl hn
  | cons t ts =>
    have hr : ts ≠ [] := by rintro rfl; simp at hl
    have hs' : setB ts = true := set_drop hs 1
    have o := ok_parts (set_ok hs (List.mem_cons_self ..))
    rw [dLow_cons] at h3
    have hd : t.lo.toNat ≤ dmd t n false := dem_pos (by omega) (by omega) h1
    have hp := dLow_pos hs' hr h1
    have hm := dLow_mono ts (show n - t.lo.toNat ≤ n by omega)
    have he := hyper_enough hs' h1 (show dLow ts n ≤ n by omega)
    show ∃ m, bLow ts = some m ∧ m < n
    have hi := bLow_iff hs' hr
    rw [decide_eq_true he] at hi
    obtain ⟨m, hm'⟩ := some_of hi
    refine ⟨m, hm', ?_⟩
    obtain ⟨_, _, g1, g2, g3, g4⟩ := bLow_some hm'
    rcases Nat.lt_or_ge (n - t.lo.toNat) m with hlt | hge
    · have := g4 (n - t.lo.toNat) (by omega) hlt
      omega
    · omega
/-- No response is longer than a busy time. -/
theorem resp_busy {ts : List Tk} {k n r : Nat} (h : bLow ts = some n) (hr : rLow ts k = some r) : r ≤ n := by
  obtain ⟨hs, hn, h1, h2, h3, h4⟩ := bLow_some h
  obtain ⟨_, t, ht, hf⟩ := rLow_some hr
  obtain ⟨x1, x2, x3, x4⟩ := resp_fix hf
  have o := ok_parts (set_ok hs (get_mem ht))
  have hle : dLow (ts.take (k + 1)) n ≤ dLow ts n := sum_sub _ (List.take_sublist _ _)
  rw [dLow_take ht] at hle
  have hd : t.lo.toNat ≤ dmd t n false := dem_pos (by omega) (by omega) h1
  rcases Nat.lt_or_ge n r with hlt | hge
  · have := x4 n (by omega) hlt
    omega
  · exact hge

/-- Among critical tasks with their high needs alone. -/
theorem crit_idem {c : List Tk} (h : ∀ t ∈ c, t.cr = true ∧ t.lo = t.hi) : critL c = c := by
  induction c with
  | nil => rfl
  | cons t c ih =>
    obtain ⟨h1, h2⟩ := h t (by simp)
    rw [critL_eq, List.filter_cons, if_pos h1, List.map_cons, ← critL_eq, ih fun x hx => h x (by simp [hx])]
    congr 1
    obtain ⟨lo, hi, du, ev, cr⟩ := t
    dsimp only at h2
    subst h2
    rfl
theorem crit_mem {ts : List Tk} {t : Tk} (h : t ∈ critL ts) : t.cr = true ∧ t.lo = t.hi := by
  rw [critL_eq, List.mem_map] at h
  obtain ⟨u, hu, rfl⟩ := h
  exact ⟨(List.mem_filter.1 hu).2, rfl⟩
theorem high_low {ts : List Tk} (hs : setB ts = true) (k : Nat) : rHigh (critL ts) k = rLow (critL ts) k := by
  cases ht : (critL ts)[k]? with
  | none => rw [rHigh_past ht, rLow_past ht]
  | some t =>
    have hk := (List.getElem?_eq_some_iff.1 ht).1
    rw [rHigh_at (set_crit hs) ht (crit_mem (get_mem ht)).1, crit_idem fun t ht => crit_mem ht, crit_idem fun t ht => crit_mem ((List.take_sublist k _).subset ht), List.length_take]
    congr 1
    omega
theorem dCrit_yes {ts : List Tk} {k : Nat} {t : Tk} (h : ts[k]? = some t) (hc : t.cr = true) (w : Nat) : dLow (critL (ts.take (k + 1))) w = dLow (critL (ts.take k)) w + dmd t w true := by
  rw [critL_yes h hc]
  simp [dLow, dmd]
theorem dCrit_no {ts : List Tk} {k : Nat} {t : Tk} (h : ts[k]? = some t) (hc : t.cr = false) (w : Nat) : dLow (critL (ts.take (k + 1))) w = dLow (critL (ts.take k)) w := by
  rw [critL_no h hc]

end Go.Proofs.Ytobkbbgllapcoab
