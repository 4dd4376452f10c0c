/- Switches, prefixes and critical tasks alone, as plain data (no program text). -/
import Derived.Test.YtobkbbgllapcoabLwK
namespace Go.Proofs.Ytobkbbgllapcoab
open Go.RowKit
set_option linter.unusedVariables false

theorem rSwi_some {ts : List Tk} {k v : Nat} (h : rSwi ts k = some v) : setB ts = true ∧ ∃ t l, ts[k]? = some t ∧ t.cr = true ∧ rLow ts k = some l ∧ swiOf (ts.take k) l t.hi.toNat t.du.toNat = some v := by
  cases hl : rLow ts k with
  | none => rw [rSwi_none hl] at h; cases h
  | some l =>
    obtain ⟨hs, t, ht, hf⟩ := rLow_some hl
    cases hc : t.cr
    · rw [rSwi_not ht hc] at h; cases h
    · rw [rSwi_at hl ht hc] at h
      exact ⟨hs, t, l, ht, hc, rfl, h⟩
theorem swi_fix {xs : List Tk} {l n d v : Nat} (h : swiOf xs l n d = some v) : n + dSwi xs l v = v ∧ n ≤ v ∧ v ≤ d ∧ ∀ x, n ≤ x → x < v → x < n + dSwi xs l x := by
  obtain ⟨h1, h2, _, h4⟩ := least_some.1 h
  exact ⟨least_fix (swi_mono xs l n) (fun x _ => Nat.le_add_right _ _) h, h1, h2, h4⟩
theorem dLow_le_swi {ts : List Tk} (ho : ∀ t ∈ ts, t.ok = true) {l w : Nat} (h : w ≤ l) : dLow ts w ≤ dSwi ts l w := sum_le fun t ht => by
  unfold dmS; split
  · exact dmd_low (ho t ht) w true
  · exact dmd_mono t false h
/-- A response at the switch is no shorter than those in both modes. -/
theorem swi_longest {ts : List Tk} {k v : Nat} (h : rSwi ts k = some v) : ∃ l r, rLow ts k = some l ∧ rHigh ts k = some r ∧ l ≤ v ∧ r ≤ v := by
  obtain ⟨hs, t, l, ht, hc, hl, hf⟩ := rSwi_some h
  obtain ⟨x1, x2, x3, x4⟩ := swi_fix hf
  obtain ⟨_, t', ht', hr⟩ := rLow_some hl
  obtain rfl : t = t' := by rw [ht] at ht'; exact Option.some.inj ht'
  obtain ⟨y1, y2, y3, y4⟩ := resp_fix hr
  have o := ok_parts (set_ok hs (get_mem ht))
  have hh : ∃ r, rHigh ts k = some r ∧ r ≤ v := by
    rw [rHigh_is hs ht hc]
    have hd := dCrit_le (ts.take k) l v
    cases hx : respOf (critL (ts.take k)) t.hi.toNat t.du.toNat with
    | none =>
      have := least_none.1 hx v x2 x3
      omega
    | some r =>
      refine ⟨r, rfl, ?_⟩
      obtain ⟨z1, z2, z3, z4⟩ := resp_fix hx
      rcases Nat.lt_or_ge v r with hlt | hge
      · have := z4 v x2 hlt
        omega
      · exact hge
  obtain ⟨r, hr1, hr2⟩ := hh
  refine ⟨l, r, hl, hr1, ?_, hr2⟩
  rcases Nat.lt_or_ge v l with hlt | hge
  · have h1 := y4 v (by omega) hlt
    have h2 := dLow_le_swi (fun u hu => set_ok (set_take hs k) hu) (Nat.le_of_lt hlt) (l := l) (w := v)
    omega
  · exact hge

/-- The first task responds in what it needs. -/
theorem first_low {ts : List Tk} {t : Tk} (hs : setB ts = true) (h : ts[0]? = some t) : rLow ts 0 = some t.lo.toNat := by
  have o := ok_parts (set_ok hs (get_mem h))
  rw [rLow_at hs h]
  exact least_hit (none_start _ _) (by omega) (by simp [dLow])
theorem first_swi {ts : List Tk} {t : Tk} (hs : setB ts = true) (h : ts[0]? = some t) (hc : t.cr = true) : rSwi ts 0 = some t.hi.toNat := by
  have o := ok_parts (set_ok hs (get_mem h))
  rw [rSwi_at (first_low hs h) h hc]
  exact least_hit (none_start _ _) (by omega) (by simp [dSwi])
theorem first_both {ts : List Tk} {t : Tk} (hs : setB ts = true) (h : ts[0]? = some t) : bothAt ts 0 = true := by
  cases hc : t.cr
  · rw [both_no h hc, first_low hs h]; rfl
  · rw [both_cr h hc, first_swi hs h hc]; rfl
theorem one_good {t : Tk} (h : t.ok = true) : fBad [t] = none := by
  have hs : setB [t] = true := set_of (by simp) fun u hu => by simp at hu; rw [hu]; exact h
  refine fBad_none hs fun j hj => ?_
  obtain rfl : j = 0 := by simp at hj; exact hj
  exact first_both hs rfl

/-- What comes behind does not matter. -/
theorem take_get {ts : List Tk} {m j : Nat} (h : j < m) : (ts.take m)[j]? = ts[j]? := by rw [List.getElem?_take, if_pos h]
theorem take_take' {ts : List Tk} {m j : Nat} (h : j < m) : (ts.take m).take j = ts.take j := by rw [List.take_take, Nat.min_eq_left (Nat.le_of_lt h)]
theorem rLow_pre {ts : List Tk} {m j : Nat} (hs : setB ts = true) (h : j < m) : rLow (ts.take m) j = rLow ts j := by
  cases ht : ts[j]? with
  | none => rw [rLow_past ht, rLow_past (by rw [take_get h]; exact ht)]
  | some t => rw [rLow_at hs ht, rLow_at (set_take hs m) (by rw [take_get h]; exact ht), take_take' h]
theorem rSwi_pre {ts : List Tk} {m j : Nat} (hs : setB ts = true) (h : j < m) : rSwi (ts.take m) j = rSwi ts j := by
  cases hl : rLow ts j with
  | none => rw [rSwi_none hl, rSwi_none (by rw [rLow_pre hs h]; exact hl)]
  | some l =>
    obtain ⟨_, t, ht, _⟩ := rLow_some hl
    cases hc : t.cr
    · rw [rSwi_not ht hc, rSwi_not (by rw [take_get h]; exact ht) hc]
    · rw [rSwi_at hl ht hc, rSwi_at (by rw [rLow_pre hs h]; exact hl) (by rw [take_get h]; exact ht) hc, take_take' h]
theorem both_pre {ts : List Tk} {m j : Nat} (hs : setB ts = true) (h : j < m) : bothAt (ts.take m) j = bothAt ts j := by
  unfold bothAt
  rw [take_get h, rSwi_pre hs h, rLow_pre hs h]
theorem hBoth_pre {ts : List Tk} (h : hBoth ts = true) (m : Nat) : hBoth (ts.take m) = true := by
  obtain ⟨h1, h2⟩ := hBoth_iff.1 h
  refine hBoth_iff.2 ⟨set_take h1 m, fun k hk => ?_⟩
  rw [List.length_take] at hk
  rw [both_pre h1 (by omega)]
  exact h2 k (by omega)
theorem bad_pre {ts : List Tk} {k : Nat} (h : fBad ts = some k) : k < ts.length ∧ hBoth (ts.take k) = true ∧ hBoth (ts.take (k + 1)) = false := by
  obtain ⟨hs, hk, hb, ha⟩ := fBad_at h
  refine ⟨hk, hBoth_iff.2 ⟨set_take hs k, fun j hj => ?_⟩, ?_⟩
  · rw [List.length_take] at hj
    rw [both_pre hs (by omega)]
    exact ha j (by omega)
  · refine hBoth_no (k := k) (by rw [List.length_take]; omega) ?_
    rw [both_pre hs (by omega)]
    exact hb
theorem hBoth_low {ts : List Tk} (h : hBoth ts = true) : hLow ts = true := by
  obtain ⟨h1, h2⟩ := hBoth_iff.1 h
  exact hLow_iff.2 ⟨h1, fun k hk => both_low (h2 k hk)⟩

/-- Where a critical task comes from. -/
theorem crit_from : ∀ {ts : List Tk} {i : Nat}, i < (critL ts).length → ∃ k t, ts[k]? = some t ∧ t.cr = true ∧ (critL (ts.take k)).length = i
  | [], i, h => by simp [critL] at h
  | t :: ts, i, h => by
    have hc : critL (t :: ts) = critL [t] ++ critL ts := crit_app [t] ts
    cases hcr : t.cr
    · have h1 : critL [t] = [] := by simp [critL, hcr]
      rw [hc, h1, List.nil_append] at h
      obtain ⟨k, u, h2, h3, h4⟩ := crit_from h
      refine ⟨k + 1, u, by simpa using h2, h3, ?_⟩
      rw [List.take_succ_cons, show t :: ts.take k = [t] ++ ts.take k from rfl, crit_app, h1, List.nil_append]
      exact h4
    · have h1 : (critL [t]).length = 1 := by simp [critL, hcr]
      rcases Nat.eq_zero_or_pos i with rfl | hi
      · exact ⟨0, t, rfl, hcr, by simp [critL]⟩
      · rw [hc, List.length_append, h1] at h
        obtain ⟨k, u, h2, h3, h4⟩ := crit_from (ts := ts) (i := i - 1) (by omega)
        refine ⟨k + 1, u, by simpa using h2, h3, ?_⟩
        rw [List.take_succ_cons, show t :: ts.take k = [t] ++ ts.take k from rfl, crit_app, List.length_append, h1, h4]
        omega
theorem crit_mem' {ts : List Tk} {t : Tk} (h : t ∈ critL ts) : t.cr = true ∧ t.lo = t.hi := by
  rw [critL_eq, List.mem_map] at h
  obtain ⟨u, hu, rfl⟩ := h
  exact ⟨(List.mem_filter.1 hu).2, rfl⟩
/-- Tasks that are critical and need no more in the high mode need the same around a switch. -/
theorem swi_same {xs : List Tk} (h : ∀ t ∈ xs, t.cr = true ∧ t.lo = t.hi) (l w : Nat) : dSwi xs l w = dLow xs w := by
  unfold dSwi dLow
  congr 1
  refine List.map_congr_left fun t ht => ?_
  obtain ⟨h1, h2⟩ := h t ht
  unfold dmS dmd
  rw [h1, ← h2]; rfl
theorem crit_both {ts : List Tk} (hs : setB ts = true) {i : Nat} (h : (rLow (critL ts) i).isSome = true) : bothAt (critL ts) i = true := by
  obtain ⟨l, hl⟩ := some_of h
  obtain ⟨_, t, ht, hf⟩ := rLow_some hl
  obtain ⟨h1, h2⟩ := crit_mem' (get_mem ht)
  rw [both_cr ht h1, rSwi_at hl ht h1]
  have he : swiOf ((critL ts).take i) l t.hi.toNat t.du.toNat = respOf ((critL ts).take i) t.lo.toNat t.du.toNat := by
    unfold swiOf respOf
    congr 1
    · funext w
      rw [swi_same (fun u hu => crit_mem' ((List.take_sublist i _).subset hu)), h2]
    · rw [h2]
  rw [he, hf]; rfl
theorem crit_holds {ts : List Tk} (h : hBoth ts = true) : hLow (critL ts) = true ∧ hBoth (critL ts) = true := by
  obtain ⟨h1, h2⟩ := hBoth_iff.1 h
  have key : ∀ i, i < (critL ts).length → (rLow (critL ts) i).isSome = true := by
    intro i hi
    obtain ⟨k, t, ht, hc, hk⟩ := crit_from hi
    have hb := h2 k (List.getElem?_eq_some_iff.1 ht).1
    rw [both_cr ht hc] at hb
    obtain ⟨v, hv⟩ := some_of hb
    obtain ⟨l, r, _, hr, _, _⟩ := swi_longest hv
    rw [rHigh_at h1 ht hc, hk] at hr
    rw [hr]; rfl
  exact ⟨hLow_iff.2 ⟨set_crit h1, key⟩, hBoth_iff.2 ⟨set_crit h1, fun i hi => crit_both h1 (key i hi)⟩⟩

end Go.Proofs.Ytobkbbgllapcoab
