/- Tasks hold with smaller high needs, as plain data (no program text). -/
import Derived.Test.YtgfnlfjaekkdfaaDoorMo
namespace Go.Proofs.YtgfnlfjaekkdfaaDoor
open Go.RowKit
set_option linter.unusedVariables false

/-- Pairs of tasks that differ in their high needs alone, the first one's no greater. -/
def lowP (ps : List (Tk × Tk)) : Prop := ∀ p ∈ ps, p.1.lo = p.2.lo ∧ p.1.hi ≤ p.2.hi ∧ p.1.du = p.2.du ∧ p.1.ev = p.2.ev ∧ p.1.cr = p.2.cr
theorem lowP.take {ps : List (Tk × Tk)} (h : lowP ps) (k : Nat) : lowP (ps.take k) := fun p hp => h p (List.mem_of_mem_take hp)
theorem dmd_p {t u : Tk} (h : t.lo = u.lo ∧ t.hi ≤ u.hi ∧ t.du = u.du ∧ t.ev = u.ev ∧ t.cr = u.cr) (w : Nat) (b : Bool) : dmd t w b ≤ dmd u w b := by
  obtain ⟨h1, h2, h3, h4, h5⟩ := h
  unfold dmd
  rw [h4]
  refine dem_need _ _ ?_
  cases b
  · show t.lo.toNat ≤ u.lo.toNat; omega
  · show t.hi.toNat ≤ u.hi.toNat; omega
theorem sumP_le {f g : Tk × Tk → Nat} : ∀ {ps : List (Tk × Tk)}, (∀ p ∈ ps, f p ≤ g p) → (ps.map f).sum ≤ (ps.map g).sum
  | [], _ => Nat.le_refl _
  | p :: ps, h => by
    rw [List.map_cons, List.map_cons, List.sum_cons, List.sum_cons]
    exact Nat.add_le_add (h p (by simp)) (sumP_le fun q hq => h q (List.mem_cons_of_mem _ hq))
theorem dLow_p {ps : List (Tk × Tk)} (h : lowP ps) (w : Nat) : dLow (ps.map Prod.fst) w ≤ dLow (ps.map Prod.snd) w := by
  unfold dLow
  rw [List.map_map, List.map_map]
  exact sumP_le fun p hp => dmd_p (h p hp) w false
theorem dSwi_p {ps : List (Tk × Tk)} (h : lowP ps) {l l' : Nat} (hl : l ≤ l') (w : Nat) : dSwi (ps.map Prod.fst) l w ≤ dSwi (ps.map Prod.snd) l' w := by
  unfold dSwi
  rw [List.map_map, List.map_map]
  refine sumP_le fun p hp => ?_
  show dmS l w p.1 ≤ dmS l' w p.2
  have hh := h p hp
  unfold dmS
  rw [hh.2.2.2.2]
  split
  · exact dmd_p hh w true
  · exact Nat.le_trans (dmd_mono p.1 false hl) (dmd_p hh l' false)
theorem get_p {ps : List (Tk × Tk)} {k : Nat} {u : Tk} (h : (ps.map Prod.snd)[k]? = some u) : ∃ t, (ps.map Prod.fst)[k]? = some t ∧ (t, u) ∈ ps := by
  rw [List.getElem?_map] at h
  cases hp : ps[k]? with
  | none => rw [hp] at h; cases h
  | some p =>
    rw [hp] at h
    have e : p.2 = u := Option.some.inj h
    exact ⟨p.1, by rw [List.getElem?_map, hp]; rfl, by rw [← e]; exact List.mem_of_getElem? hp⟩
theorem rLow_p {ps : List (Tk × Tk)} {k v : Nat} (hp : lowP ps) (hs : setB (ps.map Prod.fst) = true) (hr : setB (ps.map Prod.snd) = true) (h : rLow (ps.map Prod.snd) k = some v) : ∃ u, rLow (ps.map Prod.fst) k = some u ∧ u ≤ v := by
  cases hu : (ps.map Prod.snd)[k]? with
  | none => rw [rLow_past hu] at h; cases h
  | some u =>
    obtain ⟨t, ht, hm⟩ := get_p hu
    have hh := hp _ hm
    rw [rLow_at hr hu, ← List.map_take] at h
    rw [rLow_at hs ht, ← List.map_take]
    have e1 : t.lo = u.lo := hh.1
    have e2 : t.du = u.du := hh.2.2.1
    rw [e2]
    exact least_less (G := fun w => t.lo.toNat + dLow ((ps.take k).map Prod.fst) w) (lo' := t.lo.toNat) (hi' := u.du.toNat) (fun w _ _ => by
      have := dLow_p (hp.take k) w
      omega) (by omega) (Nat.le_refl _) h
theorem both_p {ps : List (Tk × Tk)} {k : Nat} (hp : lowP ps) (hs : setB (ps.map Prod.fst) = true) (hr : setB (ps.map Prod.snd) = true) (hk : k < ps.length) (h : bothAt (ps.map Prod.snd) k = true) : bothAt (ps.map Prod.fst) k = true := by
  obtain ⟨u, hu⟩ : ∃ u, (ps.map Prod.snd)[k]? = some u := ⟨(ps.map Prod.snd)[k]'(by rw [List.length_map]; exact hk), List.getElem?_eq_getElem _⟩
  obtain ⟨t, ht, hm⟩ := get_p hu
  obtain ⟨e1, e2, e3, e4, e5⟩ := hp _ hm
  dsimp only at e1 e2 e3 e4 e5
  obtain ⟨v, hv⟩ := some_of (both_low h)
  obtain ⟨x0, hx0, huv⟩ := rLow_p hp hs hr hv
  cases hc : u.cr
  · rw [both_no ht (by rw [e5]; exact hc), hx0]; rfl
  · have hc2 : t.cr = true := by rw [e5]; exact hc
    rw [both_cr hu hc] at h
    rw [both_cr ht hc2]
    obtain ⟨x, hx⟩ := some_of h
    rw [rSwi_at hv hu hc, ← List.map_take] at hx
    rw [rSwi_at hx0 ht hc2, ← List.map_take, e3]
    obtain ⟨y, hy, _⟩ := least_less (G := fun w => t.hi.toNat + dSwi ((ps.take k).map Prod.fst) x0 w) (lo' := t.hi.toNat) (hi' := u.du.toNat) (fun w _ _ => by
      have := dSwi_p (hp.take k) huv w
      omega) (by omega) (Nat.le_refl _) hx
    have : swiOf ((ps.take k).map Prod.fst) x0 t.hi.toNat u.du.toNat = some y := hy
    rw [this]; rfl
theorem hBoth_p {ps : List (Tk × Tk)} (hp : lowP ps) (hs : setB (ps.map Prod.fst) = true) (h : hBoth (ps.map Prod.snd) = true) : hBoth (ps.map Prod.fst) = true := by
  obtain ⟨hr, ha⟩ := hBoth_iff.1 h
  refine hBoth_iff.2 ⟨hs, fun k hk => ?_⟩
  rw [List.length_map] at hk
  exact both_p hp hs hr hk (ha k (by rw [List.length_map]; exact hk))
theorem red_mono {a b e : Nat} (he : 0 < e) (h : a ≤ b) : leN (redN a e) (redN b e) := by
  have e1 := red_same a e
  have e2 := red_same b e
  unfold leN
  refine Nat.le_of_mul_le_mul_right (c := e) ?_ he
  calc (redN a e).1 * (redN b e).2 * e = ((redN a e).1 * e) * (redN b e).2 := by ac_rfl
    _ = a * (redN a e).2 * (redN b e).2 := by rw [e1]
    _ ≤ b * (redN a e).2 * (redN b e).2 := Nat.mul_le_mul_right _ (Nat.mul_le_mul_right _ h)
    _ = (b * (redN b e).2) * (redN a e).2 := by ac_rfl
    _ = ((redN b e).1 * e) * (redN a e).2 := by rw [e2]
    _ = _ := by ac_rfl
theorem low_p {ps : List (Tk × Tk)} (c : Bool) (hp : lowP ps) (hs : setB (ps.map Prod.fst) = true) (hr : setB (ps.map Prod.snd) = true) : lowOf (ps.map Prod.fst) c = lowOf (ps.map Prod.snd) c := by
  unfold lowOf
  rw [if_pos hs, if_pos hr]
  unfold lowL
  rw [List.filter_map, List.filter_map, List.map_map, List.map_map]
  have e : ps.filter ((fun t : Tk => t.cr == c) ∘ Prod.fst) = ps.filter ((fun t : Tk => t.cr == c) ∘ Prod.snd) := List.filter_congr fun p h => by
    show (p.1.cr == c) = (p.2.cr == c)
    rw [(hp p h).2.2.2.2]
  rw [e]
  congr 1
  refine List.map_congr_left fun p h => ?_
  have hh := hp p (List.mem_filter.1 h).1
  show redN p.1.lo.toNat p.1.ev.toNat = redN p.2.lo.toNat p.2.ev.toNat
  rw [hh.1, hh.2.2.2.1]
theorem crit_p (f : Tk × Tk → Tk) : ∀ ps : List (Tk × Tk), ((critL (ps.map f)).filter fun t => t.cr == true).map part = (ps.filter fun p => (f p).cr).map fun p => redN (f p).hi.toNat (f p).ev.toNat
  | [] => rfl
  | p :: ps => by
    have ih := crit_p f ps
    unfold critL at ih ⊢
    cases hc : (f p).cr
    · simp only [List.map_cons, List.filter_cons, hc]
      exact ih
    · simp only [List.map_cons, List.filter_cons, hc, if_true, beq_self_eq_true, ih]
      rfl
theorem high_p {ps : List (Tk × Tk)} (hp : lowP ps) (hs : setB (ps.map Prod.fst) = true) (hr : setB (ps.map Prod.snd) = true) : leN (highOf (ps.map Prod.fst)) (highOf (ps.map Prod.snd)) := by
  have hok := (setB_all hs).2
  unfold highOf
  rw [if_pos hs, if_pos hr]
  unfold lowL
  rw [crit_p, crit_p]
  have e : ps.filter (fun p => p.1.cr) = ps.filter (fun p => p.2.cr) := List.filter_congr fun p h => (hp p h).2.2.2.2
  rw [e]
  refine sum_mono _ _ _ fun p h => ?_
  have hm := (List.mem_filter.1 h).1
  have hh := hp p hm
  obtain ⟨n1, n2, n3, n4⟩ := ok_nums (hok p.1 (List.mem_map.2 ⟨p, hm, rfl⟩))
  have he : 0 < p.1.ev.toNat := by omega
  rw [← hh.2.2.2.1]
  exact ⟨red_pos he, red_pos he, red_mono he (by have := hh.2.1; omega)⟩
theorem imp_p {ps : List (Tk × Tk)} (hp : lowP ps) (hs : setB (ps.map Prod.fst) = true) (h : impB (ps.map Prod.snd) = true) : impB (ps.map Prod.fst) = true := by
  unfold impB at h ⊢
  rw [Bool.and_eq_true, List.all_eq_true] at h
  rw [hs, Bool.true_and, List.all_eq_true]
  intro t ht
  obtain ⟨p, hm, rfl⟩ := List.mem_map.1 ht
  have h1 := h.2 p.2 (List.mem_map.2 ⟨p, hm, rfl⟩)
  have hh := hp p hm
  rw [decide_eq_true_iff] at h1 ⊢
  rw [hh.2.2.1, hh.2.2.2.1]; exact h1
theorem plain_p {ps : List (Tk × Tk)} (hp : lowP ps) (hs : setB (ps.map Prod.fst) = true) (h : plainV (ps.map Prod.snd) = true) : plainV (ps.map Prod.fst) = true := by
  have hr := imp_set (plain_imp h)
  obtain ⟨a2, b2, h2⟩ := set_pos hs
  obtain ⟨a2', b2', h2'⟩ := set_pos hr
  have hle := plain_le h
  rw [← low_p false hp hs hr] at hle
  unfold plainV
  rw [imp_p hp hs (plain_imp h), Bool.true_and]
  exact leB_iff.2 (le_trans' (add_pos a2 h2') (add_mono a2 a2 h2 h2' (le_refl' _) (high_p hp hs hr)) hle)
theorem virt_p {ps : List (Tk × Tk)} (hp : lowP ps) (hs : setB (ps.map Prod.fst) = true) (h : virtV (ps.map Prod.snd) = true) : virtV (ps.map Prod.fst) = true := by
  have hf : facB (ps.map Prod.snd) = true := by unfold virtV at h; simp at h; exact h.1
  have hi := fac_imp hf
  have hr := imp_set hi
  cases hpl : plainV (ps.map Prod.fst)
  · have hpu : plainV (ps.map Prod.snd) = false := by
      cases hx : plainV (ps.map Prod.snd)
      · rfl
      · rw [plain_p hp hs hx] at hpl; cases hpl
    obtain ⟨h1, h1'⟩ := fac_two hf hpu
    have l0 := low_p false hp hs hr
    have l1 := low_p true hp hs hr
    have hft : facB (ps.map Prod.fst) = true := by
      unfold facB
      rw [imp_p hp hs hi, hpl, l0, l1, Bool.true_and, Bool.false_or, leB_iff.2 h1, decide_eq_false h1']; rfl
    have V := vb_of hr
    obtain ⟨_, m0, _, m4, _, _⟩ := mul_facts V h1 (fac_lt hf hpu)
    unfold virtV at h ⊢
    rw [hf, hpu, facV_some hf hpu] at h
    rw [hft, hpl, facV_some hft hpl, l0, l1]
    simp at h ⊢
    obtain ⟨_, _, h2⟩ := set_pos hs
    obtain ⟨_, _, h2'⟩ := set_pos hr
    exact leB_iff.2 (le_trans' (add_pos m4.pos h2') (add_mono m4.pos m4.pos h2 h2' (le_refl' _) (high_p hp hs hr)) (leB_iff.1 h))
  · exact virt_plain hpl
theorem hBy_p {ps : List (Tk × Tk)} {pol : Int} (hp : lowP ps) (hs : setB (ps.map Prod.fst) = true) (h : hBy (ps.map Prod.snd) pol = true) : hBy (ps.map Prod.fst) pol = true := by
  by_cases h0 : pol = 0
  · subst h0; exact hBoth_p hp hs h
  by_cases h1 : pol = 1
  · subst h1; exact virt_p hp hs h
  · rw [hBy_no h0 h1] at h; cases h
theorem ok_of_parts {t : Tk} (h : 1 ≤ t.lo ∧ t.lo ≤ t.hi ∧ t.hi ≤ t.du ∧ t.du ≤ t.ev ∧ t.ev ≤ 20 ∧ (t.cr = false → t.lo = t.hi)) : t.ok = true := by
  obtain ⟨h1, h2, h3, h4, h5, h6⟩ := h
  unfold Tk.ok validB
  simp only [Bool.and_eq_true, decide_eq_true_iff, Bool.or_eq_true, beq_iff_eq]
  cases hc : t.cr
  · have h7 := h6 hc
    simp
    omega
  · simp
    omega
/-- Tasks that hold with a high need hold with each one between the low one and it. -/
theorem most_between {ts : List Tk} {q : Nat} {t : Tk} {pol m k : Int} (hs : setB ts = true) (hq : ts[q]? = some t) (h : hBy (giveL ts q true m) pol = true) (hk : k ≤ m) (hl : t.lo ≤ k) : hBy (giveL ts q true k) pol = true := by
  have hqt : q < ts.length := (List.getElem?_eq_some_iff.1 hq).1
  have hsm := hBy_set h
  have ge : ∀ z : Int, giveL ts q true z = ts.set q ⟨t.lo, z, t.du, t.ev, t.cr⟩ := fun z => by unfold giveL; rw [getD_at hq]; rfl
  have hgm : (giveL ts q true m)[q]? = some ⟨t.lo, m, t.du, t.ev, t.cr⟩ := by rw [ge, List.getElem?_set_self hqt]
  obtain ⟨o1, o2, o3, o4, o5, o6⟩ := ok_parts (set_ok hsm (get_mem hgm))
  obtain ⟨t1, t2, t3, t4, t5, t6⟩ := ok_parts (set_ok hs (get_mem hq))
  dsimp only at o1 o2 o3 o4 o5 o6
  have hsk : setB (giveL ts q true k) = true := by
    rw [ge]
    refine set_of (by rw [List.length_set]; exact setB_len hs) fun u hu => ?_
    rcases List.mem_or_eq_of_mem_set hu with h1 | rfl
    · exact (setB_all hs).2 u h1
    · exact ok_of_parts ⟨o1, hl, by dsimp only; omega, o4, o5, fun hc => by have := o6 hc; dsimp only; omega⟩
  have e1 : giveL ts q true k = (((ts.map fun u => (u, u)).set q (⟨t.lo, k, t.du, t.ev, t.cr⟩, ⟨t.lo, m, t.du, t.ev, t.cr⟩))).map Prod.fst := by
    rw [ge, List.map_set, List.map_map]
    congr 1
    exact (List.map_id ts).symm
  have e2 : giveL ts q true m = (((ts.map fun u => (u, u)).set q (⟨t.lo, k, t.du, t.ev, t.cr⟩, ⟨t.lo, m, t.du, t.ev, t.cr⟩))).map Prod.snd := by
    rw [ge, List.map_set, List.map_map]
    congr 1
    exact (List.map_id ts).symm
  rw [e1] at hsk ⊢
  rw [e2] at h
  refine hBy_p (fun p hm => ?_) hsk h
  rcases List.mem_or_eq_of_mem_set hm with h1 | rfl
  · obtain ⟨u, _, rfl⟩ := List.mem_map.1 h1
    exact ⟨rfl, Int.le_refl _, rfl, rfl, rfl⟩
  · exact ⟨rfl, hk, rfl, rfl, rfl⟩

end Go.Proofs.YtgfnlfjaekkdfaaDoor
