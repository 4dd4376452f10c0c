/- Raised needs as plain data: less needs hold the more easily (no program text). -/
import Derived.Test.YtgfnlfjaekkdfaaDoorNB
import Derived.Test.YtgfnlfjaekkdfaaDoorRs
namespace Go.Proofs.YtgfnlfjaekkdfaaDoor
open Go.RowKit
set_option linter.unusedVariables false

theorem raiseL_zero (ts : List Tk) : raiseL ts 0 = ts := by
  unfold raiseL
  conv => rhs; rw [← List.map_id ts]
  exact List.map_congr_left fun t _ => by obtain ⟨lo, hi, du, ev, cr⟩ := t; simp [raiseT]
theorem raiseL_back (ts : List Tk) (d : Int) : raiseL (raiseL ts d) (-d) = ts := by
  unfold raiseL
  rw [List.map_map]
  conv => rhs; rw [← List.map_id ts]
  refine List.map_congr_left fun t _ => ?_
  obtain ⟨lo, hi, du, ev, cr⟩ := t
  show (⟨_, _, _, _, _⟩ : Tk) = ⟨_, _, _, _, _⟩
  rw [show (raiseT d ⟨lo, hi, du, ev, cr⟩).lo + -d = lo by show lo + d + -d = lo; omega, show (raiseT d ⟨lo, hi, du, ev, cr⟩).hi + -d = hi by show hi + d + -d = hi; omega]
  rfl
theorem raiseL_get {ts : List Tk} {d : Int} {k : Nat} {t : Tk} (h : ts[k]? = some t) : (raiseL ts d)[k]? = some (raiseT d t) := by unfold raiseL; rw [List.getElem?_map, h]; rfl
theorem raiseL_of {ts : List Tk} {d : Int} {k : Nat} {t : Tk} (h : (raiseL ts d)[k]? = some t) : ∃ u, ts[k]? = some u ∧ t = raiseT d u := by
  unfold raiseL at h
  rw [List.getElem?_map] at h
  cases hk : ts[k]? with
  | none => rw [hk] at h; cases h
  | some u => rw [hk] at h; exact ⟨u, rfl, (Option.some.inj h).symm⟩
theorem raise_at_zero (ts : List Tk) : raiseB ts 0 = setB ts := by
  unfold raiseB
  rw [raiseL_zero, show ticksB 0 = true from rfl]
  cases setB ts <;> rfl
theorem raise_parts {ts : List Tk} {d : Int} (h : raiseB ts d = true) : setB ts = true ∧ (-20 ≤ d ∧ d ≤ 20) ∧ setB (raiseL ts d) = true := by
  unfold raiseB ticksB at h
  simp only [Bool.and_eq_true, decide_eq_true_iff] at h
  exact ⟨h.1, h.2.1, h.2.2⟩
theorem raise_back {ts : List Tk} {d : Int} (h : raiseB ts d = true) : raiseB (raiseL ts d) (-d) = true := by
  obtain ⟨h1, h2, h3⟩ := raise_parts h
  unfold raiseB ticksB
  rw [raiseL_back, h1, h3, decide_eq_true (show -20 ≤ -d by omega), decide_eq_true (show -d ≤ 20 by omega)]
  rfl
theorem dmd_raise {t : Tk} {d : Int} (hd : 0 ≤ d) (w : Nat) (h : Bool) : dmd t w h ≤ dmd (raiseT d t) w h := by
  refine dem_need _ _ ?_
  cases h
  · show t.lo.toNat ≤ (t.lo + d).toNat
    omega
  · show t.hi.toNat ≤ (t.hi + d).toNat
    omega
theorem dLow_raise {d : Int} (hd : 0 ≤ d) (ts : List Tk) (w : Nat) : dLow ts w ≤ dLow (raiseL ts d) w := by
  unfold dLow raiseL
  rw [List.map_map]
  exact sum_le fun t _ => dmd_raise hd w false
theorem dSwi_raise {d : Int} (hd : 0 ≤ d) (ts : List Tk) {l l' : Nat} (hl : l ≤ l') (w : Nat) : dSwi ts l w ≤ dSwi (raiseL ts d) l' w := by
  unfold dSwi raiseL
  rw [List.map_map]
  refine sum_le fun t _ => ?_
  show dmS l w t ≤ dmS l' w (raiseT d t)
  unfold dmS
  show (if t.cr then _ else _) ≤ (if t.cr then _ else _)
  split
  · exact dmd_raise hd w true
  · exact Nat.le_trans (dmd_mono t false hl) (dmd_raise hd l' false)
theorem raiseL_take (ts : List Tk) (d : Int) (k : Nat) : (raiseL ts d).take k = raiseL (ts.take k) d := by unfold raiseL; rw [List.map_take]
theorem rLow_raise {ts : List Tk} {d : Int} {k v : Nat} (hd : 0 ≤ d) (hs : setB ts = true) (hr : setB (raiseL ts d) = true) (h : rLow (raiseL ts d) k = some v) : ∃ u, rLow ts k = some u ∧ u ≤ v := by
  cases ht : ts[k]? with
  | none =>
    rw [rLow_past (by unfold raiseL; rw [List.getElem?_map, ht]; rfl)] at h
    cases h
  | some t =>
    rw [rLow_at hr (raiseL_get ht), raiseL_take] at h
    rw [rLow_at hs ht]
    have h1 : t.lo.toNat ≤ (raiseT d t).lo.toNat := by show t.lo.toNat ≤ (t.lo + d).toNat; omega
    exact least_less (G := fun w => t.lo.toNat + dLow (ts.take k) w) (lo' := t.lo.toNat) (hi' := t.du.toNat) (fun w _ _ => by
      have := dLow_raise hd (ts.take k) w
      omega) h1 (Nat.le_refl _) h
theorem both_raise {ts : List Tk} {d : Int} {k : Nat} (hd : 0 ≤ d) (hs : setB ts = true) (hr : setB (raiseL ts d) = true) (hk : k < ts.length) (h : bothAt (raiseL ts d) k = true) : bothAt ts k = true := by
  obtain ⟨t, ht⟩ : ∃ t, ts[k]? = some t := ⟨_, List.getElem?_eq_getElem hk⟩
  obtain ⟨v, hv⟩ := some_of (both_low h)
  obtain ⟨u, hu, huv⟩ := rLow_raise hd hs hr hv
  cases hc : t.cr
  · rw [both_no ht hc, hu]; rfl
  · have hc2 : (raiseT d t).cr = true := hc
    rw [both_cr (raiseL_get ht) hc2] at h
    rw [both_cr ht hc]
    obtain ⟨x, hx⟩ := some_of h
    rw [rSwi_at hv (raiseL_get ht) hc2, raiseL_take] at hx
    rw [rSwi_at hu ht hc]
    have h1 : t.hi.toNat ≤ (raiseT d t).hi.toNat := by show t.hi.toNat ≤ (t.hi + d).toNat; omega
    obtain ⟨y, hy, _⟩ := least_less (G := fun w => t.hi.toNat + dSwi (ts.take k) u w) (lo' := t.hi.toNat) (hi' := t.du.toNat) (fun w _ _ => by
      have := dSwi_raise hd (ts.take k) huv w
      omega) h1 (Nat.le_refl _) hx
    have : swiOf (ts.take k) u t.hi.toNat t.du.toNat = some y := hy
    rw [this]; rfl
/-- Tasks whose raised ones hold in both modes hold in both modes. -/
theorem hBoth_raise {ts : List Tk} {d : Int} (hd : 0 ≤ d) (hs : setB ts = true) (h : hBoth (raiseL ts d) = true) : hBoth ts = true := by
  obtain ⟨hr, ha⟩ := hBoth_iff.1 h
  rw [raiseL_len] at ha
  exact hBoth_iff.2 ⟨hs, fun k hk => both_raise hd hs hr hk (ha k hk)⟩

end Go.Proofs.YtgfnlfjaekkdfaaDoor
