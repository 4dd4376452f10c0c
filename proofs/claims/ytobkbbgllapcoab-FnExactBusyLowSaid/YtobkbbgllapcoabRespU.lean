/- Critical tasks as plain data, and what busy times are (no program text). -/
import Derived.Test.YtobkbbgllapcoabRespT
import Derived.Test.YtobkbbgllapcoabHyper
import Derived.Test.YtobkbbgllapcoabLeast
namespace Go.Proofs.Ytobkbbgllapcoab
set_option linter.unusedVariables false

/-- A task with its high need alone. -/
def Tk.up (t : Tk) : Tk := ⟨t.hi, t.hi, t.du, t.ev, t.cr⟩
theorem up_ok {t : Tk} (h : t.ok = true) : t.up.ok = true := by
  obtain ⟨h1, h2, h3, h4, h5, h6⟩ := ok_parts h
  unfold Tk.ok validB Tk.up
  simp only [Bool.and_eq_true, decide_eq_true_iff, Bool.or_eq_true, beq_iff_eq]
  exact ⟨by omega, by omega, h3, h4, h5, .inr (by first | trivial | rfl)⟩
theorem critL_eq (ts : List Tk) : critL ts = (ts.filter Tk.cr).map Tk.up := rfl
theorem crit_app (xs ys : List Tk) : critL (xs ++ ys) = critL xs ++ critL ys := by rw [critL_eq, critL_eq, critL_eq, List.filter_append, List.map_append]
theorem crit_split (ts : List Tk) (k : Nat) : critL ts = critL (ts.take k) ++ critL (ts.drop k) := by rw [← crit_app, List.take_append_drop]
theorem crit_sub {xs ys : List Tk} (h : xs.Sublist ys) : (critL xs).Sublist (critL ys) := (h.filter _).map _
theorem set_crit {ts : List Tk} (h : setB ts = true) : setB (critL ts) = true := by
  refine set_of (Nat.le_trans (critL_len ts) (setB_len h)) fun t ht => ?_
  rw [critL_eq, List.mem_map] at ht
  obtain ⟨u, hu, rfl⟩ := ht
  exact up_ok (set_ok h (List.mem_filter.1 hu).1)
theorem crit_all {ts : List Tk} {t : Tk} (h : t ∈ critL ts) : t.cr = true := by
  rw [critL_eq, List.mem_map] at h
  obtain ⟨u, hu, rfl⟩ := h
  exact (List.mem_filter.1 hu).2
theorem drop_at' {ts : List Tk} {k : Nat} {t : Tk} (h : ts[k]? = some t) : ts.drop k = t :: ts.drop (k + 1) := by
  obtain ⟨hk, rfl⟩ := List.getElem?_eq_some_iff.1 h
  exact List.drop_eq_getElem_cons hk
/-- Where a critical task stands among the critical ones. -/
theorem crit_at {ts : List Tk} {k : Nat} {t : Tk} (h : ts[k]? = some t) (hc : t.cr = true) : (critL ts)[(critL (ts.take k)).length]? = some t.up := by
  rw [crit_split ts k, List.getElem?_append_right (Nat.le_refl _), Nat.sub_self, drop_at' h, critL_eq]
  simp [hc]
theorem crit_take {ts : List Tk} (k : Nat) : (critL ts).take (critL (ts.take k)).length = critL (ts.take k) := by
  rw [crit_split ts k, List.take_left]
theorem critOf_set {ts : List Tk} (h : setB ts = true) : critOf ts = critL ts := by unfold critOf; rw [if_pos h]
theorem rHigh_is {ts : List Tk} {k : Nat} {t : Tk} (hs : setB ts = true) (h : ts[k]? = some t) (hc : t.cr = true) : rHigh ts k = respOf (critL (ts.take k)) t.hi.toNat t.du.toNat := by
  rw [rHigh_at hs h hc, rLow_at (set_crit hs) (crit_at h hc), crit_take]; rfl

/-- What critical tasks need with their high needs. -/
theorem dmd_up (t : Tk) (w : Nat) : dmd t.up w false = dmd t w true := rfl
theorem dCrit_sum (ts : List Tk) (w : Nat) : dLow (critL ts) w = (ts.map fun t => if t.cr then dmd t w true else 0).sum := by
  induction ts with
  | nil => rfl
  | cons t ts ih =>
    rw [critL_eq, List.filter_cons]
    cases hc : t.cr
    · rw [if_neg (by decide), ← critL_eq, ih]; simp [hc]
    · rw [if_pos rfl, List.map_cons]
      have : dLow (t.up :: critL ts) w = dmd t.up w false + dLow (critL ts) w := by simp [dLow]
      rw [critL_eq] at this
      rw [this, ← critL_eq, ih, dmd_up]; simp [hc]
/-- What tasks need: at least what the critical ones need. -/
theorem dCrit_le (ts : List Tk) (l w : Nat) : dLow (critL ts) w ≤ dSwi ts l w := by
  rw [dCrit_sum]
  refine sum_le fun t _ => ?_
  unfold dmS
  split
  · exact Nat.le_refl _
  · exact Nat.zero_le _
theorem dLow_pos {ts : List Tk} (hs : setB ts = true) (hn : ts ≠ []) {w : Nat} (hw : 1 ≤ w) : 1 ≤ dLow ts w := by
  cases ts with
  | nil => exact absurd rfl hn
  | cons t ts =>
    have h := ok_parts (set_ok hs (List.mem_cons_self ..))
    have h1 : t.lo.toNat ≤ dmd t w false := dem_pos (by omega) (by omega) hw
    have : dLow (t :: ts) w = dmd t w false + dLow ts w := by simp [dLow]
    omega
theorem bLow_bad {ts : List Tk} (h : setB ts = false) : bLow ts = none := by unfold bLow; rw [h]; rfl
theorem bLow_nil : bLow [] = none := rfl
theorem bLow_is {ts : List Tk} (hs : setB ts = true) (hn : ts ≠ []) : bLow ts = leastN (dLow ts) 1 (lcmL ts) := by
  unfold bLow; rw [hs]
  cases ts with
  | nil => exact absurd rfl hn
  | cons t ts => rfl
theorem lcmL_le {ts : List Tk} (hs : setB ts = true) : 1 ≤ lcmL ts ∧ lcmL ts ≤ 3200000 := by
  have := lcmL_bound hs ts.length
  rwa [List.take_length] at this

end Go.Proofs.Ytobkbbgllapcoab
