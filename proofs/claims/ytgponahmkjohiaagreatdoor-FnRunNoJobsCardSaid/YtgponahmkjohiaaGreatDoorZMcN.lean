import Derived.Test.YtgponahmkjohiaaGreatDoorZMcL
namespace Go.Proofs.YtgponahmkjohiaaGreatDoor
open Go.RowKit
set_option linter.unusedVariables false
section
variable {ts : List Tk} {js : List Jb} {p : Po}
theorem tr_at (hv : jobsB ts js = true) {n t : Nat} {x : Int} (h : (runM ts js p n).tr[t]? = some x) : t < n ∧ x = outN ts js p t := by
  have ht : t < n := by
    have := (List.getElem?_eq_some_iff.1 h).1
    rwa [tr_len hv] at this
  rw [tr_get hv n t ht] at h
  exact ⟨ht, (Option.some.inj h).symm⟩
/-- Where nobody ran, no job was open. -/
theorem work_none (hv : jobsB ts js = true) {n t k : Nat} {e : Int} (h : (runM ts js p n).tr[t]? = some (-1)) (he : (runM ts js p n).en[k]? = some e) (htm : (jobOf js k).tm ≤ t) : e ≠ -1 ∧ e ≤ t := by
  obtain ⟨ht, hx⟩ := tr_at hv h
  have hc := ch_none hv (idle_none hv hx.symm) k
  refine ⟨fun h1 => hc (opn_late hv he (.inl h1) ht htm), ?_⟩
  rcases Int.lt_or_le t e with h2 | h2
  · exact absurd (opn_late hv he (.inr h2) ht htm) hc
  · exact h2
/-- Who ran had a job by then. -/
theorem own_some (hv : jobsB ts js = true) {n t : Nat} {x : Int} (h : (runM ts js p n).tr[t]? = some x) (hx : x ≠ -1) : ∃ c, c < js.length ∧ (jobOf js c).ta = x ∧ (jobOf js c).tm ≤ t := by
  obtain ⟨ht, e⟩ := tr_at hv h
  rcases out_cases (p := p) hv t with ⟨_, h2⟩ | ⟨c, h1, h2, h3, h4, h5, h6⟩
  · rw [h2] at e; exact absurd e hx
  · exact ⟨c, h3, by rw [e, h2], h6⟩
theorem sw_sorted (hv : jobsB ts js = true) : ∀ n : Nat, (runM ts js p n).sw.Pairwise (· < ·)
  | 0 => List.Pairwise.nil
  | n + 1 => by
    rw [sw_next hv, List.pairwise_append]
    refine ⟨sw_sorted hv n, by split <;> simp, fun a ha b hb => ?_⟩
    obtain ⟨u, h1, h2, _⟩ := sw_mem hv n a ha
    split at hb
    · rw [List.mem_singleton] at hb; omega
    · cases hb
/-- A switch: its time, and that a critical task ran before it. -/
theorem sw_fact (hv : jobsB ts js = true) {n k : Nat} {t : Int} (h : (runM ts js p n).sw[k]? = some t) : ∃ (u i : Nat), u < n ∧ t = (u : Int) + 1 ∧ (runM ts js p n).tr[u]? = some (i : Int) ∧ ∃ tk, ts[i]? = some tk ∧ tk.cr = true := by
  obtain ⟨u, h1, h2, h3⟩ := sw_mem hv n t (List.mem_of_getElem? h)
  obtain ⟨_, c, hc, hcr, _⟩ := sw_of h3
  have ho : outN ts js p u = (jobOf js c).ta := by unfold outN; rw [hc]
  have hk := (opn_len hv (ch_some hv hc).1).1
  have hok := job_ok hv hk
  obtain ⟨i, hi⟩ := Int.eq_ofNat_of_zero_le hok.2.2.2.1
  have hil : i < ts.length := by omega
  refine ⟨u, i, h1, h2, by rw [tr_get hv n u h1, ho, hi], ts[i], List.getElem?_eq_getElem hil, ?_⟩
  have : tkJ ts js c = ts[i] := by unfold tkJ; rw [hi]; exact tkOf_get (List.getElem?_eq_getElem hil)
  rw [← this]; exact hcr
theorem sw_up (hv : jobsB ts js = true) {n k : Nat} {a b : Int} (ha : (runM ts js p n).sw[k]? = some a) (hb : (runM ts js p n).sw[k + 1]? = some b) : a < b := by
  have h := sw_sorted (p := p) hv n
  obtain ⟨l1, e1⟩ := List.getElem?_eq_some_iff.1 ha
  obtain ⟨l2, e2⟩ := List.getElem?_eq_some_iff.1 hb
  have := List.pairwise_iff_getElem.1 h k (k + 1) l1 l2 (by omega)
  rw [e1, e2] at this
  exact this
theorem hi_sw (hv : jobsB ts js = true) (n : Nat) (h : (runM ts js p n).hi = true) : (runM ts js p n).sw ≠ [] := (run_at (p := p) hv n).1.hisw h
/-- Whether a job that has come is not done by then. -/
def leftB (tm e t : Int) : Bool := decide (tm < t) && (decide (e = -1) || decide (t < e))
theorem idle_low (hv : jobsB ts js = true) {n k : Nat} {a b : Int} (ha : (runM ts js p n).sw[k]? = some a) (hb : (runM ts js p n).sw[k + 1]? = some b) :
    ∃ t : Nat, a ≤ t ∧ (t : Int) < b ∧ ∀ (k : Nat), k < js.length → leftB (jobOf js k).tm ((runM ts js p n).en.getD k 0) t = false := by
  obtain ⟨t, h1, h2, h3⟩ := idle_between hv (List.mem_of_getElem? ha) (List.mem_of_getElem? hb) (sw_up hv ha hb)
  refine ⟨t, h1, h2, fun k hk => ?_⟩
  have he := en_get (p := p) (n := n) hv hk
  unfold leftB
  by_cases hm : (jobOf js k).tm < t
  · have := h3 k _ he hm
    simp only [Bool.and_eq_false_iff, Bool.or_eq_false_iff, decide_eq_false_iff_not]
    right
    exact ⟨this.1, by omega⟩
  · simp only [Bool.and_eq_false_iff, decide_eq_false_iff_not]
    exact .inl hm
end
end Go.Proofs.YtgponahmkjohiaaGreatDoor
