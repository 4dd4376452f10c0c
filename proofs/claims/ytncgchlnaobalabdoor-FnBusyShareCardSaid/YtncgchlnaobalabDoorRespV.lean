/- Low shares of all tasks against what they need in a common multiple of their periods (no program text). -/
import Derived.Test.YtncgchlnaobalabDoorRespB
import Derived.Test.YtncgchlnaobalabDoorRespS
import Derived.Test.YtncgchlnaobalabDoorShareT
namespace Go.Proofs.YtncgchlnaobalabDoor
open Go.RowKit
set_option linter.unusedVariables false

def bothS (ts : List Tk) : Nat × Nat := addN (lowOf ts true) (lowOf ts false)
theorem filter_both (ts : List Tk) : ((ts.filter fun t => t.cr == true) ++ (ts.filter fun t => t.cr == false)).Perm ts := by
  induction ts with
  | nil => exact List.Perm.refl _
  | cons t ts ih =>
    cases hc : t.cr
    · rw [List.filter_cons, List.filter_cons, hc, if_neg (by decide), if_pos (by decide)]
      exact List.perm_middle.trans (List.Perm.cons t ih)
    · rw [List.filter_cons, List.filter_cons, hc, if_pos (by decide), if_neg (by decide)]
      exact List.Perm.cons t ih
theorem need_sum {H : Nat} : ∀ {ts : List Tk}, (∀ t ∈ ts, t.ok = true) → (∀ t ∈ ts, t.ev.toNat ∣ H) → ((ts.map fun t => (t.lo.toNat, t.ev.toNat)).map fun x => H / x.2 * x.1).sum = dLow ts H
  | [], _, _ => rfl
  | t :: ts, ho, hd => by
    have o := ok_parts (ho t (by simp))
    rw [dLow_cons, List.map_cons, List.map_cons, List.sum_cons, need_sum (fun x hx => ho x (by simp [hx])) (fun x hx => hd x (by simp [hx]))]
    congr 1
    unfold dmd demN
    rw [jobs_mul (by omega) (hd t (by simp))]
    rfl
theorem bothS_is {ts : List Tk} (hs : setB ts = true) : bothS ts = redN (dLow ts (lcmL ts)) (lcmL ts) := by
  have ho : ∀ t ∈ ts, t.ok = true := fun t ht => set_ok hs ht
  have hH := (lcmL_le hs).1
  have hp : ∀ c, ∀ x ∈ (ts.filter fun t => t.cr == c).map part, 0 < x.2 := fun c x hx => (parts_facts c ho x hx).1
  unfold bothS lowOf
  rw [if_pos hs, if_pos hs]
  unfold lowL
  rw [← sum_app (hp true) (hp false), ← List.map_append, sum_perm ((filter_both ts).map part) (by
    intro x hx
    rw [List.map_append, List.mem_append] at hx
    rcases hx with h | h
    · exact hp true x h
    · exact hp false x h)]
  rw [sum_rep part (fun t => (t.lo.toNat, t.ev.toNat)) ts (fun t ht => by
    have o := ok_parts (ho t ht)
    refine ⟨(part_facts (ho t ht)).1, by show 0 < t.ev.toNat; omega, ?_⟩
    exact red_same t.lo.toNat t.ev.toNat)]
  rw [sum_common (n := lcmL ts) (by omega) (by
    intro x hx
    rw [List.mem_map] at hx
    obtain ⟨t, ht, rfl⟩ := hx
    have o := ok_parts (ho t ht)
    exact ⟨by show 0 < t.ev.toNat; omega, lcmL_dvd ht⟩)]
  rw [need_sum ho fun t ht => lcmL_dvd ht]
theorem both_le {ts : List Tk} (hs : setB ts = true) : leN (bothS ts) (1, 1) ↔ dLow ts (lcmL ts) ≤ lcmL ts := by
  have hH := (lcmL_le hs).1
  rw [bothS_is hs]
  have h1 := red_same (dLow ts (lcmL ts)) (lcmL ts)
  have h2 := red_pos (n := dLow ts (lcmL ts)) (show 0 < lcmL ts by omega)
  generalize redN (dLow ts (lcmL ts)) (lcmL ts) = s at *
  unfold leN
  simp only [Nat.mul_one, Nat.one_mul]
  constructor
  · intro h
    refine Nat.le_of_mul_le_mul_right ?_ h2
    rw [← h1, Nat.mul_comm (lcmL ts)]
    exact Nat.mul_le_mul_right _ h
  · intro h
    refine Nat.le_of_mul_le_mul_right ?_ (show 0 < lcmL ts by omega)
    rw [h1, Nat.mul_comm s.2]
    exact Nat.mul_le_mul_right _ h
/-- The sum of both low shares: it is no too great one, and it is at most 1 exactly if the tasks need no more than there is. -/
theorem both_sum {ts : List Tk} {p1 q1 p2 q2 : Nat} (hs : setB ts = true) (h1 : lowOf ts true = (p1, q1)) (h2 : lowOf ts false = (p2, q2)) :
    ∃ p q : Nat, plusB p1 q1 p2 q2 = true ∧ plusS p1 q1 p2 q2 = (p, q) ∧ (decide (cmpS p q 1 1 ≤ 0) = decide (dLow ts (lcmL ts) ≤ lcmL ts)) := by
  have s1 := (lowOf_sh true hs).1
  have s2 := (lowOf_sh false hs).1
  rw [h1] at s1
  rw [h2] at s2
  have hb : bothS ts = addN (p1, q1) (p2, q2) := by unfold bothS; rw [h1, h2]
  have hi := bothS_is hs
  have hl := lcmL_le hs
  have hd := dLow_bound hs (lcmL ts)
  have ha : addB (p1, q1) (p2, q2) = true := by
    unfold addB
    rw [← hb, hi]
    have l1 := red_le_num (dLow ts (lcmL ts)) (lcmL ts)
    have l2 := red_le_den (dLow ts (lcmL ts)) (lcmL ts)
    rw [Bool.and_eq_true, decide_eq_true_iff, decide_eq_true_iff]
    exact ⟨by omega, by omega⟩
  obtain ⟨g1, g2⟩ := plus_sh s1 s2
  rw [ha] at g1
  rw [if_pos ha, ← hb] at g2
  have hsh : Sh (bothS ts).1 (bothS ts).2 := by
    obtain ⟨a, b, x, y, e1, e2, e3, e4, _, _, e5, e6⟩ := plus_out g1
    rw [e5] at g2
    rw [← g2]; exact e6
  refine ⟨(bothS ts).1, (bothS ts).2, g1, g2, ?_⟩
  have h11 : Sh 1 1 := by
    have := sh_red (a := 1) (b := 1) (by decide) (by decide) (by decide)
    exact this
  have hc := cmp_sh hsh h11
  rw [show ((1 : Int)) = ((1 : Nat) : Int) from rfl, hc]
  exact decide_eq_decide.2 ((cmp_le _ _).trans (both_le hs))
/-- Tasks that hold with low needs need no more than there is. -/
theorem holds_share {ts : List Tk} (h : hLow ts = true) (hl : 1 ≤ ts.length) : dLow ts (lcmL ts) ≤ lcmL ts := by
  obtain ⟨hs, ha⟩ := hLow_iff.1 h
  obtain ⟨r, hr⟩ := some_of (ha (ts.length - 1) (by omega))
  obtain ⟨_, t, ht, hf⟩ := rLow_some hr
  obtain ⟨x1, x2, x3, _⟩ := resp_fix hf
  have o := ok_parts (set_ok hs (get_mem ht))
  have hd : dmd t r false = t.lo.toNat := by
    unfold dmd demN
    have hj : (r + t.ev.toNat - 1) / t.ev.toNat = 1 := Nat.div_eq_of_lt_le (by omega) (by omega)
    rw [hj, Nat.one_mul]; rfl
  have hsum := dLow_take ht r
  rw [show ts.length - 1 + 1 = ts.length by omega, List.take_length, hd] at hsum
  exact hyper_enough hs (show 1 ≤ r by omega) (by omega)
theorem hLow_pre {ts : List Tk} (h : hLow ts = true) (m : Nat) : hLow (ts.take m) = true := by
  obtain ⟨h1, h2⟩ := hLow_iff.1 h
  refine hLow_iff.2 ⟨set_take h1 m, fun k hk => ?_⟩
  rw [List.length_take] at hk
  rw [rLow_pre h1 (by omega)]
  exact h2 k (by omega)

end Go.Proofs.YtncgchlnaobalabDoor
