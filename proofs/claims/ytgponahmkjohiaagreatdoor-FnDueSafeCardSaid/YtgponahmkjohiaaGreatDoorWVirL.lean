import Derived.Test.YtgponahmkjohiaaGreatDoorWNB
import Derived.Test.YtgponahmkjohiaaGreatDoorWNA
namespace Go.Proofs.YtgponahmkjohiaaGreatDoor
theorem le_add' {a b : Nat × Nat} (ha : 0 < a.2) (hb : 0 < b.2) : leN b (addN a b) := by rw [add_comm]; exact le_add hb ha
theorem set_pos {ts : List Tk} (h : setB ts = true) : 0 < (lowOf ts false).2 ∧ 0 < (lowOf ts true).2 ∧ 0 < (highOf ts).2 :=
  let V := vb_of h
  ⟨V.a2, V.b2, V.h2⟩
/-- The factor: where it is one, and what it is otherwise. -/
theorem fac_red {ts : List Tk} (h : facB ts = true) (hp : plainV ts = false) :
    (facV ts).1 * ((lowOf ts true).2 * ((lowOf ts false).2 - (lowOf ts false).1)) = (lowOf ts true).1 * (lowOf ts false).2 * (facV ts).2 := by
  rw [facV_some h hp]
  exact red_same _ _
/-- The factor is at least the share of critical low needs. -/
theorem fac_low {ts : List Tk} (h : facB ts = true) : leN (lowOf ts true) (facV ts) := by
  have hs := imp_set (fac_imp h)
  obtain ⟨a2, b2, h2⟩ := set_pos hs
  cases hp : plainV ts
  · have hlt := fac_lt h hp
    have e := fac_red h hp
    unfold leN
    refine Nat.le_of_mul_le_mul_right ?_ (show 0 < (lowOf ts false).2 - (lowOf ts false).1 by omega)
    calc (lowOf ts true).1 * (facV ts).2 * ((lowOf ts false).2 - (lowOf ts false).1) ≤ (lowOf ts true).1 * (facV ts).2 * (lowOf ts false).2 := Nat.mul_le_mul_left _ (by omega)
      _ = (lowOf ts true).1 * (lowOf ts false).2 * (facV ts).2 := by ac_rfl
      _ = (facV ts).1 * ((lowOf ts true).2 * ((lowOf ts false).2 - (lowOf ts false).1)) := e.symm
      _ = (facV ts).1 * (lowOf ts true).2 * ((lowOf ts false).2 - (lowOf ts false).1) := by ac_rfl
  · rw [facV_plain hp]
    exact le_trans' h2 (low_le_high hs) (le_trans' (add_pos a2 h2) (le_add' a2 h2) (plain_le hp))
/-- A critical task needs something, so the factor is no zero. -/
theorem fac_pos {ts : List Tk} (h : facB ts = true) {t : Tk} (ht : t ∈ ts) (hc : t.cr = true) : 0 < (facV ts).1 := by
  have hs := imp_set (fac_imp h)
  obtain ⟨_, hok⟩ := setB_all hs
  have hl := fac_low h
  have hd := (facV_sh h).1.pos
  have hb : 0 < (lowOf ts true).1 := by
    have e : lowOf ts true = sumN ((ts.filter fun t => t.cr == true).map part) := by unfold lowOf lowL; rw [if_pos hs]
    rw [e]
    have hz := sum_zero (xs := (ts.filter fun t => t.cr == true).map part) (fun x hx => by
      obtain ⟨u, hu, rfl⟩ := List.mem_map.1 hx
      obtain ⟨p1, _, _, p4⟩ := part_facts (hok u (List.mem_filter.1 hu).1)
      exact ⟨p4, p1⟩)
    have hne : ¬ (ts.filter fun t => t.cr == true).map part = [] := by
      intro e
      have : t ∈ ts.filter fun t => t.cr == true := List.mem_filter.2 ⟨ht, by simp [hc]⟩
      rw [List.map_eq_nil_iff.1 e] at this
      cases this
    exact Nat.pos_of_ne_zero fun e => hne (hz.1 e)
  unfold leN at hl
  rcases Nat.eq_zero_or_pos (facV ts).1 with h0 | h0
  · rw [h0, Nat.zero_mul] at hl
    exact absurd hl (Nat.not_le.2 (Nat.mul_pos hb hd))
  · exact h0
end Go.Proofs.YtgponahmkjohiaaGreatDoor
