/- The walks of the laws on periods. -/
import Derived.Test.YtpalcnhceffcmaaNA
namespace Go.Proofs.Ytpalcnhceffcmaa
open Go.RowKit

theorem lcmL_all (ts : List Tk) : lcmL (ts.take ts.length) = lcmL ts := by rw [List.take_of_length_le (Nat.le_refl _)]
theorem hyper_le (ts : List Tk) : hyperOf ts ≤ 3200000 := by
  unfold hyperOf
  cases h : setB ts
  · simp
  · have := (lcmL_bound h ts.length).2
    rw [lcmL_all] at this
    simpa using this
theorem hyper_pos {ts : List Tk} (h : setB ts = true) : 1 ≤ hyperOf ts := by
  have := (lcmL_bound h ts.length).1
  rw [lcmL_all] at this
  simpa [hyperOf, h] using this

theorem foldl_dvd (zs : List Nat) : ∀ m : Nat, m ∣ zs.foldl Nat.lcm m ∧ ∀ z ∈ zs, z ∣ zs.foldl Nat.lcm m := by
  induction zs with
  | nil => intro m; exact ⟨Nat.dvd_refl _, fun z hz => by simp at hz⟩
  | cons y zs ih =>
    intro m
    obtain ⟨h1, h2⟩ := ih (Nat.lcm m y)
    refine ⟨Nat.dvd_trans (Nat.dvd_lcm_left m y) h1, fun z hz => ?_⟩
    rcases List.mem_cons.1 hz with rfl | hz
    · exact Nat.dvd_trans (Nat.dvd_lcm_right m z) h1
    · exact h2 z hz
theorem foldl_least (zs : List Nat) : ∀ m k : Nat, m ∣ k → (∀ z ∈ zs, z ∣ k) → zs.foldl Nat.lcm m ∣ k := by
  induction zs with
  | nil => intro m k h _; exact h
  | cons y zs ih =>
    intro m k h hz
    exact ih _ _ (Nat.lcm_dvd h (hz y (by simp))) (fun z h' => hz z (by simp [h']))
theorem lcmL_dvd {ts : List Tk} {t : Tk} (h : t ∈ ts) : t.ev.toNat ∣ lcmL ts := by
  rw [← hyper_evs]
  exact (foldl_dvd (evs ts) 1).2 _ (List.mem_map.2 ⟨t, h, rfl⟩)
theorem lcmL_least {ts : List Tk} {k : Nat} (h : ∀ t ∈ ts, t.ev.toNat ∣ k) : lcmL ts ∣ k := by
  rw [← hyper_evs]
  refine foldl_least (evs ts) 1 k (Nat.one_dvd _) (fun z hz => ?_)
  obtain ⟨t, ht, rfl⟩ := List.mem_map.1 hz
  exact h t ht

theorem hyper_dvd {ts : List Tk} {m k : Nat} {t : Tk} (hs : setB ts = true) (hm : m = hyperOf ts) (ht : ts[k]? = some t) : (((m : Int) % t.ev) != 0) = false ∧ ¬ (m : Int) < t.ev := by
  have hmem := List.mem_of_getElem? ht
  obtain ⟨e1, e2⟩ := ev_bound hs ht
  have hd : t.ev.toNat ∣ m := by rw [hm]; simp only [hyperOf, hs, if_true]; exact lcmL_dvd hmem
  have hp : 1 ≤ m := by rw [hm]; exact hyper_pos hs
  obtain ⟨z, hz⟩ := Int.eq_ofNat_of_zero_le (show 0 ≤ t.ev by omega)
  rw [hz] at hd ⊢
  rw [Int.toNat_natCast] at hd
  refine ⟨?_, ?_⟩
  · have : (m : Int) % (z : Int) = 0 := by exact_mod_cast Nat.mod_eq_zero_of_dvd hd
    simp [this]
  · have := Nat.le_of_dvd (by omega) hd
    omega

theorem sub_hyper {ts us : List Tk} {m q : Nat} (hs : setB ts = true) (hu : setB us = true) (hm : m = hyperOf ts) (hq : q = hyperOf us) (h : ∀ u ∈ us, ∃ t ∈ ts, u.ev = t.ev) : 1 ≤ q ∧ q ≤ m ∧ q ∣ m := by
  have q1 : 1 ≤ q := by rw [hq]; exact hyper_pos hu
  have m1 : 1 ≤ m := by rw [hm]; exact hyper_pos hs
  have hd : q ∣ m := by
    rw [hq, hm]
    simp only [hyperOf, hs, hu, if_true]
    refine lcmL_least fun u hu' => ?_
    obtain ⟨t, ht, e⟩ := h u hu'
    rw [e]
    exact lcmL_dvd ht
  exact ⟨q1, Nat.le_of_dvd (by omega) hd, hd⟩

theorem crit_hyper {ts us : List Tk} {m q : Nat} (hs : setB ts = true) (hus : us = critOf ts) (hm : m = hyperOf ts) (hq : q = hyperOf us) : 1 ≤ q ∧ q ≤ m ∧ q ∣ m := by
  refine sub_hyper hs (crit_facts hs hus).1 hm hq fun u hu => ?_
  rw [hus] at hu
  simp only [critOf, hs, if_true] at hu
  obtain ⟨t, ht, _, rfl⟩ := critL_mem hu
  exact ⟨t, ht, rfl⟩

theorem setB_tail {ts : List Tk} (h : setB ts = true) : setB ts.tail = true := by
  unfold setB at h ⊢
  simp at h ⊢
  exact ⟨by omega, fun t ht => h.2 t (List.mem_of_mem_tail ht)⟩
theorem tail_hyper {ts : List Tk} {m q : Nat} (hs : setB ts = true) (hm : m = hyperOf ts) (hq : q = hyperOf ts.tail) : 1 ≤ q ∧ q ≤ m ∧ q ∣ m :=
  sub_hyper hs (setB_tail hs) hm hq fun u hu => ⟨u, List.mem_of_mem_tail hu, rfl⟩

theorem own_cap {w : World} {B c : Nat} {A : Option Addr} {ts : List Tk} (h : Own w B (.slice A ts.length c) ts) (hl : 1 ≤ ts.length) : ∃ g, A = some ⟨g, 0, none⟩ ∧ ts.length ≤ c ∧ c ≤ maxLen := by
  rcases h.2 with ⟨e, h0⟩ | ⟨g, cap, cur, e, _, _, h1, h2, _⟩
  · omega
  · injection e with e1 e2 e3
    subst e3
    exact ⟨g, e1, h1, h2⟩
theorem tail_one {w : World} {B n : Nat} {A A' : Option Addr} {ts : List Tk} (h : Own w B (.slice A ts.length 1) ts) (hn : n = ts.length - 1 := by first | rfl | omega) : Tks w w.heap.size A' n ts.tail := by
  have hl : ts.length ≤ 1 := by
    rcases h.2 with ⟨e, h0⟩ | ⟨g, cap, cur, e, _, _, h1, h2, _⟩
    · omega
    · injection e with e1 e2 e3
      omega
  refine ⟨by simp [hn], fun i t ht => ?_⟩
  have := (List.getElem?_eq_some_iff.1 ht).1
  simp at this
  omega
theorem tail_more {w : World} {B c g n : Nat} {ts : List Tk} (h : Own w B (.slice (some ⟨g, 0, none⟩) ts.length c) ts) (hn : n = ts.length - 1 := by first | rfl | omega) : Tks w w.heap.size (some ⟨g, 5, none⟩) n ts.tail := by
  refine ⟨by simp [hn], fun i t ht => ?_⟩
  have ht' : ts[i + 1]? = some t := by rw [← List.getElem?_tail]; exact ht
  obtain ⟨b, o, e, hb, hc⟩ := h.reads.2.at_ (i + 1) t ht'
  injection e with e
  injection e with e1 e2
  subst e1 e2
  refine ⟨g, 5, rfl, hb, ?_⟩
  have e : 5 + i * 5 = 0 + (i + 1) * 5 := by omega
  rw [e]
  exact hc

def allD (k : Nat) (ts : List Tk) : Bool := ts.all fun t => (k : Int) % t.ev == 0
theorem allD_take {ts : List Tk} {k j : Nat} {t : Tk} (h : ts[j]? = some t) (_he : 1 ≤ t.ev) : allD k (ts.take (j + 1)) = (allD k (ts.take j) && ((k : Int) % t.ev == 0)) := by
  obtain ⟨hk, rfl⟩ := List.getElem?_eq_some_iff.1 h
  rw [List.take_succ_eq_append_getElem hk]
  simp only [allD, List.all_append, List.all_cons, List.all_nil, Bool.and_true]
theorem hyper_least {ts : List Tk} {m k : Nat} (hs : setB ts = true) (hm : m = hyperOf ts) (h1 : 1 ≤ k) (h2 : k < m) : allD k ts = false := by
  cases h : allD k ts
  · rfl
  · exfalso
    have hd : m ∣ k := by
      rw [hm]
      simp only [hyperOf, hs, if_true]
      refine lcmL_least fun t ht => ?_
      unfold allD at h
      rw [List.all_eq_true] at h
      have := h t ht
      rw [beq_iff_eq] at this
      obtain ⟨j, hj⟩ := List.getElem?_of_mem ht
      obtain ⟨e1, _⟩ := ev_bound hs hj
      obtain ⟨z, hz⟩ := Int.eq_ofNat_of_zero_le (show 0 ≤ t.ev by omega)
      rw [hz] at this ⊢
      rw [Int.toNat_natCast]
      exact Nat.dvd_of_mod_eq_zero (by exact_mod_cast this)
    have := Nat.le_of_dvd (by omega) hd
    omega

end Go.Proofs.Ytpalcnhceffcmaa
