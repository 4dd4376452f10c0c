/- Worst jobs, of plain data: those of one tick, those of all ticks; they are valid, and as many as fit. No program in this text. -/
import Derived.Test.YtjondedkgkohfaaJbB
namespace Go.Proofs.Ytjondedkgkohfaa
open Go.RowKit
set_option linter.unusedVariables false

def needOf (h : Bool) (t : Tk) : Int := if h then t.hi else t.lo
/-- The jobs of one tick, of the tasks from a place on. -/
def rowJ (h : Bool) (n : Nat) : Nat → List Tk → List Jb
  | _, [] => []
  | k, t :: ts => (if (n : Int) % t.ev = 0 then [⟨(k : Int), (n : Int), needOf h t⟩] else []) ++ rowJ h n (k + 1) ts
def worstL (h : Bool) (ts : List Tk) : Nat → List Jb
  | 0 => []
  | n + 1 => worstL h ts n ++ rowJ h n 0 ts
def worstB (ts : List Tk) (u : Int) (h : Bool) : Bool := setB ts && (decide (0 ≤ u) && (decide (u ≤ 200) && decide ((worstL h ts u.toNat).length ≤ 60)))
def worstV (ts : List Tk) (u : Int) (h : Bool) : List Jb := if worstB ts u h then worstL h ts u.toNat else []

theorem row_mem {h : Bool} {n : Nat} : ∀ {ts : List Tk} {k : Nat} {j : Jb}, j ∈ rowJ h n k ts → ∃ (i : Nat) (t : Tk), ts[i]? = some t ∧ j = ⟨((k + i : Nat) : Int), (n : Int), needOf h t⟩ ∧ (n : Int) % t.ev = 0
  | [], k, j, hj => by simp [rowJ] at hj
  | t :: ts, k, j, hj => by
    rw [rowJ] at hj
    rcases List.mem_append.1 hj with h1 | h1
    · split at h1
      · rename_i hd
        exact ⟨0, t, rfl, by simpa using h1, hd⟩
      · simp at h1
    · obtain ⟨i, u, hu, e, hd⟩ := row_mem h1
      exact ⟨i + 1, u, by simpa using hu, by rw [e]; simp; omega, hd⟩
theorem row_order {h : Bool} {n : Nat} : ∀ {ts : List Tk} {k : Nat}, (rowJ h n k ts).Pairwise (fun a b => a.tm = b.tm ∧ a.ta < b.ta)
  | [], k => by simp [rowJ]
  | t :: ts, k => by
    rw [rowJ, List.pairwise_append]
    refine ⟨by split <;> simp, row_order, fun a ha b hb => ?_⟩
    split at ha
    · rw [List.mem_singleton.1 ha]
      obtain ⟨i, u, _, e, _⟩ := row_mem hb
      rw [e]
      exact ⟨rfl, by dsimp only; omega⟩
    · simp at ha
theorem worst_mem {h : Bool} {ts : List Tk} : ∀ {n : Nat} {j : Jb}, j ∈ worstL h ts n → ∃ (m i : Nat) (t : Tk), m < n ∧ ts[i]? = some t ∧ j = ⟨(i : Int), (m : Int), needOf h t⟩ ∧ (m : Int) % t.ev = 0
  | 0, j, hj => by simp [worstL] at hj
  | n + 1, j, hj => by
    rw [worstL] at hj
    rcases List.mem_append.1 hj with h1 | h1
    · obtain ⟨m, i, t, hm, r⟩ := worst_mem h1
      exact ⟨m, i, t, by omega, r⟩
    · obtain ⟨i, t, ht, e, hd⟩ := row_mem h1
      exact ⟨n, i, t, by omega, ht, by rw [e]; simp, hd⟩
theorem tk_at {ts : List Tk} {i : Nat} {t : Tk} (h : ts[i]? = some t) : tkOf ts (i : Int) = t := by
  obtain ⟨hi, rfl⟩ := List.getElem?_eq_some_iff.1 h
  unfold tkOf
  simp [List.getD, List.getElem?_eq_getElem hi]
theorem mod_gap {a b e : Int} (he : 0 < e) (ha : a % e = 0) (hb : b % e = 0) (h : a < b) : e ≤ b - a := by
  have h1 : (b - a) % e = 0 := by rw [Int.sub_emod, ha, hb]; simp
  obtain ⟨q, hq⟩ := Int.dvd_of_emod_eq_zero h1
  have hq0 : 0 < q := by
    by_cases h0 : 0 < q
    · exact h0
    · have h0 : q ≤ 0 := by omega
      have : e * q ≤ 0 := Int.mul_nonpos_of_nonneg_of_nonpos (Int.le_of_lt he) h0
      omega
  have := Int.mul_le_mul_of_nonneg_left (show (1 : Int) ≤ q by omega) (Int.le_of_lt he)
  omega
/-- Worst jobs are jobs, in order, and far enough apart. -/
theorem worst_ok {h : Bool} {ts : List Tk} (hs : setB ts = true) : ∀ {n : Nat}, n ≤ 201 → (worstL h ts n).all (jobB ts) = true ∧ pairB ts (worstL h ts n) = true
  | 0, _ => ⟨rfl, rfl⟩
  | n + 1, hn => by
    obtain ⟨h1, h2⟩ := worst_ok hs (n := n) (by omega)
    have hall : ∀ t ∈ ts, t.ok = true := by unfold setB at hs; simp at hs; exact hs.2
    have hrow : ∀ j ∈ rowJ h n 0 ts, jobB ts j = true := fun j hj => by
      obtain ⟨i, t, ht, e, _⟩ := row_mem hj
      rw [Nat.zero_add] at e
      subst e
      have hi := (List.getElem?_eq_some_iff.1 ht).1
      have hok := hall t (List.mem_of_getElem? ht)
      unfold Tk.ok validB at hok
      simp at hok
      refine jobB_iff.2 ⟨by dsimp only; omega, by dsimp only; omega, by dsimp only; omega, by dsimp only; omega, ?_, ?_⟩
      · show 1 ≤ needOf h t; unfold needOf; split <;> omega
      · show needOf h t ≤ (tkOf ts (i : Int)).hi; rw [tk_at ht]; unfold needOf; split <;> omega
    refine ⟨by rw [worstL, List.all_append, h1, Bool.true_and, List.all_eq_true]; exact hrow, pairB_iff.2 ?_⟩
    rw [worstL, List.pairwise_append]
    refine ⟨pairB_iff.1 h2, row_order.imp fun {a b} hab => farB_iff.2 ⟨.inr hab, fun e => by omega⟩, fun a ha b hb => ?_⟩
    obtain ⟨m, i, t, hm, ht, ea, hda⟩ := worst_mem ha
    obtain ⟨k, u, hu, eb, hdb⟩ := row_mem hb
    rw [Nat.zero_add] at eb
    subst ea eb
    refine farB_iff.2 ⟨.inl (by dsimp only; omega), fun e => ?_⟩
    dsimp only at e ⊢
    obtain rfl : i = k := by omega
    rw [ht] at hu
    obtain rfl := Option.some.inj hu
    rw [tk_at ht]
    have hok := hall t (List.mem_of_getElem? ht)
    unfold Tk.ok validB at hok
    simp at hok
    exact mod_gap (by omega) hda hdb (by omega)
theorem worst_jobs {ts : List Tk} {u : Int} {h : Bool} (hw : worstB ts u h = true) : jobsB ts (worstL h ts u.toNat) = true := by
  unfold worstB at hw
  simp at hw
  exact jobs_parts.2 ⟨hw.1, hw.2.2.2, worst_ok hw.1 (by omega)⟩
theorem worst_pre {h : Bool} {ts : List Tk} : ∀ {m n : Nat}, m ≤ n → ∃ r, worstL h ts n = worstL h ts m ++ r
  | m, 0, hm => ⟨[], by rw [show m = 0 by omega]; rfl⟩
  | m, n + 1, hm => by
    by_cases e : m = n + 1
    · exact ⟨[], by rw [e, List.append_nil]⟩
    · obtain ⟨r, hr⟩ := worst_pre (h := h) (ts := ts) (show m ≤ n by omega)
      exact ⟨r ++ rowJ h n 0 ts, by rw [worstL, hr, List.append_assoc]⟩
theorem row_len {h h' : Bool} {n : Nat} : ∀ {ts : List Tk} {k : Nat}, (rowJ h n k ts).map (fun j => (j.ta, j.tm)) = (rowJ h' n k ts).map (fun j => (j.ta, j.tm))
  | [], k => rfl
  | t :: ts, k => by
    rw [rowJ, rowJ, List.map_append, List.map_append, row_len (h := h) (h' := h')]
    congr 1
    split <;> rfl
theorem worst_both {ts : List Tk} : ∀ {n : Nat} (h h' : Bool), (worstL h ts n).map (fun j => (j.ta, j.tm)) = (worstL h' ts n).map (fun j => (j.ta, j.tm))
  | 0, h, h' => rfl
  | n + 1, h, h' => by rw [worstL, worstL, List.map_append, List.map_append, worst_both h h', row_len (h := h) (h' := h')]
theorem ceil_step {n e : Nat} (he : 0 < e) : (n + 1 + e - 1) / e = (n + e - 1) / e + if n % e = 0 then 1 else 0 := by
  have d := Nat.div_add_mod n e
  rw [show n + 1 + e - 1 = n + e by omega, Nat.add_div_right n he]
  split
  · rename_i h0
    have : n + e - 1 = e * (n / e) + (e - 1) := by omega
    rw [this, Nat.mul_add_div he, Nat.div_eq_of_lt (show e - 1 < e by omega)]
  · rename_i h0
    have hl := Nat.mod_lt n he
    have e1 : e * (n / e + 1) = e * (n / e) + e := by rw [Nat.mul_add, Nat.mul_one]
    have : n + e - 1 = e * (n / e + 1) + (n % e - 1) := by omega
    rw [this, Nat.mul_add_div he, Nat.div_eq_of_lt (show n % e - 1 < e by omega)]
def ceilD (n : Nat) (t : Tk) : Nat := (n + t.ev.toNat - 1) / t.ev.toNat
theorem mod_nat {n : Nat} {t : Tk} (h : 0 < t.ev) : ((n : Int) % t.ev = 0) ↔ n % t.ev.toNat = 0 := by
  obtain ⟨e, he⟩ : ∃ e : Nat, t.ev = (e : Int) := ⟨t.ev.toNat, by omega⟩
  rw [he, Int.toNat_natCast]
  omega
theorem row_count {h : Bool} {n : Nat} : ∀ {ts : List Tk} {k : Nat}, (∀ t ∈ ts, 0 < t.ev) → (rowJ h n k ts).length + (ts.map (ceilD n)).sum = (ts.map (ceilD (n + 1))).sum
  | [], k, _ => rfl
  | t :: ts, k, hp => by
    have ih := row_count (h := h) (n := n) (ts := ts) (k := k + 1) fun u hu => hp u (by simp [hu])
    have h0 := hp t (by simp)
    have hc := ceil_step (n := n) (e := t.ev.toNat) (by omega)
    have hm := mod_nat (n := n) h0
    rw [rowJ, List.length_append, List.map_cons, List.map_cons, List.sum_cons, List.sum_cons]
    have e1 : ceilD (n + 1) t = ceilD n t + if n % t.ev.toNat = 0 then 1 else 0 := hc
    rw [e1]
    by_cases hd : n % t.ev.toNat = 0
    · rw [if_pos (hm.2 hd), if_pos hd, List.length_singleton]; omega
    · rw [if_neg (fun x => hd (hm.1 x)), if_neg hd, List.length_nil]; omega
/-- Worst jobs are as many as fit. -/
theorem worst_count {h : Bool} {ts : List Tk} (hp : ∀ t ∈ ts, 0 < t.ev) : ∀ {n : Nat}, (worstL h ts n).length = (ts.map (ceilD n)).sum
  | 0 => by
    rw [worstL, List.length_nil]
    have : ∀ l : List Tk, (∀ t ∈ l, 0 < t.ev) → (l.map (ceilD 0)).sum = 0 := fun l => by
      induction l with
      | nil => intro _; rfl
      | cons t l ih =>
        intro hl
        rw [List.map_cons, List.sum_cons, ih fun u hu => hl u (by simp [hu])]
        have := hl t (by simp)
        unfold ceilD
        rw [Nat.div_eq_of_lt (by omega)]
    exact (this ts hp).symm
  | n + 1 => by rw [worstL, List.length_append, worst_count hp, ← row_count (h := h) (k := 0) hp]; omega
theorem row_need {h : Bool} {n : Nat} : ∀ {ts : List Tk} {k i : Nat} {t : Tk}, ts[i]? = some t → sumJ ((k + i : Nat) : Int) (rowJ h n k ts) = if (n : Int) % t.ev = 0 then needOf h t else 0
  | [], k, i, t, ht => by simp at ht
  | u :: ts, k, 0, t, ht => by
    obtain rfl : u = t := by simpa using ht
    rw [rowJ, sumJ_app]
    have e : sumJ ((k + 0 : Nat) : Int) (rowJ h n (k + 1) ts) = 0 := sumJ_none fun j hj => by
      obtain ⟨i, v, _, e, _⟩ := row_mem hj
      rw [e]; dsimp only; omega
    rw [e]
    split
    · rw [sumJ_one]; simp
    · simp [sumJ]
  | u :: ts, k, i + 1, t, ht => by
    rw [rowJ, sumJ_app]
    have e := row_need (h := h) (n := n) (ts := ts) (k := k + 1) (i := i) (t := t) (by simpa using ht)
    rw [show k + 1 + i = k + (i + 1) by omega] at e
    rw [e]
    have e0 : sumJ ((k + (i + 1) : Nat) : Int) (if (n : Int) % u.ev = 0 then [⟨(k : Int), (n : Int), needOf h u⟩] else []) = 0 := by
      split
      · rw [sumJ_one, if_neg (by dsimp only; omega)]
      · rfl
    rw [e0]; omega
/-- What worst jobs of a task need together. -/
theorem worst_need {h : Bool} {ts : List Tk} {i : Nat} {t : Tk} (ht : ts[i]? = some t) (hp : 0 < t.ev) : ∀ {n : Nat}, sumJ (i : Int) (worstL h ts n) = (ceilD n t : Int) * needOf h t
  | 0 => by
    have : ceilD 0 t = 0 := by unfold ceilD; rw [Nat.div_eq_of_lt (by omega)]
    rw [this, worstL]; simp [sumJ]
  | n + 1 => by
    have e := row_need (h := h) (n := n) (k := 0) ht
    rw [Nat.zero_add] at e
    rw [worstL, sumJ_app, worst_need ht hp, e]
    have hc : ceilD (n + 1) t = ceilD n t + if n % t.ev.toNat = 0 then 1 else 0 := ceil_step (by omega)
    have hm := mod_nat (n := n) hp
    rw [hc]
    by_cases hd : n % t.ev.toNat = 0
    · rw [if_pos (hm.2 hd), if_pos hd, Int.natCast_add, Int.add_mul]; simp
    · rw [if_neg (fun x => hd (hm.1 x)), if_neg hd]; simp
end Go.Proofs.Ytjondedkgkohfaa
