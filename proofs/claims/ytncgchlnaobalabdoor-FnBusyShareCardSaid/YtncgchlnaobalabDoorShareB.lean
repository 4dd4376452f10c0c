/- Fractions: comparing them, sums of lists of them, bounds. No program in this text. -/
import Derived.Test.YtncgchlnaobalabDoorShare
namespace Go.Proofs.YtncgchlnaobalabDoor

theorem red_le_num (n d : Nat) : (redN n d).1 ≤ n := Nat.div_le_self _ _
theorem red_le_den (n d : Nat) : (redN n d).2 ≤ d := Nat.div_le_self _ _

/-- Comparing: -1, 0, 1. -/
def cmpN (a b : Nat × Nat) : Int := if a.1 * b.2 < b.1 * a.2 then -1 else if b.1 * a.2 < a.1 * b.2 then 1 else 0
theorem cmp_flip (a b : Nat × Nat) : cmpN a b = - cmpN b a := by
  unfold cmpN
  split <;> split <;> first | rfl | (split <;> first | rfl | omega) | omega
theorem cmp_self (a : Nat × Nat) : cmpN a a = 0 := by
  unfold cmpN
  simp
theorem cmp_le (a b : Nat × Nat) : cmpN a b ≤ 0 ↔ leN a b := by
  unfold cmpN leN
  split
  · constructor <;> intro _ <;> omega
  · split
    · constructor <;> intro _ <;> omega
    · constructor <;> intro _ <;> omega
theorem cmp_range (a b : Nat × Nat) : -1 ≤ cmpN a b ∧ cmpN a b ≤ 1 := by
  unfold cmpN
  split
  · omega
  · split <;> omega
theorem cmp_zero {a b : Nat × Nat} (ha : 0 < a.2) (hb : 0 < b.2) (ca : Nat.Coprime a.1 a.2) (cb : Nat.Coprime b.1 b.2) : cmpN a b = 0 ↔ a = b := by
  constructor
  · intro h
    have e : a.1 * b.2 = b.1 * a.2 := by
      unfold cmpN at h
      split at h
      · omega
      · split at h
        · omega
        · omega
    obtain ⟨x, y⟩ := frac_unique ca cb ha hb e
    exact Prod.ext x y
  · rintro rfl
    exact cmp_self a
theorem cmp_of_iff {a b c d : Nat × Nat} (h1 : leN a b ↔ leN c d) (h2 : leN b a ↔ leN d c) : cmpN a b = cmpN c d := by
  have l1 := cmp_le a b
  have l2 := cmp_le c d
  have g1 := cmp_le b a
  have g2 := cmp_le d c
  rw [cmp_flip b a] at g1
  rw [cmp_flip d c] at g2
  have r1 := cmp_range a b
  have r2 := cmp_range c d
  by_cases p : leN a b <;> by_cases q : leN b a
  · have := l1.2 p; have := l2.2 (h1.1 p); have := g1.2 q; have := g2.2 (h2.1 q); omega
  · have := l1.2 p; have := l2.2 (h1.1 p)
    have : ¬ (-cmpN a b ≤ 0) := fun x => q (g1.1 x)
    have : ¬ (-cmpN c d ≤ 0) := fun x => q (h2.2 (g2.1 x))
    omega
  · have := g1.2 q; have := g2.2 (h2.1 q)
    have : ¬ (cmpN a b ≤ 0) := fun x => p (l1.1 x)
    have : ¬ (cmpN c d ≤ 0) := fun x => p (h1.2 (l2.1 x))
    omega
  · have : ¬ (cmpN a b ≤ 0) := fun x => p (l1.1 x)
    have : ¬ (-cmpN a b ≤ 0) := fun x => q (g1.1 x)
    omega
theorem cmp_add {a b c : Nat × Nat} (ha : 0 < a.2) (hb : 0 < b.2) (hc : 0 < c.2) : cmpN (addN a c) (addN b c) = cmpN a b :=
  cmp_of_iff (add_le_iff ha hb hc) (add_le_iff hb ha hc)

theorem le_trans' {a b c : Nat × Nat} (hb : 0 < b.2) (h1 : leN a b) (h2 : leN b c) : leN a c := by
  unfold leN at *
  refine Nat.le_of_mul_le_mul_right ?_ hb
  calc a.1 * c.2 * b.2 = (a.1 * b.2) * c.2 := by ac_rfl
    _ ≤ (b.1 * a.2) * c.2 := Nat.mul_le_mul_right _ h1
    _ = (b.1 * c.2) * a.2 := by ac_rfl
    _ ≤ (c.1 * b.2) * a.2 := Nat.mul_le_mul_right _ h2
    _ = c.1 * a.2 * b.2 := by ac_rfl
theorem le_refl' (a : Nat × Nat) : leN a a := Nat.le_refl _
theorem add_mono {a b c d : Nat × Nat} (ha : 0 < a.2) (hb : 0 < b.2) (hc : 0 < c.2) (hd : 0 < d.2) (h1 : leN a b) (h2 : leN c d) : leN (addN a c) (addN b d) := by
  refine le_trans' (add_pos hb hc) ((add_le_iff ha hb hc).2 h1) ?_
  rw [add_comm b c, add_comm b d]
  exact (add_le_iff hc hd hb).2 h2

theorem sum_pos {xs : List (Nat × Nat)} (h : ∀ x ∈ xs, 0 < x.2) : 0 < (sumN xs).2 := (foldl_add xs (0, 1) (by decide) (by decide) h).2.1
theorem sum_cop {xs : List (Nat × Nat)} (h : ∀ x ∈ xs, 0 < x.2) : Nat.Coprime (sumN xs).1 (sumN xs).2 := (foldl_add xs (0, 1) (by decide) (by decide) h).2.2
theorem sum_cons {x : Nat × Nat} {xs : List (Nat × Nat)} (h : ∀ y ∈ x :: xs, 0 < y.2) : sumN (x :: xs) = addN x (sumN xs) := by
  have hx := h x (by simp)
  have hr : ∀ y ∈ xs, 0 < y.2 := fun y hy => h y (List.mem_cons_of_mem _ hy)
  have e : sumN (x :: xs) = addN (addN (0, 1) x) (sumN xs) := (foldl_add xs (addN (0, 1) x) (add_pos (by decide) hx) (add_cop (by decide) hx) hr).1
  rw [e]
  have h0 : addN (0, 1) x = redN x.1 x.2 := by unfold addN; simp
  rw [h0]
  exact add_rep (red_pos hx) (sum_pos hr) hx (red_same _ _)
theorem map_pos {α : Type} {f : α → Nat × Nat} {l : List α} (h : ∀ t ∈ l, 0 < (f t).2) : ∀ x ∈ l.map f, 0 < x.2 := by
  intro x hx
  obtain ⟨u, hu, rfl⟩ := List.mem_map.1 hx
  exact h u hu
/-- The form of the parts does not matter. -/
theorem sum_rep {α : Type} (f g : α → Nat × Nat) : ∀ (l : List α), (∀ t ∈ l, 0 < (f t).2 ∧ 0 < (g t).2 ∧ (f t).1 * (g t).2 = (g t).1 * (f t).2) → sumN (l.map f) = sumN (l.map g)
  | [], _ => rfl
  | t :: l, h => by
    have ht := h t (by simp)
    have pf := map_pos (f := f) (l := t :: l) fun u hu => (h u hu).1
    have pg := map_pos (f := g) (l := t :: l) fun u hu => (h u hu).2.1
    have sg : 0 < (sumN (l.map g)).2 := sum_pos (map_pos fun u hu => (h u (List.mem_cons_of_mem _ hu)).2.1)
    rw [List.map_cons] at pf pg
    rw [List.map_cons, List.map_cons, sum_cons pf, sum_cons pg, sum_rep f g l fun u hu => h u (List.mem_cons_of_mem _ hu)]
    exact add_rep ht.1 sg ht.2.1 ht.2.2

/-- Sums grow with their parts. -/
theorem sum_mono {α : Type} (f g : α → Nat × Nat) : ∀ (l : List α), (∀ t ∈ l, 0 < (f t).2 ∧ 0 < (g t).2 ∧ leN (f t) (g t)) → leN (sumN (l.map f)) (sumN (l.map g))
  | [], _ => le_refl' _
  | t :: l, h => by
    have ht := h t (by simp)
    have pf := map_pos (f := f) (l := t :: l) fun u hu => (h u hu).1
    have pg := map_pos (f := g) (l := t :: l) fun u hu => (h u hu).2.1
    have sf : 0 < (sumN (l.map f)).2 := sum_pos (map_pos fun u hu => (h u (List.mem_cons_of_mem _ hu)).1)
    have sg : 0 < (sumN (l.map g)).2 := sum_pos (map_pos fun u hu => (h u (List.mem_cons_of_mem _ hu)).2.1)
    rw [List.map_cons] at pf pg
    rw [List.map_cons, List.map_cons, sum_cons pf, sum_cons pg]
    exact add_mono ht.1 ht.2.1 sf sg ht.2.2 (sum_mono f g l fun u hu => h u (List.mem_cons_of_mem _ hu))

/-- A sum is nothing exactly if all parts are nothing. -/
theorem red_zero {n d : Nat} (h : 0 < d) : (redN n d).1 = 0 ↔ n = 0 := by
  have e := red_same n d
  have p := red_pos (n := n) h
  constructor
  · intro h0
    rw [h0, Nat.zero_mul] at e
    rcases Nat.mul_eq_zero.1 e.symm with h1 | h1
    · exact h1
    · omega
  · rintro rfl
    simp [redN]
theorem sum_zero : ∀ {xs : List (Nat × Nat)}, (∀ x ∈ xs, 0 < x.1 ∧ 0 < x.2) → ((sumN xs).1 = 0 ↔ xs = [])
  | [], _ => by simp [sumN]
  | x :: xs, h => by
    have hx := h x (by simp)
    have hr : ∀ y ∈ xs, 0 < y.2 := fun y hy => (h y (List.mem_cons_of_mem _ hy)).2
    rw [sum_cons (fun y hy => (h y hy).2)]
    unfold addN
    rw [red_zero (Nat.mul_pos hx.2 (sum_pos hr))]
    have : 0 < x.1 * (sumN xs).2 := Nat.mul_pos hx.1 (sum_pos hr)
    simp
    omega

/-- Over a common multiple of all: what all need until they begin together again. -/
theorem sum_common : ∀ {xs : List (Nat × Nat)} {n : Nat}, 0 < n → (∀ x ∈ xs, 0 < x.2 ∧ x.2 ∣ n) → sumN xs = redN (xs.map fun x => n / x.2 * x.1).sum n
  | [], n, hn, _ => by
    have : redN 0 n = (0, 1) := by
      unfold redN
      simp [Nat.div_self hn]
    simpa [sumN] using this.symm
  | x :: xs, n, hn, h => by
    have hx := h x (by simp)
    have hr : ∀ y ∈ xs, 0 < y.2 ∧ y.2 ∣ n := fun y hy => h y (List.mem_cons_of_mem _ hy)
    rw [sum_cons (fun y hy => (h y hy).1), sum_common hn hr, List.map_cons, List.sum_cons, add_comm, add_rep (red_pos hn) hx.1 hn (red_same _ _)]
    refine red_eq (Nat.mul_pos hn hx.1) hn ?_
    obtain ⟨k, hk⟩ := hx.2
    have : n / x.2 = k := Nat.div_eq_of_eq_mul_right hx.1 hk
    rw [this]
    generalize (List.map (fun x => n / x.2 * x.1) xs).sum = s
    rw [Nat.add_mul, Nat.add_mul]
    have e1 : s * x.2 * n = s * (n * x.2) := by ac_rfl
    have e2 : x.1 * n * n = k * x.1 * (n * x.2) := by
      calc x.1 * n * n = x.1 * n * (x.2 * k) := by rw [← hk]
        _ = k * x.1 * (n * x.2) := by ac_rfl
    rw [e1, e2, Nat.add_comm]

/-- Bounds: parts no greater than one, with small numbers. -/
theorem sum_bound : ∀ {xs : List (Nat × Nat)} {m : Nat}, (∀ x ∈ xs, 0 < x.2 ∧ x.2 ≤ m ∧ x.1 ≤ x.2) → (sumN xs).2 ≤ m ^ xs.length ∧ (sumN xs).1 ≤ xs.length * (sumN xs).2
  | [], m, _ => by simp [sumN]
  | x :: xs, m, h => by
    have hx := h x (by simp)
    have hr : ∀ y ∈ xs, 0 < y.2 ∧ y.2 ≤ m ∧ y.1 ≤ y.2 := fun y hy => h y (List.mem_cons_of_mem _ hy)
    obtain ⟨b1, b2⟩ := sum_bound hr
    have sp : 0 < (sumN xs).2 := sum_pos (fun y hy => (hr y hy).1)
    rw [sum_cons (fun y hy => (h y hy).1)]
    refine ⟨?_, ?_⟩
    · refine Nat.le_trans (red_le_den _ _) ?_
      rw [List.length_cons, Nat.pow_succ, Nat.mul_comm]
      exact Nat.mul_le_mul b1 hx.2.1
    · have e : (addN x (sumN xs)).1 * (x.2 * (sumN xs).2) = (x.1 * (sumN xs).2 + (sumN xs).1 * x.2) * (addN x (sumN xs)).2 := red_same _ _
      refine Nat.le_of_mul_le_mul_right ?_ (Nat.mul_pos hx.1 sp)
      rw [e, List.length_cons]
      have k1 : x.1 * (sumN xs).2 ≤ x.2 * (sumN xs).2 := Nat.mul_le_mul_right _ hx.2.2
      have k2 : (sumN xs).1 * x.2 ≤ xs.length * (sumN xs).2 * x.2 := Nat.mul_le_mul_right _ b2
      calc (x.1 * (sumN xs).2 + (sumN xs).1 * x.2) * (addN x (sumN xs)).2 ≤ (x.2 * (sumN xs).2 + xs.length * (sumN xs).2 * x.2) * (addN x (sumN xs)).2 := Nat.mul_le_mul_right _ (Nat.add_le_add k1 k2)
        _ = (xs.length + 1) * (addN x (sumN xs)).2 * (x.2 * (sumN xs).2) := by
          have : x.2 * (sumN xs).2 + xs.length * (sumN xs).2 * x.2 = (xs.length + 1) * (x.2 * (sumN xs).2) := by
            rw [Nat.add_mul, Nat.one_mul, Nat.add_comm]; congr 1; ac_rfl
          rw [this]; ac_rfl

end Go.Proofs.YtncgchlnaobalabDoor
