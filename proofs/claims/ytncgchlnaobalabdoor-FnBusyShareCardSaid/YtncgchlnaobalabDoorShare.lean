/- Fractions of natural numbers in lowest terms: making, adding, comparing. No program in this text. -/
import Derived.Test.YtncgchlnaobalabDoorKit
namespace Go.Proofs.YtncgchlnaobalabDoor

/-- A fraction in lowest terms. -/
def redN (n d : Nat) : Nat × Nat := (n / Nat.gcd n d, d / Nat.gcd n d)

theorem red_pos {n d : Nat} (h : 0 < d) : 0 < (redN n d).2 := by
  unfold redN
  exact Nat.div_pos (Nat.le_of_dvd h (Nat.gcd_dvd_right n d)) (Nat.gcd_pos_of_pos_right n h)
theorem red_cop {n d : Nat} (h : 0 < d) : Nat.Coprime (redN n d).1 (redN n d).2 := by
  unfold redN
  exact Nat.coprime_div_gcd_div_gcd (Nat.gcd_pos_of_pos_right n h)
/-- The same fraction. -/
theorem red_same (n d : Nat) : (redN n d).1 * d = n * (redN n d).2 := by
  unfold redN
  obtain ⟨a, ha⟩ := Nat.gcd_dvd_left n d
  obtain ⟨b, hb⟩ := Nat.gcd_dvd_right n d
  rcases Nat.eq_zero_or_pos (Nat.gcd n d) with h0 | hp
  · rw [h0]
    have : n = 0 := by rw [h0] at ha; simpa using ha
    simp [this]
  · have e1 : n / Nat.gcd n d = a := by rw [Nat.div_eq_of_eq_mul_right hp ha]
    have e2 : d / Nat.gcd n d = b := by rw [Nat.div_eq_of_eq_mul_right hp hb]
    show n / Nat.gcd n d * d = n * (d / Nat.gcd n d)
    rw [e1, e2]
    calc a * d = a * (Nat.gcd n d * b) := by rw [← hb]
      _ = (Nat.gcd n d * a) * b := by ac_rfl
      _ = n * b := by rw [← ha]
theorem frac_unique {n d n' d' : Nat} (hc : Nat.Coprime n d) (hc' : Nat.Coprime n' d') (hd : 0 < d) (hd' : 0 < d') (h : n * d' = n' * d) : n = n' ∧ d = d' := by
  have h1 : d ∣ d' := by
    have : d ∣ n * d' := by rw [h]; exact Nat.dvd_mul_left d n'
    exact hc.symm.dvd_of_dvd_mul_left this
  have h2 : d' ∣ d := by
    have : d' ∣ n' * d := by rw [← h]; exact Nat.dvd_mul_left d' n
    exact hc'.symm.dvd_of_dvd_mul_left this
  have e := Nat.dvd_antisymm h1 h2
  subst e
  exact ⟨Nat.eq_of_mul_eq_mul_right hd h, rfl⟩
theorem red_of_cop {n d : Nat} (hc : Nat.Coprime n d) : redN n d = (n, d) := by
  unfold redN
  have : Nat.gcd n d = 1 := hc
  rw [this, Nat.div_one, Nat.div_one]
/-- Equal fractions have one form. -/
theorem red_eq {n d n' d' : Nat} (hd : 0 < d) (hd' : 0 < d') (h : n * d' = n' * d) : redN n d = redN n' d' := by
  have e1 := red_same n d
  have e2 := red_same n' d'
  have p1 := red_pos (n := n) hd
  have p2 := red_pos (n := n') hd'
  have key : (redN n d).1 * (redN n' d').2 = (redN n' d').1 * (redN n d).2 := by
    have : ((redN n d).1 * (redN n' d').2) * (d * d') = ((redN n' d').1 * (redN n d).2) * (d * d') := by
      calc ((redN n d).1 * (redN n' d').2) * (d * d') = ((redN n d).1 * d) * ((redN n' d').2 * d') := by ac_rfl
        _ = (n * (redN n d).2) * ((redN n' d').2 * d') := by rw [e1]
        _ = (n * d') * ((redN n d).2 * (redN n' d').2) := by ac_rfl
        _ = (n' * d) * ((redN n d).2 * (redN n' d').2) := by rw [h]
        _ = (n' * (redN n' d').2) * ((redN n d).2 * d) := by ac_rfl
        _ = ((redN n' d').1 * d') * ((redN n d).2 * d) := by rw [e2]
        _ = ((redN n' d').1 * (redN n d).2) * (d * d') := by ac_rfl
    exact Nat.eq_of_mul_eq_mul_right (Nat.mul_pos hd hd') this
  obtain ⟨a, b⟩ := frac_unique (red_cop hd) (red_cop hd') p1 p2 key
  exact Prod.ext a b

/-- The sum of two fractions. -/
def addN (a b : Nat × Nat) : Nat × Nat := redN (a.1 * b.2 + b.1 * a.2) (a.2 * b.2)
theorem add_comm (a b : Nat × Nat) : addN a b = addN b a := by
  unfold addN
  rw [Nat.add_comm, Nat.mul_comm a.2 b.2]
/-- A sum does not turn with the form of what is added. -/
theorem add_rep {a b : Nat × Nat} {n d : Nat} (ha : 0 < a.2) (hb : 0 < b.2) (hd : 0 < d) (h : a.1 * d = n * a.2) : addN a b = redN (n * b.2 + b.1 * d) (d * b.2) := by
  refine red_eq (Nat.mul_pos ha hb) (Nat.mul_pos hd hb) ?_
  calc (a.1 * b.2 + b.1 * a.2) * (d * b.2) = (a.1 * d) * (b.2 * b.2) + b.1 * a.2 * (d * b.2) := by rw [Nat.add_mul]; ac_rfl
    _ = (n * a.2) * (b.2 * b.2) + b.1 * a.2 * (d * b.2) := by rw [h]
    _ = (n * b.2 + b.1 * d) * (a.2 * b.2) := by rw [Nat.add_mul]; ac_rfl
theorem add_assoc {a b c : Nat × Nat} (ha : 0 < a.2) (hb : 0 < b.2) (hc : 0 < c.2) : addN (addN a b) c = addN a (addN b c) := by
  have e1 : addN (addN a b) c = redN ((a.1 * b.2 + b.1 * a.2) * c.2 + c.1 * (a.2 * b.2)) (a.2 * b.2 * c.2) :=
    add_rep (red_pos (Nat.mul_pos ha hb)) hc (Nat.mul_pos ha hb) (red_same _ _)
  have e2 : addN (addN b c) a = redN ((b.1 * c.2 + c.1 * b.2) * a.2 + a.1 * (b.2 * c.2)) (b.2 * c.2 * a.2) :=
    add_rep (red_pos (Nat.mul_pos hb hc)) ha (Nat.mul_pos hb hc) (red_same _ _)
  rw [e1, add_comm a, e2]
  have h1 : (a.1 * b.2 + b.1 * a.2) * c.2 + c.1 * (a.2 * b.2) = (b.1 * c.2 + c.1 * b.2) * a.2 + a.1 * (b.2 * c.2) := by
    rw [Nat.add_mul, Nat.add_mul]; ac_rfl
  have h2 : a.2 * b.2 * c.2 = b.2 * c.2 * a.2 := by ac_rfl
  rw [h1, h2]
theorem add_zero {a : Nat × Nat} (hc : Nat.Coprime a.1 a.2) : addN a (0, 1) = a := by
  unfold addN
  simp
  exact red_of_cop hc
theorem add_pos {a b : Nat × Nat} (ha : 0 < a.2) (hb : 0 < b.2) : 0 < (addN a b).2 := red_pos (Nat.mul_pos ha hb)
theorem add_cop {a b : Nat × Nat} (ha : 0 < a.2) (hb : 0 < b.2) : Nat.Coprime (addN a b).1 (addN a b).2 := red_cop (Nat.mul_pos ha hb)

/-- The reference's road: over the least common denominator. -/
theorem add_ref {a b : Nat × Nat} (ha : 0 < a.2) (hb : 0 < b.2) :
    redN (a.1 * (b.2 / Nat.gcd a.2 b.2) + b.1 * (a.2 / Nat.gcd a.2 b.2)) (a.2 / Nat.gcd a.2 b.2 * b.2) = addN a b := by
  have hg : 0 < Nat.gcd a.2 b.2 := Nat.gcd_pos_of_pos_left _ ha
  obtain ⟨x, hx⟩ := Nat.gcd_dvd_left a.2 b.2
  obtain ⟨y, hy⟩ := Nat.gcd_dvd_right a.2 b.2
  have e1 : a.2 / Nat.gcd a.2 b.2 = x := Nat.div_eq_of_eq_mul_right hg hx
  have e2 : b.2 / Nat.gcd a.2 b.2 = y := Nat.div_eq_of_eq_mul_right hg hy
  rw [e1, e2]
  generalize Nat.gcd a.2 b.2 = g at hx hy hg
  have hxp : 0 < x := Nat.pos_of_ne_zero (fun h => by rw [h] at hx; simp at hx; omega)
  refine red_eq (Nat.mul_pos hxp hb) (Nat.mul_pos ha hb) ?_
  calc (a.1 * y + b.1 * x) * (a.2 * b.2) = a.1 * y * (a.2 * b.2) + b.1 * x * (a.2 * b.2) := Nat.add_mul _ _ _
    _ = a.1 * y * ((g * x) * b.2) + b.1 * x * (a.2 * b.2) := by rw [← hx]
    _ = a.1 * (g * y) * (x * b.2) + b.1 * a.2 * (x * b.2) := by congr 1 <;> ac_rfl
    _ = a.1 * b.2 * (x * b.2) + b.1 * a.2 * (x * b.2) := by rw [← hy]
    _ = (a.1 * b.2 + b.1 * a.2) * (x * b.2) := (Nat.add_mul _ _ _).symm

/-- Comparing. -/
def leN (a b : Nat × Nat) : Prop := a.1 * b.2 ≤ b.1 * a.2
theorem le_add {a b : Nat × Nat} (ha : 0 < a.2) (hb : 0 < b.2) : leN a (addN a b) := by
  have e := red_same (a.1 * b.2 + b.1 * a.2) (a.2 * b.2)
  have hp := add_pos ha hb
  show a.1 * (addN a b).2 ≤ (addN a b).1 * a.2
  have e' : (addN a b).1 * (a.2 * b.2) = (a.1 * b.2 + b.1 * a.2) * (addN a b).2 := e
  refine Nat.le_of_mul_le_mul_right ?_ hb
  calc a.1 * (addN a b).2 * b.2 = a.1 * b.2 * (addN a b).2 := by ac_rfl
    _ ≤ (a.1 * b.2 + b.1 * a.2) * (addN a b).2 := Nat.mul_le_mul_right _ (Nat.le_add_right _ _)
    _ = (addN a b).1 * (a.2 * b.2) := e'.symm
    _ = (addN a b).1 * a.2 * b.2 := by ac_rfl
/-- Adding the same keeps the order. -/
theorem add_le_iff {a b c : Nat × Nat} (ha : 0 < a.2) (hb : 0 < b.2) (hc : 0 < c.2) : leN (addN a c) (addN b c) ↔ leN a b := by
  have e1 : (addN a c).1 * (a.2 * c.2) = (a.1 * c.2 + c.1 * a.2) * (addN a c).2 := red_same _ _
  have e2 : (addN b c).1 * (b.2 * c.2) = (b.1 * c.2 + c.1 * b.2) * (addN b c).2 := red_same _ _
  have p1 := add_pos ha hc
  have p2 := add_pos hb hc
  unfold leN
  have hm : 0 < (a.2 * c.2) * (b.2 * c.2) := Nat.mul_pos (Nat.mul_pos ha hc) (Nat.mul_pos hb hc)
  have L : (addN a c).1 * (addN b c).2 * ((a.2 * c.2) * (b.2 * c.2)) = (a.1 * b.2 * (c.2 * c.2) + c.1 * a.2 * (b.2 * c.2)) * ((addN a c).2 * (addN b c).2) := by
    calc _ = ((addN a c).1 * (a.2 * c.2)) * ((addN b c).2 * (b.2 * c.2)) := by ac_rfl
      _ = ((a.1 * c.2 + c.1 * a.2) * (addN a c).2) * ((addN b c).2 * (b.2 * c.2)) := by rw [e1]
      _ = ((a.1 * c.2 + c.1 * a.2) * (b.2 * c.2)) * ((addN a c).2 * (addN b c).2) := by ac_rfl
      _ = _ := by rw [Nat.add_mul (a.1 * c.2)]; congr 2; ac_rfl
  have R : (addN b c).1 * (addN a c).2 * ((a.2 * c.2) * (b.2 * c.2)) = (b.1 * a.2 * (c.2 * c.2) + c.1 * a.2 * (b.2 * c.2)) * ((addN a c).2 * (addN b c).2) := by
    calc _ = ((addN b c).1 * (b.2 * c.2)) * ((addN a c).2 * (a.2 * c.2)) := by ac_rfl
      _ = ((b.1 * c.2 + c.1 * b.2) * (addN b c).2) * ((addN a c).2 * (a.2 * c.2)) := by rw [e2]
      _ = ((b.1 * c.2 + c.1 * b.2) * (a.2 * c.2)) * ((addN a c).2 * (addN b c).2) := by ac_rfl
      _ = _ := by rw [Nat.add_mul (b.1 * c.2)]; congr 1; congr 1 <;> ac_rfl
  have hq : 0 < (addN a c).2 * (addN b c).2 := Nat.mul_pos p1 p2
  have hcc : 0 < c.2 * c.2 := Nat.mul_pos hc hc
  constructor
  · intro h
    have h' := Nat.mul_le_mul_right ((a.2 * c.2) * (b.2 * c.2)) h
    rw [L, R] at h'
    have h2 := Nat.le_of_mul_le_mul_right h' hq
    have h3 : a.1 * b.2 * (c.2 * c.2) ≤ b.1 * a.2 * (c.2 * c.2) := by omega
    exact Nat.le_of_mul_le_mul_right h3 hcc
  · intro h
    refine Nat.le_of_mul_le_mul_right ?_ hm
    rw [L, R]
    refine Nat.mul_le_mul_right _ ?_
    have := Nat.mul_le_mul_right (c.2 * c.2) h
    omega

/-- Sums over lists. -/
def sumN (xs : List (Nat × Nat)) : Nat × Nat := xs.foldl addN (0, 1)
theorem foldl_add : ∀ (xs : List (Nat × Nat)) (a : Nat × Nat), 0 < a.2 → Nat.Coprime a.1 a.2 → (∀ x ∈ xs, 0 < x.2) → xs.foldl addN a = addN a (sumN xs) ∧ 0 < (sumN xs).2 ∧ Nat.Coprime (sumN xs).1 (sumN xs).2
  | [], a, ha, hc, _ => ⟨(add_zero hc).symm, by decide, by decide⟩
  | x :: xs, a, ha, hc, h => by
    have hx := h x (by simp)
    have hr : ∀ y ∈ xs, 0 < y.2 := fun y hy => h y (List.mem_cons_of_mem _ hy)
    obtain ⟨i1, p, c⟩ := foldl_add xs (addN a x) (add_pos ha hx) (add_cop ha hx) hr
    obtain ⟨i2, _, _⟩ := foldl_add xs (addN (0, 1) x) (add_pos (by decide) hx) (add_cop (by decide) hx) hr
    have e : sumN (x :: xs) = addN (addN (0, 1) x) (sumN xs) := i2
    refine ⟨?_, ?_, ?_⟩
    · rw [List.foldl_cons, i1, e, add_assoc ha hx p]
      have : addN (addN (0, 1) x) (sumN xs) = addN x (sumN xs) := by
        have h0 : addN (0, 1) x = redN x.1 x.2 := by unfold addN; simp
        rw [h0]
        exact add_rep (red_pos hx) p hx (red_same _ _)
      rw [this]
    · rw [e]; exact add_pos (add_pos (by decide) hx) p
    · rw [e]; exact add_cop (add_pos (by decide) hx) p
theorem sum_app {xs ys : List (Nat × Nat)} (hx : ∀ x ∈ xs, 0 < x.2) (hy : ∀ y ∈ ys, 0 < y.2) : sumN (xs ++ ys) = addN (sumN xs) (sumN ys) := by
  obtain ⟨_, p, c⟩ := foldl_add xs (0, 1) (by decide) (by decide) hx
  unfold sumN
  rw [List.foldl_append]
  exact (foldl_add ys (xs.foldl addN (0, 1)) p c hy).1
theorem sum_perm {xs ys : List (Nat × Nat)} (h : xs.Perm ys) (hx : ∀ x ∈ xs, 0 < x.2) : sumN xs = sumN ys := by
  have gen : ∀ {xs ys : List (Nat × Nat)}, xs.Perm ys → (∀ x ∈ xs, 0 < x.2) → ∀ a : Nat × Nat, 0 < a.2 → Nat.Coprime a.1 a.2 → xs.foldl addN a = ys.foldl addN a := by
    intro xs ys h
    induction h with
    | nil => intro _ a _ _; rfl
    | cons x _ ih => intro hx a ha hc; exact ih (fun y hy => hx y (List.mem_cons_of_mem _ hy)) _ (add_pos ha (hx x (by simp))) (add_cop ha (hx x (by simp)))
    | swap x y l =>
      intro hx a ha hc
      have px := hx x (by simp)
      have py := hx y (by simp)
      show l.foldl addN (addN (addN a y) x) = l.foldl addN (addN (addN a x) y)
      rw [add_assoc ha py px, add_assoc ha px py, add_comm y x]
    | trans h1 h2 i1 i2 =>
      intro hx a ha hc
      rw [i1 hx a ha hc, i2 (fun y hy => hx y (h1.mem_iff.2 hy)) a ha hc]
  exact gen h hx (0, 1) (by decide) (by decide)

end Go.Proofs.YtncgchlnaobalabDoor
