/- Texts of this seat in one file: Share, ShareB, ShareC, ShareT, VirA, VirM, VirF, VirL, Gcd, Err, Mk, Add, L2, SAdd, Low, SLow, SImp, SHigh, Two, SPlain, Two3. -/
import Derived.Test.YtgfnlfjaekkdfaaDoorNA
import Derived.LoopTactic
import Derived.Deep.QuietTactic
import Derived.BigQuiet
import Derived.LaidEql
import Derived.Stop.Asserts
import Derived.RowKitTokens
import Derived.RegionTactic
import Derived.ChangeAlike
import Derived.Deep.RegionWith
import Derived.Deep.RegionHeld3
namespace Go.Proofs.YtgfnlfjaekkdfaaDoor

section
/- Fractions of natural numbers in lowest terms: making, adding, comparing. No program in this text. -/
/-- A fraction in lowest terms. -/
def redN (n d : Nat) : Nat × Nat := (n / Nat.gcd n d, d / Nat.gcd n d)

theorem red_pos {n d : Nat} (h : 0 < d) : 0 < (redN n d).2 := by
  unfold redN
  exact Nat.div_pos (Nat.le_of_dvd h (Nat.gcd_dvd_right n d)) (Nat.gcd_pos_of_pos_right n h)
theorem red_cop {n d : Nat} (h : 0 < d) : Nat.Coprime (redN n d).1 (redN n d).2 := by
  unfold redN
  exact Nat.coprime_div_gcd_div_gcd (Nat.gcd_pos_of_pos_right n h)
/-- The same fraction. -/
theorem red_same (n d : Nat) : (redN n d).1 * d = n * (redN n d).2 := by
  unfold redN
  obtain ⟨a, ha⟩ := Nat.gcd_dvd_left n d
  obtain ⟨b, hb⟩ := Nat.gcd_dvd_right n d
  rcases Nat.eq_zero_or_pos (Nat.gcd n d) with h0 | hp
  · rw [h0]
    have : n = 0 := by rw [h0] at ha; simpa using ha
    simp [this]
  · have e1 : n / Nat.gcd n d = a := by rw [Nat.div_eq_of_eq_mul_right hp ha]
    have e2 : d / Nat.gcd n d = b := by rw [Nat.div_eq_of_eq_mul_right hp hb]
    show n / Nat.gcd n d * d = n * (d / Nat.gcd n d)
    rw [e1, e2]
    calc a * d = a * (Nat.gcd n d * b) := by rw [← hb]
      _ = (Nat.gcd n d * a) * b := by ac_rfl
      _ = n * b := by rw [← ha]
theorem frac_unique {n d n' d' : Nat} (hc : Nat.Coprime n d) (hc' : Nat.Coprime n' d') (hd : 0 < d) (hd' : 0 < d') (h : n * d' = n' * d) : n = n' ∧ d = d' := by
  have h1 : d ∣ d' := by
    have : d ∣ n * d' := by rw [h]; exact Nat.dvd_mul_left d n'
    exact hc.symm.dvd_of_dvd_mul_left this
  have h2 : d' ∣ d := by
    have : d' ∣ n' * d := by rw [← h]; exact Nat.dvd_mul_left d' n
    exact hc'.symm.dvd_of_dvd_mul_left this
  have e := Nat.dvd_antisymm h1 h2
  subst e
  exact ⟨Nat.eq_of_mul_eq_mul_right hd h, rfl⟩
theorem red_of_cop {n d : Nat} (hc : Nat.Coprime n d) : redN n d = (n, d) := by
  unfold redN
  have : Nat.gcd n d = 1 := hc
  rw [this, Nat.div_one, Nat.div_one]
/-- Equal fractions have one form. -/
theorem red_eq {n d n' d' : Nat} (hd : 0 < d) (hd' : 0 < d') (h : n * d' = n' * d) : redN n d = redN n' d' := by
  have e1 := red_same n d
  have e2 := red_same n' d'
  have p1 := red_pos (n := n) hd
  have p2 := red_pos (n := n') hd'
  have key : (redN n d).1 * (redN n' d').2 = (redN n' d').1 * (redN n d).2 := by
    have : ((redN n d).1 * (redN n' d').2) * (d * d') = ((redN n' d').1 * (redN n d).2) * (d * d') := by
      calc ((redN n d).1 * (redN n' d').2) * (d * d') = ((redN n d).1 * d) * ((redN n' d').2 * d') := by ac_rfl
        _ = (n * (redN n d).2) * ((redN n' d').2 * d') := by rw [e1]
        _ = (n * d') * ((redN n d).2 * (redN n' d').2) := by ac_rfl
        _ = (n' * d) * ((redN n d).2 * (redN n' d').2) := by rw [h]
        _ = (n' * (redN n' d').2) * ((redN n d).2 * d) := by ac_rfl
        _ = ((redN n' d').1 * d') * ((redN n d).2 * d) := by rw [e2]
        _ = ((redN n' d').1 * (redN n d).2) * (d * d') := by ac_rfl
    exact Nat.eq_of_mul_eq_mul_right (Nat.mul_pos hd hd') this
  obtain ⟨a, b⟩ := frac_unique (red_cop hd) (red_cop hd') p1 p2 key
  exact Prod.ext a b

/-- The sum of two fractions. -/
def addN (a b : Nat × Nat) : Nat × Nat := redN (a.1 * b.2 + b.1 * a.2) (a.2 * b.2)
theorem add_comm (a b : Nat × Nat) : addN a b = addN b a := by
  unfold addN
  rw [Nat.add_comm, Nat.mul_comm a.2 b.2]
/-- A sum does not turn with the form of what is added. -/
theorem add_rep {a b : Nat × Nat} {n d : Nat} (ha : 0 < a.2) (hb : 0 < b.2) (hd : 0 < d) (h : a.1 * d = n * a.2) : addN a b = redN (n * b.2 + b.1 * d) (d * b.2) := by
  refine red_eq (Nat.mul_pos ha hb) (Nat.mul_pos hd hb) ?_
  calc (a.1 * b.2 + b.1 * a.2) * (d * b.2) = (a.1 * d) * (b.2 * b.2) + b.1 * a.2 * (d * b.2) := by rw [Nat.add_mul]; ac_rfl
    _ = (n * a.2) * (b.2 * b.2) + b.1 * a.2 * (d * b.2) := by rw [h]
    _ = (n * b.2 + b.1 * d) * (a.2 * b.2) := by rw [Nat.add_mul]; ac_rfl
theorem add_assoc {a b c : Nat × Nat} (ha : 0 < a.2) (hb : 0 < b.2) (hc : 0 < c.2) : addN (addN a b) c = addN a (addN b c) := by
  have e1 : addN (addN a b) c = redN ((a.1 * b.2 + b.1 * a.2) * c.2 + c.1 * (a.2 * b.2)) (a.2 * b.2 * c.2) :=
    add_rep (red_pos (Nat.mul_pos ha hb)) hc (Nat.mul_pos ha hb) (red_same _ _)
  have e2 : addN (addN b c) a = redN ((b.1 * c.2 + c.1 * b.2) * a.2 + a.1 * (b.2 * c.2)) (b.2 * c.2 * a.2) :=
    add_rep (red_pos (Nat.mul_pos hb hc)) ha (Nat.mul_pos hb hc) (red_same _ _)
  rw [e1, add_comm a, e2]
  have h1 : (a.1 * b.2 + b.1 * a.2) * c.2 + c.1 * (a.2 * b.2) = (b.1 * c.2 + c.1 * b.2) * a.2 + a.1 * (b.2 * c.2) := by
    rw [Nat.add_mul, Nat.add_mul]; ac_rfl
  have h2 : a.2 * b.2 * c.2 = b.2 * c.2 * a.2 := by ac_rfl
  rw [h1, h2]
theorem add_zero {a : Nat × Nat} (hc : Nat.Coprime a.1 a.2) : addN a (0, 1) = a := by
  unfold addN
  simp
  exact red_of_cop hc
theorem add_pos {a b : Nat × Nat} (ha : 0 < a.2) (hb : 0 < b.2) : 0 < (addN a b).2 := red_pos (Nat.mul_pos ha hb)
theorem add_cop {a b : Nat × Nat} (ha : 0 < a.2) (hb : 0 < b.2) : Nat.Coprime (addN a b).1 (addN a b).2 := red_cop (Nat.mul_pos ha hb)

/-- The reference's road: over the least common denominator. -/
theorem add_ref {a b : Nat × Nat} (ha : 0 < a.2) (hb : 0 < b.2) :
    redN (a.1 * (b.2 / Nat.gcd a.2 b.2) + b.1 * (a.2 / Nat.gcd a.2 b.2)) (a.2 / Nat.gcd a.2 b.2 * b.2) = addN a b := by
  have hg : 0 < Nat.gcd a.2 b.2 := Nat.gcd_pos_of_pos_left _ ha
  obtain ⟨x, hx⟩ := Nat.gcd_dvd_left a.2 b.2
  obtain ⟨y, hy⟩ := Nat.gcd_dvd_right a.2 b.2
  have e1 : a.2 / Nat.gcd a.2 b.2 = x := Nat.div_eq_of_eq_mul_right hg hx
  have e2 : b.2 / Nat.gcd a.2 b.2 = y := Nat.div_eq_of_eq_mul_right hg hy
  rw [e1, e2]
  generalize Nat.gcd a.2 b.2 = g at hx hy hg
  have hxp : 0 < x := Nat.pos_of_ne_zero (fun h => by rw [h] at hx; simp at hx; omega)
  refine red_eq (Nat.mul_pos hxp hb) (Nat.mul_pos ha hb) ?_
  calc (a.1 * y + b.1 * x) * (a.2 * b.2) = a.1 * y * (a.2 * b.2) + b.1 * x * (a.2 * b.2) := Nat.add_mul _ _ _
    _ = a.1 * y * ((g * x) * b.2) + b.1 * x * (a.2 * b.2) := by rw [← hx]
    _ = a.1 * (g * y) * (x * b.2) + b.1 * a.2 * (x * b.2) := by congr 1 <;> ac_rfl
    _ = a.1 * b.2 * (x * b.2) + b.1 * a.2 * (x * b.2) := by rw [← hy]
    _ = (a.1 * b.2 + b.1 * a.2) * (x * b.2) := (Nat.add_mul _ _ _).symm

/-- Comparing. -/
def leN (a b : Nat × Nat) : Prop := a.1 * b.2 ≤ b.1 * a.2
theorem le_add {a b : Nat × Nat} (ha : 0 < a.2) (hb : 0 < b.2) : leN a (addN a b) := by
  have e := red_same (a.1 * b.2 + b.1 * a.2) (a.2 * b.2)
  have hp := add_pos ha hb
  show a.1 * (addN a b).2 ≤ (addN a b).1 * a.2
  have e' : (addN a b).1 * (a.2 * b.2) = (a.1 * b.2 + b.1 * a.2) * (addN a b).2 := e
  refine Nat.le_of_mul_le_mul_right ?_ hb
  calc a.1 * (addN a b).2 * b.2 = a.1 * b.2 * (addN a b).2 := by ac_rfl
    _ ≤ (a.1 * b.2 + b.1 * a.2) * (addN a b).2 := Nat.mul_le_mul_right _ (Nat.le_add_right _ _)
    _ = (addN a b).1 * (a.2 * b.2) := e'.symm
    _ = (addN a b).1 * a.2 * b.2 := by ac_rfl
/-- Adding the same keeps the order. -/
theorem add_le_iff {a b c : Nat × Nat} (ha : 0 < a.2) (hb : 0 < b.2) (hc : 0 < c.2) : leN (addN a c) (addN b c) ↔ leN a b := by
  have e1 : (addN a c).1 * (a.2 * c.2) = (a.1 * c.2 + c.1 * a.2) * (addN a c).2 := red_same _ _
  have e2 : (addN b c).1 * (b.2 * c.2) = (b.1 * c.2 + c.1 * b.2) * (addN b c).2 := red_same _ _
  have p1 := add_pos ha hc
  have p2 := add_pos hb hc
  unfold leN
  have hm : 0 < (a.2 * c.2) * (b.2 * c.2) := Nat.mul_pos (Nat.mul_pos ha hc) (Nat.mul_pos hb hc)
  have L : (addN a c).1 * (addN b c).2 * ((a.2 * c.2) * (b.2 * c.2)) = (a.1 * b.2 * (c.2 * c.2) + c.1 * a.2 * (b.2 * c.2)) * ((addN a c).2 * (addN b c).2) := by
    calc _ = ((addN a c).1 * (a.2 * c.2)) * ((addN b c).2 * (b.2 * c.2)) := by ac_rfl
      _ = ((a.1 * c.2 + c.1 * a.2) * (addN a c).2) * ((addN b c).2 * (b.2 * c.2)) := by rw [e1]
      _ = ((a.1 * c.2 + c.1 * a.2) * (b.2 * c.2)) * ((addN a c).2 * (addN b c).2) := by ac_rfl
      _ = _ := by rw [Nat.add_mul (a.1 * c.2)]; congr 2; ac_rfl
  have R : (addN b c).1 * (addN a c).2 * ((a.2 * c.2) * (b.2 * c.2)) = (b.1 * a.2 * (c.2 * c.2) + c.1 * a.2 * (b.2 * c.2)) * ((addN a c).2 * (addN b c).2) := by
    calc _ = ((addN b c).1 * (b.2 * c.2)) * ((addN a c).2 * (a.2 * c.2)) := by ac_rfl
      _ = ((b.1 * c.2 + c.1 * b.2) * (addN b c).2) * ((addN a c).2 * (a.2 * c.2)) := by rw [e2]
      _ = ((b.1 * c.2 + c.1 * b.2) * (a.2 * c.2)) * ((addN a c).2 * (addN b c).2) := by ac_rfl
      _ = _ := by rw [Nat.add_mul (b.1 * c.2)]; congr 1; congr 1 <;> ac_rfl
  have hq : 0 < (addN a c).2 * (addN b c).2 := Nat.mul_pos p1 p2
  have hcc : 0 < c.2 * c.2 := Nat.mul_pos hc hc
  constructor
  · intro h
    have h' := Nat.mul_le_mul_right ((a.2 * c.2) * (b.2 * c.2)) h
    rw [L, R] at h'
    have h2 := Nat.le_of_mul_le_mul_right h' hq
    have h3 : a.1 * b.2 * (c.2 * c.2) ≤ b.1 * a.2 * (c.2 * c.2) := by omega
    exact Nat.le_of_mul_le_mul_right h3 hcc
  · intro h
    refine Nat.le_of_mul_le_mul_right ?_ hm
    rw [L, R]
    refine Nat.mul_le_mul_right _ ?_
    have := Nat.mul_le_mul_right (c.2 * c.2) h
    omega

/-- Sums over lists. -/
def sumN (xs : List (Nat × Nat)) : Nat × Nat := xs.foldl addN (0, 1)
theorem foldl_add : ∀ (xs : List (Nat × Nat)) (a : Nat × Nat), 0 < a.2 → Nat.Coprime a.1 a.2 → (∀ x ∈ xs, 0 < x.2) → xs.foldl addN a = addN a (sumN xs) ∧ 0 < (sumN xs).2 ∧ Nat.Coprime (sumN xs).1 (sumN xs).2
  | [], a, ha, hc, _ => ⟨(add_zero hc).symm, by decide, by decide⟩
  | x :: xs, a, ha, hc, h => by
    have hx := h x (by simp)
    have hr : ∀ y ∈ xs, 0 < y.2 := fun y hy => h y (List.mem_cons_of_mem _ hy)
    obtain ⟨i1, p, c⟩ := foldl_add xs (addN a x) (add_pos ha hx) (add_cop ha hx) hr
    obtain ⟨i2, _, _⟩ := foldl_add xs (addN (0, 1) x) (add_pos (by decide) hx) (add_cop (by decide) hx) hr
    have e : sumN (x :: xs) = addN (addN (0, 1) x) (sumN xs) := i2
    refine ⟨?_, ?_, ?_⟩
    · rw [List.foldl_cons, i1, e, add_assoc ha hx p]
      have : addN (addN (0, 1) x) (sumN xs) = addN x (sumN xs) := by
        have h0 : addN (0, 1) x = redN x.1 x.2 := by unfold addN; simp
        rw [h0]
        exact add_rep (red_pos hx) p hx (red_same _ _)
      rw [this]
    · rw [e]; exact add_pos (add_pos (by decide) hx) p
    · rw [e]; exact add_cop (add_pos (by decide) hx) p
theorem sum_app {xs ys : List (Nat × Nat)} (hx : ∀ x ∈ xs, 0 < x.2) (hy : ∀ y ∈ ys, 0 < y.2) : sumN (xs ++ ys) = addN (sumN xs) (sumN ys) := by
  obtain ⟨_, p, c⟩ := foldl_add xs (0, 1) (by decide) (by decide) hx
  unfold sumN
  rw [List.foldl_append]
  exact (foldl_add ys (xs.foldl addN (0, 1)) p c hy).1
theorem sum_perm {xs ys : List (Nat × Nat)} (h : xs.Perm ys) (hx : ∀ x ∈ xs, 0 < x.2) : sumN xs = sumN ys := by
  have gen : ∀ {xs ys : List (Nat × Nat)}, xs.Perm ys → (∀ x ∈ xs, 0 < x.2) → ∀ a : Nat × Nat, 0 < a.2 → Nat.Coprime a.1 a.2 → xs.foldl addN a = ys.foldl addN a := by
    intro xs ys h
    induction h with
    | nil => intro _ a _ _; rfl
    | cons x _ ih => intro hx a ha hc; exact ih (fun y hy => hx y (List.mem_cons_of_mem _ hy)) _ (add_pos ha (hx x (by simp))) (add_cop ha (hx x (by simp)))
    | swap x y l =>
      intro hx a ha hc
      have px := hx x (by simp)
      have py := hx y (by simp)
      show l.foldl addN (addN (addN a y) x) = l.foldl addN (addN (addN a x) y)
      rw [add_assoc ha py px, add_assoc ha px py, add_comm y x]
    | trans h1 h2 i1 i2 =>
      intro hx a ha hc
      rw [i1 hx a ha hc, i2 (fun y hy => hx y (h1.mem_iff.2 hy)) a ha hc]
  exact gen h hx (0, 1) (by decide) (by decide)
end

section
/- Fractions: comparing them, sums of lists of them, bounds. No program in this text. -/
theorem red_le_num (n d : Nat) : (redN n d).1 ≤ n := Nat.div_le_self _ _
theorem red_le_den (n d : Nat) : (redN n d).2 ≤ d := Nat.div_le_self _ _

/-- Comparing: -1, 0, 1. -/
def cmpN (a b : Nat × Nat) : Int := if a.1 * b.2 < b.1 * a.2 then -1 else if b.1 * a.2 < a.1 * b.2 then 1 else 0
theorem cmp_flip (a b : Nat × Nat) : cmpN a b = - cmpN b a := by
  unfold cmpN
  split <;> split <;> first | rfl | (split <;> first | rfl | omega) | omega
theorem cmp_self (a : Nat × Nat) : cmpN a a = 0 := by
  unfold cmpN
  simp
theorem cmp_le (a b : Nat × Nat) : cmpN a b ≤ 0 ↔ leN a b := by
  unfold cmpN leN
  split
  · constructor <;> intro _ <;> omega
  · split
    · constructor <;> intro _ <;> omega
    · constructor <;> intro _ <;> omega
theorem cmp_range (a b : Nat × Nat) : -1 ≤ cmpN a b ∧ cmpN a b ≤ 1 := by
  unfold cmpN
  split
  · omega
  · split <;> omega
theorem cmp_zero {a b : Nat × Nat} (ha : 0 < a.2) (hb : 0 < b.2) (ca : Nat.Coprime a.1 a.2) (cb : Nat.Coprime b.1 b.2) : cmpN a b = 0 ↔ a = b := by
  constructor
  · intro h
    have e : a.1 * b.2 = b.1 * a.2 := by
      unfold cmpN at h
      split at h
      · omega
      · split at h
        · omega
        · omega
    obtain ⟨x, y⟩ := frac_unique ca cb ha hb e
    exact Prod.ext x y
  · rintro rfl
    exact cmp_self a
theorem cmp_of_iff {a b c d : Nat × Nat} (h1 : leN a b ↔ leN c d) (h2 : leN b a ↔ leN d c) : cmpN a b = cmpN c d := by
  have l1 := cmp_le a b
  have l2 := cmp_le c d
  have g1 := cmp_le b a
  have g2 := cmp_le d c
  rw [cmp_flip b a] at g1
  rw [cmp_flip d c] at g2
  have r1 := cmp_range a b
  have r2 := cmp_range c d
  by_cases p : leN a b <;> by_cases q : leN b a
  · have := l1.2 p; have := l2.2 (h1.1 p); have := g1.2 q; have := g2.2 (h2.1 q); omega
  · have := l1.2 p; have := l2.2 (h1.1 p)
    have : ¬ (-cmpN a b ≤ 0) := fun x => q (g1.1 x)
    have : ¬ (-cmpN c d ≤ 0) := fun x => q (h2.2 (g2.1 x))
    omega
  · have := g1.2 q; have := g2.2 (h2.1 q)
    have : ¬ (cmpN a b ≤ 0) := fun x => p (l1.1 x)
    have : ¬ (cmpN c d ≤ 0) := fun x => p (h1.2 (l2.1 x))
    omega
  · have : ¬ (cmpN a b ≤ 0) := fun x => p (l1.1 x)
    have : ¬ (-cmpN a b ≤ 0) := fun x => q (g1.1 x)
    omega
theorem cmp_add {a b c : Nat × Nat} (ha : 0 < a.2) (hb : 0 < b.2) (hc : 0 < c.2) : cmpN (addN a c) (addN b c) = cmpN a b :=
  cmp_of_iff (add_le_iff ha hb hc) (add_le_iff hb ha hc)

theorem le_trans' {a b c : Nat × Nat} (hb : 0 < b.2) (h1 : leN a b) (h2 : leN b c) : leN a c := by
  unfold leN at *
  refine Nat.le_of_mul_le_mul_right ?_ hb
  calc a.1 * c.2 * b.2 = (a.1 * b.2) * c.2 := by ac_rfl
    _ ≤ (b.1 * a.2) * c.2 := Nat.mul_le_mul_right _ h1
    _ = (b.1 * c.2) * a.2 := by ac_rfl
    _ ≤ (c.1 * b.2) * a.2 := Nat.mul_le_mul_right _ h2
    _ = c.1 * a.2 * b.2 := by ac_rfl
theorem le_refl' (a : Nat × Nat) : leN a a := Nat.le_refl _
theorem add_mono {a b c d : Nat × Nat} (ha : 0 < a.2) (hb : 0 < b.2) (hc : 0 < c.2) (hd : 0 < d.2) (h1 : leN a b) (h2 : leN c d) : leN (addN a c) (addN b d) := by
  refine le_trans' (add_pos hb hc) ((add_le_iff ha hb hc).2 h1) ?_
  rw [add_comm b c, add_comm b d]
  exact (add_le_iff hc hd hb).2 h2

theorem sum_pos {xs : List (Nat × Nat)} (h : ∀ x ∈ xs, 0 < x.2) : 0 < (sumN xs).2 := (foldl_add xs (0, 1) (by decide) (by decide) h).2.1
theorem sum_cop {xs : List (Nat × Nat)} (h : ∀ x ∈ xs, 0 < x.2) : Nat.Coprime (sumN xs).1 (sumN xs).2 := (foldl_add xs (0, 1) (by decide) (by decide) h).2.2
theorem sum_cons {x : Nat × Nat} {xs : List (Nat × Nat)} (h : ∀ y ∈ x :: xs, 0 < y.2) : sumN (x :: xs) = addN x (sumN xs) := by
  have hx := h x (by simp)
  have hr : ∀ y ∈ xs, 0 < y.2 := fun y hy => h y (List.mem_cons_of_mem _ hy)
  have e : sumN (x :: xs) = addN (addN (0, 1) x) (sumN xs) := (foldl_add xs (addN (0, 1) x) (add_pos (by decide) hx) (add_cop (by decide) hx) hr).1
  rw [e]
  have h0 : addN (0, 1) x = redN x.1 x.2 := by unfold addN; simp
  rw [h0]
  exact add_rep (red_pos hx) (sum_pos hr) hx (red_same _ _)
theorem map_pos {α : Type} {f : α → Nat × Nat} {l : List α} (h : ∀ t ∈ l, 0 < (f t).2) : ∀ x ∈ l.map f, 0 < x.2 := by
  intro x hx
  obtain ⟨u, hu, rfl⟩ := List.mem_map.1 hx
  exact h u hu
/-- The form of the parts does not matter. -/
theorem sum_rep {α : Type} (f g : α → Nat × Nat) : ∀ (l : List α), (∀ t ∈ l, 0 < (f t).2 ∧ 0 < (g t).2 ∧ (f t).1 * (g t).2 = (g t).1 * (f t).2) → sumN (l.map f) = sumN (l.map g)
  | [], _ => rfl
  | t :: l, h => by
    have ht := h t (by simp)
    have pf := map_pos (f := f) (l := t :: l) fun u hu => (h u hu).1
    have pg := map_pos (f := g) (l := t :: l) fun u hu => (h u hu).2.1
    have sg : 0 < (sumN (l.map g)).2 := sum_pos (map_pos fun u hu => (h u (List.mem_cons_of_mem _ hu)).2.1)
    rw [List.map_cons] at pf pg
    rw [List.map_cons, List.map_cons, sum_cons pf, sum_cons pg, sum_rep f g l fun u hu => h u (List.mem_cons_of_mem _ hu)]
    exact add_rep ht.1 sg ht.2.1 ht.2.2

/-- Sums grow with their parts. -/
theorem sum_mono {α : Type} (f g : α → Nat × Nat) : ∀ (l : List α), (∀ t ∈ l, 0 < (f t).2 ∧ 0 < (g t).2 ∧ leN (f t) (g t)) → leN (sumN (l.map f)) (sumN (l.map g))
  | [], _ => le_refl' _
  | t :: l, h => by
    have ht := h t (by simp)
    have pf := map_pos (f := f) (l := t :: l) fun u hu => (h u hu).1
    have pg := map_pos (f := g) (l := t :: l) fun u hu => (h u hu).2.1
    have sf : 0 < (sumN (l.map f)).2 := sum_pos (map_pos fun u hu => (h u (List.mem_cons_of_mem _ hu)).1)
    have sg : 0 < (sumN (l.map g)).2 := sum_pos (map_pos fun u hu => (h u (List.mem_cons_of_mem _ hu)).2.1)
    rw [List.map_cons] at pf pg
    rw [List.map_cons, List.map_cons, sum_cons pf, sum_cons pg]
    exact add_mono ht.1 ht.2.1 sf sg ht.2.2 (sum_mono f g l fun u hu => h u (List.mem_cons_of_mem _ hu))

/-- A sum is nothing exactly if all parts are nothing. -/
theorem red_zero {n d : Nat} (h : 0 < d) : (redN n d).1 = 0 ↔ n = 0 := by
  have e := red_same n d
  have p := red_pos (n := n) h
  constructor
  · intro h0
    rw [h0, Nat.zero_mul] at e
    rcases Nat.mul_eq_zero.1 e.symm with h1 | h1
    · exact h1
    · omega
  · rintro rfl
    simp [redN]
theorem sum_zero : ∀ {xs : List (Nat × Nat)}, (∀ x ∈ xs, 0 < x.1 ∧ 0 < x.2) → ((sumN xs).1 = 0 ↔ xs = [])
  | [], _ => by simp [sumN]
  | x :: xs, h => by
    have hx := h x (by simp)
    have hr : ∀ y ∈ xs, 0 < y.2 := fun y hy => (h y (List.mem_cons_of_mem _ hy)).2
    rw [sum_cons (fun y hy => (h y hy).2)]
    unfold addN
    rw [red_zero (Nat.mul_pos hx.2 (sum_pos hr))]
    have : 0 < x.1 * (sumN xs).2 := Nat.mul_pos hx.1 (sum_pos hr)
    simp
    omega

/-- Over a common multiple of all: what all need until they begin together again. -/
theorem sum_common : ∀ {xs : List (Nat × Nat)} {n : Nat}, 0 < n → (∀ x ∈ xs, 0 < x.2 ∧ x.2 ∣ n) → sumN xs = redN (xs.map fun x => n / x.2 * x.1).sum n
  | [], n, hn, _ => by
    have : redN 0 n = (0, 1) := by
      unfold redN
      simp [Nat.div_self hn]
    simpa [sumN] using this.symm
  | x :: xs, n, hn, h => by
    have hx := h x (by simp)
    have hr : ∀ y ∈ xs, 0 < y.2 ∧ y.2 ∣ n := fun y hy => h y (List.mem_cons_of_mem _ hy)
    rw [sum_cons (fun y hy => (h y hy).1), sum_common hn hr, List.map_cons, List.sum_cons, add_comm, add_rep (red_pos hn) hx.1 hn (red_same _ _)]
    refine red_eq (Nat.mul_pos hn hx.1) hn ?_
    obtain ⟨k, hk⟩ := hx.2
    have : n / x.2 = k := Nat.div_eq_of_eq_mul_right hx.1 hk
    rw [this]
    generalize (List.map (fun x => n / x.2 * x.1) xs).sum = s
    rw [Nat.add_mul, Nat.add_mul]
    have e1 : s * x.2 * n = s * (n * x.2) := by ac_rfl
    have e2 : x.1 * n * n = k * x.1 * (n * x.2) := by
      calc x.1 * n * n = x.1 * n * (x.2 * k) := by rw [← hk]
        _ = k * x.1 * (n * x.2) := by ac_rfl
    rw [e1, e2, Nat.add_comm]

/-- Bounds: parts no greater than one, with small numbers. -/
theorem sum_bound : ∀ {xs : List (Nat × Nat)} {m : Nat}, (∀ x ∈ xs, 0 < x.2 ∧ x.2 ≤ m ∧ x.1 ≤ x.2) → (sumN xs).2 ≤ m ^ xs.length ∧ (sumN xs).1 ≤ xs.length * (sumN xs).2
  | [], m, _ => by simp [sumN]
  | x :: xs, m, h => by
    have hx := h x (by simp)
    have hr : ∀ y ∈ xs, 0 < y.2 ∧ y.2 ≤ m ∧ y.1 ≤ y.2 := fun y hy => h y (List.mem_cons_of_mem _ hy)
    obtain ⟨b1, b2⟩ := sum_bound hr
    have sp : 0 < (sumN xs).2 := sum_pos (fun y hy => (hr y hy).1)
    rw [sum_cons (fun y hy => (h y hy).1)]
    refine ⟨?_, ?_⟩
    · refine Nat.le_trans (red_le_den _ _) ?_
      rw [List.length_cons, Nat.pow_succ, Nat.mul_comm]
      exact Nat.mul_le_mul b1 hx.2.1
    · have e : (addN x (sumN xs)).1 * (x.2 * (sumN xs).2) = (x.1 * (sumN xs).2 + (sumN xs).1 * x.2) * (addN x (sumN xs)).2 := red_same _ _
      refine Nat.le_of_mul_le_mul_right ?_ (Nat.mul_pos hx.1 sp)
      rw [e, List.length_cons]
      have k1 : x.1 * (sumN xs).2 ≤ x.2 * (sumN xs).2 := Nat.mul_le_mul_right _ hx.2.2
      have k2 : (sumN xs).1 * x.2 ≤ xs.length * (sumN xs).2 * x.2 := Nat.mul_le_mul_right _ b2
      calc (x.1 * (sumN xs).2 + (sumN xs).1 * x.2) * (addN x (sumN xs)).2 ≤ (x.2 * (sumN xs).2 + xs.length * (sumN xs).2 * x.2) * (addN x (sumN xs)).2 := Nat.mul_le_mul_right _ (Nat.add_le_add k1 k2)
        _ = (xs.length + 1) * (addN x (sumN xs)).2 * (x.2 * (sumN xs).2) := by
          have : x.2 * (sumN xs).2 + xs.length * (sumN xs).2 * x.2 = (xs.length + 1) * (x.2 * (sumN xs).2) := by
            rw [Nat.add_mul, Nat.one_mul, Nat.add_comm]; congr 1; ac_rfl
          rw [this]; ac_rfl
end

section
/- What MakeShare, ShareValid, AddShares and CompareShares answer, as plain functions. No program in this text. -/
/-- A share: in lowest terms, with numbers that are not too great. -/
structure Sh (n d : Nat) : Prop where
  pos : 1 ≤ d
  num : n ≤ 1000000000
  den : d ≤ 1000000000
  cop : Nat.gcd n d = 1

def mkB (n d : Int) : Bool := decide (0 ≤ n) && (decide (n ≤ 1000000000) && (decide (1 ≤ d) && decide (d ≤ 1000000000)))
def mkS (n d : Int) : Nat × Nat := if mkB n d then redN n.toNat d.toNat else (0, 0)
def shB (n d : Int) : Bool := mkB n d && (Nat.gcd n.toNat d.toNat == 1)
def addB (a b : Nat × Nat) : Bool := decide ((addN a b).1 ≤ 1000000000) && decide ((addN a b).2 ≤ 1000000000)
def plusB (n d m e : Int) : Bool := shB n d && (shB m e && addB (n.toNat, d.toNat) (m.toNat, e.toNat))
def plusS (n d m e : Int) : Nat × Nat := if plusB n d m e then addN (n.toNat, d.toNat) (m.toNat, e.toNat) else (0, 0)
def cmpS (n d m e : Int) : Int := if shB n d && shB m e then cmpN (n.toNat, d.toNat) (m.toNat, e.toNat) else 0

theorem mk_nat {n d : Int} (h : mkB n d = true) : ∃ a b : Nat, n = a ∧ d = b ∧ a ≤ 1000000000 ∧ 1 ≤ b ∧ b ≤ 1000000000 := by
  unfold mkB at h
  simp at h
  exact ⟨n.toNat, d.toNat, by omega, by omega, by omega, by omega, by omega⟩
theorem nat_mk {a b : Nat} (h1 : a ≤ 1000000000) (h2 : 1 ≤ b) (h3 : b ≤ 1000000000) : mkB a b = true := by
  unfold mkB
  simp
  omega
theorem mk_no {n d : Int} (h : mkB n d = false) : n < 0 ∨ 1000000000 < n ∨ d < 1 ∨ 1000000000 < d := by
  unfold mkB at h
  simp at h
  omega
theorem mkS_nat {a b : Nat} (h1 : a ≤ 1000000000) (h2 : 1 ≤ b) (h3 : b ≤ 1000000000) : mkS a b = redN a b := by
  unfold mkS
  rw [nat_mk h1 h2 h3]
  rfl
theorem mkS_no {n d : Int} (h : mkB n d = false) : mkS n d = (0, 0) := by unfold mkS; rw [h]; rfl
theorem sh_red {a b : Nat} (h1 : a ≤ 1000000000) (h2 : 1 ≤ b) (h3 : b ≤ 1000000000) : Sh (redN a b).1 (redN a b).2 :=
  ⟨red_pos h2, Nat.le_trans (red_le_num _ _) h1, Nat.le_trans (red_le_den _ _) h3, red_cop h2⟩
theorem sh_of {n d : Int} (h : shB n d = true) : ∃ a b : Nat, n = a ∧ d = b ∧ Sh a b := by
  unfold shB at h
  rw [Bool.and_eq_true] at h
  obtain ⟨a, b, rfl, rfl, h1, h2, h3⟩ := mk_nat h.1
  exact ⟨a, b, rfl, rfl, h2, h1, h3, by simpa using h.2⟩
theorem of_sh {a b : Nat} (h : Sh a b) : shB a b = true := by
  unfold shB
  rw [nat_mk h.num h.pos h.den]
  simp [h.cop]
theorem sh_redN {a b : Nat} (h : Sh a b) : redN a b = (a, b) := red_of_cop h.cop
theorem gcd_one {a b : Nat} (hb : 0 < b) (h : b / Nat.gcd a b = b) : Nat.gcd a b = 1 := by
  have hg : 0 < Nat.gcd a b := Nat.gcd_pos_of_pos_right a hb
  have h1 := Nat.div_mul_cancel (Nat.gcd_dvd_right a b)
  rw [h] at h1
  have : b * Nat.gcd a b = b * 1 := by omega
  exact Nat.eq_of_mul_eq_mul_left hb this
theorem plus_sh {a b c d : Nat} (h : Sh a b) (k : Sh c d) : plusB a b c d = addB (a, b) (c, d) ∧ plusS a b c d = if addB (a, b) (c, d) then addN (a, b) (c, d) else (0, 0) := by
  have e : plusB a b c d = addB (a, b) (c, d) := by unfold plusB; rw [of_sh h, of_sh k]; simp
  refine ⟨e, ?_⟩
  unfold plusS
  rw [e]
  simp
theorem plus_out {n d m e : Int} (h : plusB n d m e = true) : ∃ a b x y : Nat, n = a ∧ d = b ∧ m = x ∧ e = y ∧ Sh a b ∧ Sh x y ∧ plusS n d m e = addN (a, b) (x, y) ∧ Sh (addN (a, b) (x, y)).1 (addN (a, b) (x, y)).2 := by
  have h0 := h
  unfold plusB at h
  rw [Bool.and_eq_true, Bool.and_eq_true] at h
  obtain ⟨a, b, rfl, rfl, ha⟩ := sh_of h.1
  obtain ⟨x, y, rfl, rfl, hx⟩ := sh_of h.2.1
  have h3 := h.2.2
  unfold addB at h3
  simp at h3
  refine ⟨a, b, x, y, rfl, rfl, rfl, rfl, ha, hx, ?_, ?_⟩
  · unfold plusS; rw [h0]; rfl
  · exact ⟨add_pos ha.pos hx.pos, h3.1, h3.2, add_cop ha.pos hx.pos⟩
theorem plus_no {n d m e : Int} (h : plusB n d m e = false) : plusS n d m e = (0, 0) := by unfold plusS; rw [h]; rfl
theorem plus_comm (n d m e : Int) : plusB n d m e = plusB m e n d ∧ plusS n d m e = plusS m e n d := by
  have e1 : addB (n.toNat, d.toNat) (m.toNat, e.toNat) = addB (m.toNat, e.toNat) (n.toNat, d.toNat) := by unfold addB; rw [add_comm]
  have e2 : plusB n d m e = plusB m e n d := by
    unfold plusB
    rw [e1, ← Bool.and_assoc, ← Bool.and_assoc, Bool.and_comm (shB n d)]
  refine ⟨e2, ?_⟩
  unfold plusS
  rw [e2, add_comm]
theorem cmp_sh {a b c d : Nat} (h : Sh a b) (k : Sh c d) : cmpS a b c d = cmpN (a, b) (c, d) := by
  unfold cmpS; rw [of_sh h, of_sh k]; rfl
theorem cmp_left {n d : Int} (m e : Int) (h : shB n d = false) : cmpS n d m e = 0 := by unfold cmpS; rw [h]; rfl
theorem cmp_right {m e : Int} (n d : Int) (h : shB m e = false) : cmpS n d m e = 0 := by unfold cmpS; rw [h]; simp
theorem cmpS_flip (n d m e : Int) : cmpS n d m e = - cmpS m e n d := by
  unfold cmpS
  rw [Bool.and_comm, cmp_flip]
  split <;> omega
theorem cmpS_range (n d m e : Int) : -1 ≤ cmpS n d m e ∧ cmpS n d m e ≤ 1 := by
  unfold cmpS
  split
  · exact cmp_range _ _
  · omega
theorem cmpS_self (n d : Int) : cmpS n d n d = 0 := by
  unfold cmpS
  split
  · exact cmp_self _
  · rfl
theorem cmpS_zero {a b c d : Nat} (h : Sh a b) (k : Sh c d) : cmpS a b c d = 0 ↔ a = c ∧ b = d := by
  rw [cmp_sh h k, cmp_zero (a := (a, b)) (b := (c, d)) h.pos k.pos h.cop k.cop, Prod.mk.injEq]
/-- A sum is no less than its parts. -/
theorem cmp_plus {a b x y : Nat} (h : Sh a b) (k : Sh x y) (hs : Sh (addN (a, b) (x, y)).1 (addN (a, b) (x, y)).2) : cmpS a b (addN (a, b) (x, y)).1 (addN (a, b) (x, y)).2 ≤ 0 ∧ cmpS x y (addN (a, b) (x, y)).1 (addN (a, b) (x, y)).2 ≤ 0 := by
  rw [cmp_sh h hs, cmp_sh k hs]
  refine ⟨(cmp_le _ _).2 (le_add h.pos k.pos), (cmp_le _ _).2 ?_⟩
  rw [add_comm]
  exact le_add k.pos h.pos
theorem plus_zero {a b : Nat} (h : Sh a b) : plusB a b 0 1 = true ∧ plusS a b 0 1 = (a, b) := by
  have h01 : Sh 0 1 := ⟨by omega, by omega, by omega, by decide⟩
  obtain ⟨e1, e2⟩ := plus_sh h h01
  have e : addN (a, b) (0, 1) = (a, b) := add_zero h.cop
  have hb : addB (a, b) (0, 1) = true := by unfold addB; rw [e]; simp; exact ⟨h.num, h.den⟩
  have e1' : plusB a b 0 1 = true := by have := e1; rw [hb] at this; exact_mod_cast this
  refine ⟨e1', ?_⟩
  have := e2
  rw [hb, e] at this
  exact_mod_cast this
theorem cmp_more {n d m e p q : Int} (h1 : plusB n d p q = true) (h2 : plusB m e p q = true) : cmpS (plusS n d p q).1 (plusS n d p q).2 (plusS m e p q).1 (plusS m e p q).2 = cmpS n d m e := by
  obtain ⟨a, b, x, y, rfl, rfl, rfl, rfl, ha, hx, e1, s1⟩ := plus_out h1
  obtain ⟨a', b', x', y', rfl, rfl, hx1, hx2, ha', hx', e2, s2⟩ := plus_out h2
  have i1 : x' = x := by omega
  have i2 : y' = y := by omega
  subst i1 i2
  rw [e1, e2, cmp_sh s1 s2, cmp_sh ha ha']
  exact cmp_add ha.pos ha'.pos hx.pos
end

section
/- Shares of tasks: sums of fractions over lists of tasks. No program in this text. -/
/-- The part of one task; the share of all tasks of a kind; the share of the critical ones with their high needs. -/
def part (t : Tk) : Nat × Nat := redN t.lo.toNat t.ev.toNat
def lowL (ts : List Tk) (c : Bool) : Nat × Nat := sumN ((ts.filter fun t => t.cr == c).map part)
def lowOf (ts : List Tk) (c : Bool) : Nat × Nat := if setB ts then lowL ts c else (0, 0)
def highOf (ts : List Tk) : Nat × Nat := if setB ts then lowL (critL ts) true else (0, 0)

theorem ok_of_set {ts : List Tk} {t : Tk} (h : setB ts = true) (ht : t ∈ ts) : t.ok = true := by
  unfold setB at h
  simp at h
  exact h.2 t ht
theorem ok_nums {t : Tk} (h : t.ok = true) : 1 ≤ t.lo ∧ t.lo ≤ t.hi ∧ t.hi ≤ t.ev ∧ t.ev ≤ 20 := by
  unfold Tk.ok validB at h
  simp at h
  omega
theorem part_facts {t : Tk} (h : t.ok = true) : 0 < (part t).2 ∧ (part t).2 ≤ 20 ∧ (part t).1 ≤ (part t).2 ∧ 0 < (part t).1 := by
  obtain ⟨a, b, c, d⟩ := ok_nums h
  have h1 : 0 < t.ev.toNat := by omega
  refine ⟨red_pos h1, Nat.le_trans (red_le_den _ _) (by omega), ?_, ?_⟩
  · unfold part redN
    exact Nat.div_le_div_right (by omega)
  · have := red_zero (n := t.lo.toNat) h1
    unfold part
    omega
theorem parts_facts {ts : List Tk} (c : Bool) (h : ∀ t ∈ ts, t.ok = true) : ∀ x ∈ (ts.filter fun t => t.cr == c).map part, 0 < x.2 ∧ x.2 ≤ 20 ∧ x.1 ≤ x.2 := by
  intro x hx
  obtain ⟨t, ht, rfl⟩ := List.mem_map.1 hx
  obtain ⟨p1, p2, p3, _⟩ := part_facts (h t (List.mem_filter.1 ht).1)
  exact ⟨p1, p2, p3⟩
theorem lowL_sh {ts : List Tk} (c : Bool) (hl : ts.length ≤ 5) (h : ∀ t ∈ ts, t.ok = true) : Sh (lowL ts c).1 (lowL ts c).2 ∧ (lowL ts c).1 ≤ 16000000 ∧ (lowL ts c).2 ≤ 3200000 := by
  have hp := parts_facts c h
  have p1 : 0 < (lowL ts c).2 := sum_pos fun x hx => (hp x hx).1
  have p2 : Nat.Coprime (lowL ts c).1 (lowL ts c).2 := sum_cop fun x hx => (hp x hx).1
  obtain ⟨b1, b2⟩ := sum_bound hp
  have hn : ((ts.filter fun t => t.cr == c).map part).length ≤ 5 := by
    rw [List.length_map]; exact Nat.le_trans (List.length_filter_le _ _) hl
  have c1 : (lowL ts c).2 ≤ 3200000 := Nat.le_trans b1 (Nat.le_trans (Nat.pow_le_pow_right (by omega) hn) (by decide))
  have c2 : (lowL ts c).1 ≤ 5 * (lowL ts c).2 := Nat.le_trans b2 (Nat.mul_le_mul_right _ hn)
  exact ⟨⟨p1, by omega, by omega, p2⟩, by omega, c1⟩
theorem setB_all {ts : List Tk} (h : setB ts = true) : ts.length ≤ 5 ∧ ∀ t ∈ ts, t.ok = true := by
  unfold setB at h
  simp at h
  exact h
theorem lowOf_sh {ts : List Tk} (c : Bool) (h : setB ts = true) : Sh (lowOf ts c).1 (lowOf ts c).2 ∧ (lowOf ts c).1 ≤ 16000000 ∧ (lowOf ts c).2 ≤ 3200000 := by
  obtain ⟨a, b⟩ := setB_all h
  unfold lowOf
  rw [if_pos h]
  exact lowL_sh c a b
theorem lowOf_bad {ts : List Tk} (c : Bool) (h : setB ts = false) : lowOf ts c = (0, 0) := by unfold lowOf; rw [h]; rfl
theorem highOf_bad {ts : List Tk} (h : setB ts = false) : highOf ts = (0, 0) := by unfold highOf; rw [h]; rfl
theorem crit_ok {ts : List Tk} (h : ∀ t ∈ ts, t.ok = true) : ∀ t ∈ critL ts, t.ok = true := by
  intro t ht
  obtain ⟨u, hu, _, rfl⟩ := critL_mem ht
  exact ok_crit (h u hu)
theorem highOf_low {ts us : List Tk} (hs : setB ts = true) (hu : us = critOf ts) : lowOf us true = highOf ts := by
  have hu' : us = critL ts := by rw [hu]; simp [critOf, hs]
  unfold lowOf highOf
  rw [(crit_facts hs hu).1, hs, hu']
theorem highOf_sh {ts : List Tk} (h : setB ts = true) : Sh (highOf ts).1 (highOf ts).2 ∧ (highOf ts).1 ≤ 16000000 ∧ (highOf ts).2 ≤ 3200000 := by
  rw [← highOf_low h rfl]
  exact lowOf_sh true (crit_facts h rfl).1
theorem lowL_yes {ts : List Tk} {c : Bool} {k : Nat} {t : Tk} (h : ts[k]? = some t) (hc : t.cr = c) : lowL (ts.take (k + 1)) c = addN (lowL (ts.take k) c) (part t) := by
  obtain ⟨hk, rfl⟩ := List.getElem?_eq_some_iff.1 h
  unfold lowL sumN
  rw [List.take_succ_eq_append_getElem hk, List.filter_append, List.filter_cons]
  simp [hc, List.foldl_append]
theorem lowL_no {ts : List Tk} {c : Bool} {k : Nat} {t : Tk} (h : ts[k]? = some t) (hc : ¬ t.cr = c) : lowL (ts.take (k + 1)) c = lowL (ts.take k) c := by
  obtain ⟨hk, rfl⟩ := List.getElem?_eq_some_iff.1 h
  unfold lowL
  rw [List.take_succ_eq_append_getElem hk, List.filter_append, List.filter_cons]
  simp [hc]
theorem lowL_take_sh {ts : List Tk} (c : Bool) (k : Nat) (h : setB ts = true) : Sh (lowL (ts.take k) c).1 (lowL (ts.take k) c).2 ∧ (lowL (ts.take k) c).1 ≤ 16000000 ∧ (lowL (ts.take k) c).2 ≤ 3200000 := by
  obtain ⟨a, b⟩ := setB_all h
  exact lowL_sh c (by rw [List.length_take]; omega) fun t ht => b t (List.mem_of_mem_take ht)

/-- One round of the sum. -/
theorem low_step {ts : List Tk} {c : Bool} {k : Nat} {t : Tk} {u v : Nat} (hs : setB ts = true) (ht : ts[k]? = some t) (hc : t.cr = c) (huv : lowL (ts.take k) c = (u, v)) :
    ∃ x y u' v' : Nat, mkS t.lo t.ev = (x, y) ∧ mkB t.lo t.ev = true ∧ plusB u v x y = true ∧ plusS u v x y = (u', v') ∧ lowL (ts.take (k + 1)) c = (u', v') ∧ Sh u v ∧ Sh x y := by
  obtain ⟨a, b⟩ := setB_all hs
  have hok := b t (List.mem_of_getElem? ht)
  obtain ⟨n1, n2, n3, n4⟩ := ok_nums hok
  have hm : mkB t.lo t.ev = true := by unfold mkB; simp; omega
  have hp : mkS t.lo t.ev = part t := by unfold mkS; rw [hm]; rfl
  have s1 := (lowL_take_sh c k hs).1
  have s2 := lowL_take_sh c (k + 1) hs
  rw [lowL_yes ht hc] at s2
  have s3 : Sh (part t).1 (part t).2 := by
    have e : part t = redN t.lo.toNat t.ev.toNat := rfl
    rw [e]
    exact sh_red (by omega) (by omega) (by omega)
  rw [huv] at s1 s2
  dsimp only at s1
  obtain ⟨e1, e2⟩ := plus_sh s1 s3
  have hb : addB (u, v) ((part t).1, (part t).2) = true := by
    unfold addB
    simp
    exact ⟨s2.1.num, s2.1.den⟩
  refine ⟨(part t).1, (part t).2, (addN (u, v) (part t)).1, (addN (u, v) (part t)).2, hp, hm, e1.trans hb, ?_, ?_, s1, s3⟩
  · rw [e2, hb]; rfl
  · rw [lowL_yes ht hc, huv]

/-- What the laws say. -/
theorem crit_parts (ts : List Tk) : lowL (critL ts) true = sumN ((ts.filter fun t => t.cr == true).map fun t => redN t.hi.toNat t.ev.toNat) := by
  unfold lowL critL
  congr 1
  induction ts with
  | nil => rfl
  | cons t ts ih =>
    cases hc : t.cr
    · simp only [List.filter_cons, hc]
      simpa using ih
    · simp only [List.filter_cons, hc]
      simp only [if_true, List.filter_cons, List.map_cons]
      simp only [hc, beq_self_eq_true, if_true, List.map_cons]
      rw [ih]
      rfl
theorem low_le_high {ts : List Tk} (h : setB ts = true) : leN (lowOf ts true) (highOf ts) := by
  obtain ⟨_, b⟩ := setB_all h
  unfold lowOf highOf
  rw [if_pos h, if_pos h, crit_parts]
  unfold lowL
  refine sum_mono part _ _ fun t ht => ?_
  obtain ⟨n1, n2, n3, n4⟩ := ok_nums (b t (List.mem_filter.1 ht).1)
  have h1 : 0 < t.ev.toNat := by omega
  refine ⟨red_pos h1, red_pos h1, ?_⟩
  unfold part redN leN
  have e1 := red_same t.lo.toNat t.ev.toNat
  have e2 := red_same t.hi.toNat t.ev.toNat
  unfold redN at e1 e2
  dsimp only at e1 e2 ⊢
  refine Nat.le_of_mul_le_mul_right ?_ (Nat.mul_pos h1 h1)
  calc _ = (t.lo.toNat / t.lo.toNat.gcd t.ev.toNat * t.ev.toNat) * (t.ev.toNat / t.hi.toNat.gcd t.ev.toNat * t.ev.toNat) := by ac_rfl
    _ = (t.lo.toNat * (t.ev.toNat / t.lo.toNat.gcd t.ev.toNat)) * (t.ev.toNat / t.hi.toNat.gcd t.ev.toNat * t.ev.toNat) := by rw [e1]
    _ ≤ (t.hi.toNat * (t.ev.toNat / t.lo.toNat.gcd t.ev.toNat)) * (t.ev.toNat / t.hi.toNat.gcd t.ev.toNat * t.ev.toNat) := Nat.mul_le_mul_right _ (Nat.mul_le_mul_right _ (by omega))
    _ = (t.hi.toNat * (t.ev.toNat / t.hi.toNat.gcd t.ev.toNat)) * ((t.ev.toNat / t.lo.toNat.gcd t.ev.toNat) * t.ev.toNat) := by ac_rfl
    _ = (t.hi.toNat / t.hi.toNat.gcd t.ev.toNat * t.ev.toNat) * ((t.ev.toNat / t.lo.toNat.gcd t.ev.toNat) * t.ev.toNat) := by rw [e2]
    _ = _ := by ac_rfl
theorem high_zero {ts us : List Tk} (hs : setB ts = true) (hu : us = critOf ts) : ((highOf ts).1 = 0 ↔ us.length = 0) := by
  obtain ⟨_, b⟩ := setB_all hs
  have hu' : us = critL ts := by rw [hu]; simp [critOf, hs]
  have e : highOf ts = sumN ((us.filter fun t => t.cr == true).map part) := by unfold highOf lowL; rw [if_pos hs, hu']
  have ef : (us.filter fun t => t.cr == true) = us := by
    rw [List.filter_eq_self]
    intro t ht
    rw [hu'] at ht
    obtain ⟨u, _, hc, rfl⟩ := critL_mem ht
    simp [hc]
  rw [e, ef, sum_zero]
  · simp
  · intro x hx
    obtain ⟨t, ht, rfl⟩ := List.mem_map.1 hx
    obtain ⟨p1, _, _, p4⟩ := part_facts (crit_ok b t (hu' ▸ ht))
    exact ⟨p4, p1⟩
theorem lowL_app (xs ys : List Tk) (c : Bool) (h : ∀ t ∈ xs ++ ys, t.ok = true) : lowL (xs ++ ys) c = addN (lowL xs c) (lowL ys c) := by
  unfold lowL
  rw [List.filter_append, List.map_append]
  exact sum_app (fun x hx => (parts_facts c (fun t ht => h t (List.mem_append_left _ ht)) x hx).1) (fun x hx => (parts_facts c (fun t ht => h t (List.mem_append_right _ ht)) x hx).1)
theorem critL_app (xs ys : List Tk) : critL (xs ++ ys) = critL xs ++ critL ys := by unfold critL; simp
theorem low_parts {ts : List Tk} (c : Bool) (k : Nat) (h : setB ts = true) : lowOf ts c = addN (lowOf (ts.take k) c) (lowOf (ts.drop k) c) := by
  obtain ⟨a, b⟩ := setB_all h
  have h1 : setB (ts.take k) = true := by unfold setB at h ⊢; simp at h ⊢; exact ⟨by omega, fun t ht => h.2 t (List.mem_of_mem_take ht)⟩
  have h2 : setB (ts.drop k) = true := by unfold setB at h ⊢; simp at h ⊢; exact ⟨by omega, fun t ht => h.2 t (List.mem_of_mem_drop ht)⟩
  unfold lowOf
  rw [if_pos h, if_pos h1, if_pos h2]
  conv => lhs; rw [← List.take_append_drop k ts]
  exact lowL_app _ _ c (by rw [List.take_append_drop]; exact b)
theorem high_parts {ts : List Tk} (k : Nat) (h : setB ts = true) : highOf ts = addN (highOf (ts.take k)) (highOf (ts.drop k)) := by
  obtain ⟨a, b⟩ := setB_all h
  have h1 : setB (ts.take k) = true := by unfold setB at h ⊢; simp at h ⊢; exact ⟨by omega, fun t ht => h.2 t (List.mem_of_mem_take ht)⟩
  have h2 : setB (ts.drop k) = true := by unfold setB at h ⊢; simp at h ⊢; exact ⟨by omega, fun t ht => h.2 t (List.mem_of_mem_drop ht)⟩
  unfold highOf
  rw [if_pos h, if_pos h1, if_pos h2]
  conv => lhs; rw [← List.take_append_drop k ts, critL_app]
  refine lowL_app _ _ true ?_
  rw [← critL_app, List.take_append_drop]
  exact crit_ok b
theorem low_perm {xs ys : List Tk} (c : Bool) (hp : xs.Perm ys) (h : ∀ t ∈ xs, t.ok = true) : lowL xs c = lowL ys c := by
  unfold lowL
  exact sum_perm ((hp.filter _).map _) fun x hx => (parts_facts c h x hx).1
theorem crit_perm {xs ys : List Tk} (hp : xs.Perm ys) : (critL xs).Perm (critL ys) := (hp.filter _).map _

/-- One task alone. -/
theorem low_one {t : Tk} (h : t.ok = true) : lowL [t] t.cr = part t ∧ 0 < (part t).1 ∧ leN (part t) (1, 1) := by
  obtain ⟨p1, p2, p3, p4⟩ := part_facts h
  refine ⟨?_, p4, ?_⟩
  · unfold lowL
    simp [sumN]
    unfold addN
    simp
    obtain ⟨n1, n2, n3, n4⟩ := ok_nums h
    exact red_of_cop (red_cop (by omega))
  · unfold leN
    simpa using p3
theorem high_one {t : Tk} (h : t.ok = true) : leN (lowL (critL [t]) true) (1, 1) := by
  have hc : ∀ u ∈ critL [t], u.ok = true := crit_ok (ts := [t]) (by intro u hu; simp at hu; rw [hu]; exact h)
  have hl : (critL [t]).length ≤ 1 := critL_len [t]
  have hp := parts_facts true hc
  obtain ⟨b1, b2⟩ := sum_bound hp
  have hn : (((critL [t]).filter fun t => t.cr == true).map part).length ≤ 1 := by
    rw [List.length_map]; exact Nat.le_trans (List.length_filter_le _ _) hl
  unfold leN
  have : (lowL (critL [t]) true).1 ≤ 1 * (lowL (critL [t]) true).2 := Nat.le_trans b2 (Nat.mul_le_mul_right _ hn)
  simpa using this

/-- What the critical tasks need until all begin together again. -/
def needs (n : Nat) (ts : List Tk) : Nat := ((ts.filter Tk.cr).map fun t => n / t.ev.toNat * t.hi.toNat).sum
theorem needs_yes {ts : List Tk} {n k : Nat} {t : Tk} (h : ts[k]? = some t) (hc : t.cr = true) : needs n (ts.take (k + 1)) = needs n (ts.take k) + n / t.ev.toNat * t.hi.toNat := by
  obtain ⟨hk, rfl⟩ := List.getElem?_eq_some_iff.1 h
  unfold needs
  rw [List.take_succ_eq_append_getElem hk, List.filter_append, List.filter_cons]
  simp [hc]
theorem needs_no {ts : List Tk} {n k : Nat} {t : Tk} (h : ts[k]? = some t) (hc : t.cr = false) : needs n (ts.take (k + 1)) = needs n (ts.take k) := by
  obtain ⟨hk, rfl⟩ := List.getElem?_eq_some_iff.1 h
  unfold needs
  rw [List.take_succ_eq_append_getElem hk, List.filter_append, List.filter_cons]
  simp [hc]
theorem needs_le {ts : List Tk} (n : Nat) (h : ∀ t ∈ ts, t.ok = true) : needs n ts ≤ ts.length * n := by
  induction ts with
  | nil => simp [needs]
  | cons t ts ih =>
    have ih := ih fun u hu => h u (List.mem_cons_of_mem _ hu)
    obtain ⟨n1, n2, n3, n4⟩ := ok_nums (h t (by simp))
    unfold needs at ih ⊢
    rw [List.filter_cons, List.length_cons, Nat.add_mul]
    split
    · rw [List.map_cons, List.sum_cons]
      have : n / t.ev.toNat * t.hi.toNat ≤ n := Nat.le_trans (Nat.mul_le_mul_left _ (by omega : t.hi.toNat ≤ t.ev.toNat)) (Nat.div_mul_le_self _ _)
      omega
    · omega
theorem needs_share {ts : List Tk} {n : Nat} (hn : 0 < n) (h : ∀ t ∈ ts, t.ok = true) (hd : ∀ t ∈ ts, t.ev.toNat ∣ n) : lowL (critL ts) true = redN (needs n ts) n := by
  rw [crit_parts]
  have e0 : (ts.filter fun t => t.cr == true) = ts.filter Tk.cr := by congr 1; funext t; cases t.cr <;> rfl
  rw [e0]
  have hf : ∀ t ∈ ts.filter Tk.cr, 0 < t.ev.toNat := fun t ht => by have := ok_nums (h t (List.mem_filter.1 ht).1); omega
  have e1 : sumN ((ts.filter Tk.cr).map fun t => redN t.hi.toNat t.ev.toNat) = sumN ((ts.filter Tk.cr).map fun t => (t.hi.toNat, t.ev.toNat)) :=
    sum_rep _ _ _ fun t ht => ⟨red_pos (hf t ht), hf t ht, red_same _ _⟩
  rw [e1, sum_common hn]
  · unfold needs
    rw [List.map_map]
    rfl
  · intro x hx
    obtain ⟨t, ht, rfl⟩ := List.mem_map.1 hx
    exact ⟨hf t ht, hd t (List.mem_filter.1 ht).1⟩
end

section
/- Fractions that two kinds of tasks share: what stays small enough. No program in this text. -/
def leB (x y : Nat × Nat) : Bool := decide (x.1 * y.2 ≤ y.1 * x.2)
theorem leB_iff {x y : Nat × Nat} : leB x y = true ↔ leN x y := by unfold leB leN; simp
theorem leB_no {x y : Nat × Nat} : leB x y = false ↔ ¬ leN x y := by unfold leB leN; simp
theorem cmp_leB (x y : Nat × Nat) : decide (cmpN x y ≤ 0) = leB x y := by
  rw [Bool.eq_iff_iff, decide_eq_true_iff, cmp_le, leB_iff]
theorem red_dvd (n d : Nat) : (redN n d).2 ∣ d := Nat.div_dvd_of_dvd (Nat.gcd_dvd_right n d)
theorem one_sh : Sh 1 1 := ⟨by decide, by decide, by decide, by decide⟩

/-- The factor, the factor times what the other tasks need, as fractions. -/
def facN (a b : Nat × Nat) : Nat × Nat := redN (b.1 * a.2) (b.2 * (a.2 - a.1))
def mulN (x a : Nat × Nat) : Nat × Nat := redN (x.1 * a.1) (x.2 * a.2)

/-- Two kinds of tasks: a the one's share, b and h those of the other. -/
structure VB (a b h : Nat × Nat) (na nc : Nat) : Prop where
  le : na * nc ≤ 3200000
  pa : 0 < na
  pc : 0 < nc
  da : a.2 ∣ na
  db : b.2 ∣ nc
  dh : h.2 ∣ nc
  a2 : 0 < a.2
  b2 : 0 < b.2
  h2 : 0 < h.2
  a1 : a.1 ≤ 5 * a.2
  b1 : b.1 ≤ 5 * b.2
  h1 : h.1 ≤ 5 * h.2

theorem sum_small {a b : Nat × Nat} {na nc : Nat} (le : na * nc ≤ 3200000) (pa : 0 < na) (pc : 0 < nc) (da : a.2 ∣ na) (db : b.2 ∣ nc) (a2 : 0 < a.2) (b2 : 0 < b.2) (a1 : a.1 ≤ 5 * a.2) (b1 : b.1 ≤ 5 * b.2) :
    addB a b = true ∧ Sh (addN a b).1 (addN a b).2 ∧ (addN a b).2 ≤ 3200000 := by
  have h1 := Nat.le_of_dvd pa da
  have h2 := Nat.le_of_dvd pc db
  have h3 : a.2 * b.2 ≤ 3200000 := Nat.le_trans (Nat.mul_le_mul h1 h2) le
  have e2 : (addN a b).2 ≤ a.2 * b.2 := red_le_den _ _
  have e1 : (addN a b).1 ≤ a.1 * b.2 + b.1 * a.2 := red_le_num _ _
  have f1 : a.1 * b.2 ≤ 5 * (a.2 * b.2) := by rw [← Nat.mul_assoc]; exact Nat.mul_le_mul_right _ a1
  have f2 : b.1 * a.2 ≤ 5 * (a.2 * b.2) := by rw [Nat.mul_comm a.2, ← Nat.mul_assoc]; exact Nat.mul_le_mul_right _ b1
  refine ⟨?_, ⟨add_pos a2 b2, by omega, by omega, add_cop a2 b2⟩, by omega⟩
  unfold addB
  simp
  omega
theorem VB.ab {a b h : Nat × Nat} {na nc : Nat} (H : VB a b h na nc) : addB a b = true ∧ Sh (addN a b).1 (addN a b).2 ∧ (addN a b).2 ≤ 3200000 :=
  sum_small H.le H.pa H.pc H.da H.db H.a2 H.b2 H.a1 H.b1
theorem VB.ah {a b h : Nat × Nat} {na nc : Nat} (H : VB a b h na nc) : addB a h = true ∧ Sh (addN a h).1 (addN a h).2 ∧ (addN a h).2 ≤ 3200000 :=
  sum_small H.le H.pa H.pc H.da H.dh H.a2 H.h2 H.a1 H.h1

theorem sum_le_one {a b : Nat × Nat} (a2 : 0 < a.2) (b2 : 0 < b.2) (h : leN (addN a b) (1, 1)) : a.1 * b.2 + b.1 * a.2 ≤ a.2 * b.2 := by
  have e := red_same (a.1 * b.2 + b.1 * a.2) (a.2 * b.2)
  unfold leN at h
  rw [Nat.mul_one, Nat.one_mul] at h
  have hp : 0 < (addN a b).2 := add_pos a2 b2
  have : (a.1 * b.2 + b.1 * a.2) * (addN a b).2 ≤ (a.2 * b.2) * (addN a b).2 := by
    unfold addN at h ⊢
    rw [← e, Nat.mul_comm (a.2 * b.2)]
    exact Nat.mul_le_mul_right _ h
  exact Nat.le_of_mul_le_mul_right this hp
theorem sum_le_one' {a b : Nat × Nat} (a2 : 0 < a.2) (b2 : 0 < b.2) (h : a.1 * b.2 + b.1 * a.2 ≤ a.2 * b.2) : leN (addN a b) (1, 1) := by
  have e := red_same (a.1 * b.2 + b.1 * a.2) (a.2 * b.2)
  unfold leN
  rw [Nat.mul_one, Nat.one_mul]
  have : (addN a b).1 * (a.2 * b.2) ≤ (addN a b).2 * (a.2 * b.2) := by
    unfold addN
    rw [e, Nat.mul_comm]
    exact Nat.mul_le_mul_left _ h
  exact Nat.le_of_mul_le_mul_right this (Nat.mul_pos a2 b2)

/-- What is below one, and not one, leaves something. -/
theorem lt_of_ne {a : Nat × Nat} (hc : Nat.Coprime a.1 a.2) (h : leN a (1, 1)) (hn : a ≠ (1, 1)) : a.1 < a.2 := by
  unfold leN at h
  rw [Nat.mul_one, Nat.one_mul] at h
  rcases Nat.lt_or_ge a.1 a.2 with h1 | h1
  · exact h1
  · exfalso
    have e : a.1 = a.2 := by omega
    have hg : Nat.gcd a.1 a.2 = 1 := hc
    rw [e, Nat.gcd_self] at hg
    exact hn (Prod.ext (by rw [e]; exact hg) hg)

/-- The factor. -/
theorem fac_facts {a b h : Nat × Nat} {na nc : Nat} (H : VB a b h na nc) (hs : leN (addN a b) (1, 1)) (hlt : a.1 < a.2) :
    b.1 * a.2 ≤ b.2 * (a.2 - a.1) ∧ 0 < b.2 * (a.2 - a.1) ∧ b.2 * (a.2 - a.1) ≤ 3200000 ∧ Sh (facN a b).1 (facN a b).2 ∧ (facN a b).1 ≤ (facN a b).2 ∧ (facN a b).2 ≤ 3200000 := by
  have k := sum_le_one H.a2 H.b2 hs
  have k1 : b.1 * a.2 ≤ b.2 * (a.2 - a.1) := by
    rw [Nat.mul_sub]
    have : b.2 * a.1 = a.1 * b.2 := Nat.mul_comm _ _
    have : b.2 * a.2 = a.2 * b.2 := Nat.mul_comm _ _
    omega
  have k2 : 0 < b.2 * (a.2 - a.1) := Nat.mul_pos H.b2 (by omega)
  have k3 : b.2 * (a.2 - a.1) ≤ 3200000 := by
    have h1 := Nat.le_of_dvd H.pa H.da
    have h2 := Nat.le_of_dvd H.pc H.db
    refine Nat.le_trans ?_ H.le
    rw [Nat.mul_comm na]
    exact Nat.mul_le_mul h2 (by omega)
  have d1 : (facN a b).2 ≤ 3200000 := Nat.le_trans (red_le_den _ _) k3
  have n1 : (facN a b).1 ≤ 3200000 := Nat.le_trans (red_le_num _ _) (by omega)
  refine ⟨k1, k2, k3, ⟨red_pos k2, by omega, by omega, red_cop k2⟩, ?_, d1⟩
  unfold facN redN
  exact Nat.div_le_div_right k1
theorem mul_fac {a b h : Nat × Nat} {na nc : Nat} (H : VB a b h na nc) (hs : leN (addN a b) (1, 1)) (hlt : a.1 < a.2) :
    mulN (facN a b) a = redN (b.1 * a.1) (b.2 * (a.2 - a.1)) := by
  obtain ⟨k1, k2, k3, k4, k5, k6⟩ := fac_facts H hs hlt
  unfold mulN
  refine red_eq (Nat.mul_pos k4.pos H.a2) k2 ?_
  have e := red_same (b.1 * a.2) (b.2 * (a.2 - a.1))
  unfold facN
  calc _ = ((redN (b.1 * a.2) (b.2 * (a.2 - a.1))).1 * (b.2 * (a.2 - a.1))) * a.1 := by ac_rfl
    _ = (b.1 * a.2 * (redN (b.1 * a.2) (b.2 * (a.2 - a.1))).2) * a.1 := by rw [e]
    _ = _ := by ac_rfl
theorem mul_facts {a b h : Nat × Nat} {na nc : Nat} (H : VB a b h na nc) (hs : leN (addN a b) (1, 1)) (hlt : a.1 < a.2) :
    (facN a b).1 * a.1 ≤ 10240000000000 ∧ 0 < (facN a b).2 * a.2 ∧ (facN a b).2 * a.2 ≤ 10240000000000 ∧ Sh (mulN (facN a b) a).1 (mulN (facN a b) a).2 ∧ (mulN (facN a b) a).1 ≤ 3200000 ∧ (mulN (facN a b) a).2 ≤ 3200000 := by
  obtain ⟨k1, k2, k3, k4, k5, k6⟩ := fac_facts H hs hlt
  have h1 : a.2 ≤ 3200000 := Nat.le_trans (Nat.le_of_dvd H.pa H.da) (Nat.le_trans (Nat.le_mul_of_pos_right _ H.pc) H.le)
  have m1 : (facN a b).1 * a.1 ≤ 3200000 * 3200000 := Nat.mul_le_mul (by omega) (by omega)
  have m2 : (facN a b).2 * a.2 ≤ 3200000 * 3200000 := Nat.mul_le_mul k6 h1
  have e := mul_fac H hs hlt
  have d1 : (mulN (facN a b) a).2 ≤ 3200000 := by rw [e]; exact Nat.le_trans (red_le_den _ _) k3
  have n0 : b.1 * a.1 ≤ b.1 * a.2 := Nat.mul_le_mul_left _ (by omega)
  have n1 : (mulN (facN a b) a).1 ≤ 3200000 := by rw [e]; exact Nat.le_trans (red_le_num _ _) (by omega)
  refine ⟨m1, Nat.mul_pos k4.pos H.a2, m2, ⟨?_, by omega, by omega, ?_⟩, n1, d1⟩
  · rw [e]; exact red_pos k2
  · rw [e]; exact red_cop k2
/-- The factor times a, and h together. -/
theorem mul_sum {a b h : Nat × Nat} {na nc : Nat} (H : VB a b h na nc) (hs : leN (addN a b) (1, 1)) (hlt : a.1 < a.2) :
    addB (mulN (facN a b) a) h = true ∧ Sh (addN (mulN (facN a b) a) h).1 (addN (mulN (facN a b) a) h).2 := by
  obtain ⟨k1, k2, k3, k4, k5, k6⟩ := fac_facts H hs hlt
  obtain ⟨m1, m2, m3, m4, m5, m6⟩ := mul_facts H hs hlt
  obtain ⟨u, hu⟩ := H.db
  obtain ⟨v, hv⟩ := H.dh
  obtain ⟨d, hd⟩ : ∃ d, nc * (a.2 - a.1) = d := ⟨_, rfl⟩
  have hd0 : 0 < d := by rw [← hd]; exact Nat.mul_pos H.pc (by omega)
  have hd1 : d ≤ 3200000 := by
    rw [← hd]
    refine Nat.le_trans ?_ H.le
    rw [Nat.mul_comm na]
    have := Nat.le_of_dvd H.pa H.da
    exact Nat.mul_le_mul_left _ (by omega)
  have hdu : d = b.2 * (a.2 - a.1) * u := by rw [← hd, hu]; ac_rfl
  have hdv : d = h.2 * (v * (a.2 - a.1)) := by rw [← hd, hv]; ac_rfl
  have e := mul_fac H hs hlt
  have hrep : (mulN (facN a b) a).1 * d = (b.1 * a.1 * u) * (mulN (facN a b) a).2 := by
    rw [e, hdu]
    have e2 := red_same (b.1 * a.1) (b.2 * (a.2 - a.1))
    calc _ = ((redN (b.1 * a.1) (b.2 * (a.2 - a.1))).1 * (b.2 * (a.2 - a.1))) * u := by ac_rfl
      _ = (b.1 * a.1 * (redN (b.1 * a.1) (b.2 * (a.2 - a.1))).2) * u := by rw [e2]
      _ = _ := by ac_rfl
  have e3 := add_rep m4.pos H.h2 hd0 hrep
  have e4 : redN (b.1 * a.1 * u * h.2 + h.1 * d) (d * h.2) = redN (b.1 * a.1 * u + h.1 * (v * (a.2 - a.1))) d := by
    refine red_eq (Nat.mul_pos hd0 H.h2) hd0 ?_
    have : h.1 * d = h.1 * (v * (a.2 - a.1)) * h.2 := by rw [hdv]; ac_rfl
    rw [this, ← Nat.add_mul]
    ac_rfl
  have n1 : b.1 * a.1 * u ≤ d := by
    rw [hdu]
    exact Nat.mul_le_mul_right _ (Nat.le_trans (Nat.mul_le_mul_left _ (by omega)) k1)
  have n2 : h.1 * (v * (a.2 - a.1)) ≤ 5 * d := by
    rw [hdv]
    exact Nat.le_trans (Nat.mul_le_mul_right _ H.h1) (Nat.le_of_eq (Nat.mul_assoc _ _ _))
  have s2 : (addN (mulN (facN a b) a) h).2 ≤ d := by rw [e3, e4]; exact red_le_den _ _
  have s1 : (addN (mulN (facN a b) a) h).1 ≤ b.1 * a.1 * u + h.1 * (v * (a.2 - a.1)) := by rw [e3, e4]; exact red_le_num _ _
  refine ⟨?_, ⟨add_pos m4.pos H.h2, by omega, by omega, add_cop m4.pos H.h2⟩⟩
  unfold addB
  simp
  omega

/-- The shares of a list of valid tasks are such. -/
def prodE (ts : List Tk) : Nat := ts.foldr (fun t n => t.ev.toNat * n) 1
theorem prodE_pos : ∀ {ts : List Tk}, (∀ t ∈ ts, t.ok = true) → 0 < prodE ts
  | [], _ => by decide
  | t :: ts, h => by
    obtain ⟨_, _, _, _⟩ := ok_nums (h t (by simp))
    exact Nat.mul_pos (by omega) (prodE_pos fun u hu => h u (List.mem_cons_of_mem _ hu))
theorem prodE_dvd : ∀ {ts : List Tk} {t : Tk}, t ∈ ts → t.ev.toNat ∣ prodE ts
  | [], _, h => by cases h
  | u :: ts, t, h => by
    rcases List.mem_cons.1 h with rfl | h
    · exact Nat.dvd_mul_right _ _
    · exact Nat.dvd_trans (prodE_dvd h) (Nat.dvd_mul_left _ _)
theorem prodE_le : ∀ {ts : List Tk}, (∀ t ∈ ts, t.ok = true) → prodE (ts.filter fun t => t.cr == false) * prodE (ts.filter fun t => t.cr == true) ≤ 20 ^ ts.length
  | [], _ => by decide
  | t :: ts, h => by
    obtain ⟨_, _, _, _⟩ := ok_nums (h t (by simp))
    have ih := prodE_le (ts := ts) fun u hu => h u (List.mem_cons_of_mem _ hu)
    have hev : t.ev.toNat ≤ 20 := by omega
    rw [List.length_cons, Nat.pow_succ, Nat.mul_comm (20 ^ ts.length)]
    cases hc : t.cr
    · simp only [List.filter_cons, hc]
      simp only [beq_self_eq_true, if_true]
      show t.ev.toNat * prodE (ts.filter fun t => t.cr == false) * prodE (ts.filter fun t => t.cr == true) ≤ _
      rw [Nat.mul_assoc]
      exact Nat.mul_le_mul hev ih
    · simp only [List.filter_cons, hc]
      simp only [beq_self_eq_true, if_true]
      show prodE (ts.filter fun t => t.cr == false) * (t.ev.toNat * prodE (ts.filter fun t => t.cr == true)) ≤ _
      rw [Nat.mul_left_comm]
      exact Nat.mul_le_mul hev ih
theorem sum_dvd {l : List Tk} {f : Tk → Nat} (h : ∀ t ∈ l, t.ok = true) : (sumN (l.map fun t => redN (f t) t.ev.toNat)).2 ∣ prodE l := by
  rw [sum_common (prodE_pos h)]
  · exact red_dvd _ _
  · intro x hx
    obtain ⟨t, ht, rfl⟩ := List.mem_map.1 hx
    obtain ⟨_, _, _, _⟩ := ok_nums (h t ht)
    exact ⟨red_pos (by omega), Nat.dvd_trans (red_dvd _ _) (prodE_dvd ht)⟩
theorem lowL_num {ts : List Tk} (c : Bool) (hl : ts.length ≤ 5) (h : ∀ t ∈ ts, t.ok = true) : (lowL ts c).1 ≤ 5 * (lowL ts c).2 := by
  obtain ⟨_, b2⟩ := sum_bound (parts_facts c h)
  refine Nat.le_trans b2 (Nat.mul_le_mul_right _ ?_)
  rw [List.length_map]; exact Nat.le_trans (List.length_filter_le _ _) hl
theorem vb_of {ts : List Tk} (h : setB ts = true) : VB (lowOf ts false) (lowOf ts true) (highOf ts) (prodE (ts.filter fun t => t.cr == false)) (prodE (ts.filter fun t => t.cr == true)) := by
  obtain ⟨hl, hok⟩ := setB_all h
  have e1 : ∀ c, lowOf ts c = lowL ts c := fun c => by unfold lowOf; rw [if_pos h]
  have e2 : highOf ts = lowL (critL ts) true := by unfold highOf; rw [if_pos h]
  have hf : ∀ c, ∀ t ∈ ts.filter (fun t => t.cr == c), t.ok = true := fun c t ht => hok t (List.mem_filter.1 ht).1
  refine ⟨?_, prodE_pos (hf false), prodE_pos (hf true), ?_, ?_, ?_, (lowOf_sh false h).1.pos, (lowOf_sh true h).1.pos, (highOf_sh h).1.pos, ?_, ?_, ?_⟩
  · exact Nat.le_trans (prodE_le hok) (Nat.le_trans (Nat.pow_le_pow_right (by decide) hl) (by decide))
  · rw [e1]; exact sum_dvd (hf false)
  · rw [e1]; exact sum_dvd (hf true)
  · rw [e2, crit_parts]; exact sum_dvd (f := fun t => t.hi.toNat) (hf true)
  · rw [e1]; exact lowL_num _ hl hok
  · rw [e1]; exact lowL_num _ hl hok
  · rw [e2]; exact lowL_num _ (Nat.le_trans (critL_len ts) hl) (crit_ok hok)
end

section
/- Virtual deadlines as plain data: when tasks hold, the factor, what it does to deadlines, the load. No program in this text. -/
def impB (ts : List Tk) : Bool := setB ts && ts.all fun t => decide (t.du = t.ev)
def plainV (ts : List Tk) : Bool := impB ts && leB (addN (lowOf ts false) (highOf ts)) (1, 1)
def facB (ts : List Tk) : Bool := impB ts && (plainV ts || (leB (addN (lowOf ts false) (lowOf ts true)) (1, 1) && !decide (lowOf ts false = (1, 1))))
def facV (ts : List Tk) : Nat × Nat := if facB ts then (if plainV ts then (1, 1) else facN (lowOf ts false) (lowOf ts true)) else (0, 0)
def virtV (ts : List Tk) : Bool := facB ts && (plainV ts || leB (addN (mulN (facV ts) (lowOf ts false)) (highOf ts)) (1, 1))
def atB (ts : List Tk) (at_ : Int) : Bool := decide (0 ≤ at_) && decide (at_ < (ts.length : Int))
def dueB (ts : List Tk) (at_ : Int) : Bool := facB ts && atB ts at_
def dueT (ts : List Tk) (t : Tk) : Nat × Nat := if t.cr then redN ((facV ts).1 * t.du.toNat) (facV ts).2 else (t.du.toNat, 1)
def dueV (ts : List Tk) (at_ : Int) : Nat × Nat := if dueB ts at_ then dueT ts (ts.getD at_.toNat ⟨0, 0, 0, 0, false⟩) else (0, 0)
def loadV (ts : List Tk) : Nat × Nat :=
  if setB ts then (if leB (highOf ts) (addN (lowOf ts false) (lowOf ts true)) then addN (lowOf ts false) (lowOf ts true) else highOf ts) else (0, 0)

theorem imp_set {ts : List Tk} (h : impB ts = true) : setB ts = true := by unfold impB at h; simp at h; exact h.1
theorem imp_all {ts : List Tk} (h : impB ts = true) : ∀ t ∈ ts, t.du = t.ev := by unfold impB at h; simp at h; exact h.2
theorem imp_of {ts : List Tk} (h : setB ts = true) (k : ∀ t ∈ ts, t.du = t.ev) : impB ts = true := by unfold impB; simp; exact ⟨h, k⟩
theorem plain_imp {ts : List Tk} (h : plainV ts = true) : impB ts = true := by unfold plainV at h; simp at h; exact h.1
theorem plain_le {ts : List Tk} (h : plainV ts = true) : leN (addN (lowOf ts false) (highOf ts)) (1, 1) := by unfold plainV at h; simp at h; exact leB_iff.1 h.2
theorem fac_imp {ts : List Tk} (h : facB ts = true) : impB ts = true := by unfold facB at h; simp at h; exact h.1
theorem fac_plain {ts : List Tk} (h : plainV ts = true) : facB ts = true := by unfold facB; rw [plain_imp h, h]; rfl
theorem facV_plain {ts : List Tk} (h : plainV ts = true) : facV ts = (1, 1) := by unfold facV; rw [fac_plain h, h]; rfl
theorem facV_no {ts : List Tk} (h : facB ts = false) : facV ts = (0, 0) := by unfold facV; rw [h]; rfl
theorem facV_some {ts : List Tk} (h : facB ts = true) (hp : plainV ts = false) : facV ts = facN (lowOf ts false) (lowOf ts true) := by unfold facV; rw [h, hp]; rfl
/-- Where tasks do not hold plainly, the two conditions. -/
theorem fac_two {ts : List Tk} (h : facB ts = true) (hp : plainV ts = false) : leN (addN (lowOf ts false) (lowOf ts true)) (1, 1) ∧ lowOf ts false ≠ (1, 1) := by
  unfold facB at h
  rw [hp] at h
  simp at h
  exact ⟨leB_iff.1 h.2.1, h.2.2⟩
theorem fac_lt {ts : List Tk} (h : facB ts = true) (hp : plainV ts = false) : (lowOf ts false).1 < (lowOf ts false).2 := by
  obtain ⟨h1, h2⟩ := fac_two h hp
  have hs := imp_set (fac_imp h)
  have V := vb_of hs
  exact lt_of_ne (lowOf_sh false hs).1.cop (le_trans' (add_pos V.a2 V.b2) (le_add V.a2 V.b2) h1) h2
theorem facV_sh {ts : List Tk} (h : facB ts = true) : Sh (facV ts).1 (facV ts).2 ∧ (facV ts).1 ≤ (facV ts).2 ∧ (facV ts).2 ≤ 3200000 := by
  cases hp : plainV ts
  · obtain ⟨h1, h2⟩ := fac_two h hp
    rw [facV_some h hp]
    have V := vb_of (imp_set (fac_imp h))
    obtain ⟨_, _, _, k4, k5, k6⟩ := fac_facts V h1 (fac_lt h hp)
    exact ⟨k4, k5, k6⟩
  · rw [facV_plain hp]
    exact ⟨one_sh, Nat.le_refl _, by decide⟩
theorem low_add {ts : List Tk} (h : setB ts = true) : addB (lowOf ts false) (lowOf ts true) = true ∧ Sh (addN (lowOf ts false) (lowOf ts true)).1 (addN (lowOf ts false) (lowOf ts true)).2 :=
  let V := (vb_of h).ab
  ⟨V.1, V.2.1⟩
theorem high_add {ts : List Tk} (h : setB ts = true) : addB (lowOf ts false) (highOf ts) = true ∧ Sh (addN (lowOf ts false) (highOf ts)).1 (addN (lowOf ts false) (highOf ts)).2 :=
  let V := (vb_of h).ah
  ⟨V.1, V.2.1⟩
theorem loadV_sh {ts : List Tk} (h : setB ts = true) : Sh (loadV ts).1 (loadV ts).2 := by
  unfold loadV
  rw [if_pos h]
  split
  · exact (low_add h).2
  · exact (highOf_sh h).1
theorem dueT_sh {ts : List Tk} {t : Tk} (h : facB ts = true) (ht : t ∈ ts) : Sh (dueT ts t).1 (dueT ts t).2 := by
  obtain ⟨f1, f2, f3⟩ := facV_sh h
  have hd := imp_all (fac_imp h) t ht
  obtain ⟨n1, n2, n3, n4⟩ := ok_nums (ok_of_set (imp_set (fac_imp h)) ht)
  unfold dueT
  split
  · refine sh_red ?_ f1.pos f1.den
    exact Nat.le_trans (Nat.mul_le_mul (Nat.le_trans f2 f3) (by omega : t.du.toNat ≤ 20)) (by decide)
  · refine ⟨Nat.le_refl 1, ?_, by dsimp only; omega, Nat.gcd_one_right _⟩
    show t.du.toNat ≤ _
    omega
end

section
/- Virtual deadlines: the numbers that the walks ask, packed. No program in this text. -/
theorem plain_pack {ts : List Tk} (h : setB ts = true) {p q u v : Nat} (hp : lowOf ts false = (p, q)) (hu : highOf ts = (u, v)) :
    ∃ (x y : Nat) (z : Int), Sh p q ∧ Sh u v ∧ Sh x y ∧ addN (p, q) (u, v) = (x, y) ∧ plusS p q u v = (x, y) ∧ plusB p q u v = true ∧ cmpS x y 1 1 = z ∧ leB (addN (lowOf ts false) (highOf ts)) (1, 1) = decide (z ≤ 0) := by
  have V := (vb_of h).ah
  have s1 := (lowOf_sh false h).1
  have s2 := (highOf_sh h).1
  rw [hp, hu] at V ⊢
  rw [hp] at s1
  rw [hu] at s2
  dsimp only at s1 s2
  obtain ⟨e1, e2⟩ := plus_sh s1 s2
  refine ⟨(addN (p, q) (u, v)).1, (addN (p, q) (u, v)).2, _, s1, s2, V.2.1, rfl, ?_, e1.trans V.1, rfl, ?_⟩
  · rw [e2, V.1]; rfl
  · have := cmp_sh V.2.1 one_sh
    rw [← cmp_leB]
    exact congrArg (fun z : Int => decide (z ≤ 0)) this.symm
theorem low_pack {ts : List Tk} (h : setB ts = true) {p q u v : Nat} (hp : lowOf ts false = (p, q)) (hu : lowOf ts true = (u, v)) :
    ∃ (x y : Nat) (z : Int), Sh p q ∧ Sh u v ∧ Sh x y ∧ addN (p, q) (u, v) = (x, y) ∧ plusS p q u v = (x, y) ∧ plusB p q u v = true ∧ cmpS x y 1 1 = z ∧ leB (addN (lowOf ts false) (lowOf ts true)) (1, 1) = decide (z ≤ 0) := by
  have V := (vb_of h).ab
  have s1 := (lowOf_sh false h).1
  have s2 := (lowOf_sh true h).1
  rw [hp, hu] at V ⊢
  rw [hp] at s1
  rw [hu] at s2
  dsimp only at s1 s2
  obtain ⟨e1, e2⟩ := plus_sh s1 s2
  refine ⟨(addN (p, q) (u, v)).1, (addN (p, q) (u, v)).2, _, s1, s2, V.2.1, rfl, ?_, e1.trans V.1, rfl, ?_⟩
  · rw [e2, V.1]; rfl
  · have := cmp_sh V.2.1 one_sh
    rw [← cmp_leB]
    exact congrArg (fun z : Int => decide (z ≤ 0)) this.symm
/-- Whether the others need all there is. -/
theorem one_pack {ts : List Tk} (h : setB ts = true) {p q : Nat} (hp : lowOf ts false = (p, q)) :
    ∃ z : Int, cmpS p q 1 1 = z ∧ decide (lowOf ts false = (1, 1)) = decide (z = 0) := by
  have s1 := (lowOf_sh false h).1
  rw [hp] at s1 ⊢
  refine ⟨_, rfl, ?_⟩
  rw [Bool.eq_iff_iff, decide_eq_true_iff, decide_eq_true_iff]
  have e : cmpS (p : Int) (q : Int) 1 1 = 0 ↔ p = 1 ∧ q = 1 := cmpS_zero (a := p) (b := q) (c := 1) (d := 1) s1 one_sh
  rw [e]
  exact ⟨fun x => by injection x with a b; exact ⟨a, b⟩, fun x => by rw [x.1, x.2]⟩
/-- The factor where tasks do not hold plainly. -/
theorem fac_pack {ts : List Tk} (h : facB ts = true) (hp : plainV ts = false) {p q u v : Nat} (ha : lowOf ts false = (p, q)) (hb : lowOf ts true = (u, v)) :
    ∃ (N D g X Y : Nat), u * q = N ∧ v * (q - p) = D ∧ p < q ∧ Nat.gcd D N = g ∧ 1 ≤ g ∧ N / g = X ∧ D / g = Y ∧ N ≤ 3200000 ∧ 1 ≤ D ∧ D ≤ 3200000 ∧ mkS X Y = (X, Y) ∧ mkB X Y = true ∧ facV ts = (X, Y) ∧ Sh X Y ∧ X ≤ 3200000 ∧ Y ≤ 3200000 := by
  obtain ⟨h1, h2⟩ := fac_two h hp
  have V := vb_of (imp_set (fac_imp h))
  have hlt := fac_lt h hp
  obtain ⟨k1, k2, k3, k4, k5, k6⟩ := fac_facts V h1 hlt
  have e0 := facV_some h hp
  rw [ha, hb] at k1 k2 k3 k4 k5 k6 e0
  rw [ha] at hlt
  dsimp only at k1 k2 k3 hlt
  have eX : (facN (p, q) (u, v)).1 = u * q / Nat.gcd (v * (q - p)) (u * q) := by unfold facN redN; rw [Nat.gcd_comm]
  have eY : (facN (p, q) (u, v)).2 = v * (q - p) / Nat.gcd (v * (q - p)) (u * q) := by unfold facN redN; rw [Nat.gcd_comm]
  rw [eX, eY] at k4 k5
  rw [eY] at k6
  have em : mkB ((u * q / Nat.gcd (v * (q - p)) (u * q) : Nat) : Int) ((v * (q - p) / Nat.gcd (v * (q - p)) (u * q) : Nat) : Int) = true := nat_mk k4.num k4.pos k4.den
  refine ⟨_, _, _, _, _, rfl, rfl, hlt, rfl, Nat.gcd_pos_of_pos_left _ k2, rfl, rfl, by omega, k2, k3, ?_, em, ?_, k4, by omega, k6⟩
  · rw [mkS_nat k4.num k4.pos k4.den]; exact sh_redN k4
  · rw [e0, ← eX, ← eY]
/-- The factor times what the others need, and the high needs, together. -/
theorem virt_pack {ts : List Tk} (h : facB ts = true) (hp : plainV ts = false) {p q X Y s t : Nat} (ha : lowOf ts false = (p, q)) (hf : facV ts = (X, Y)) (hh : highOf ts = (s, t)) :
    ∃ (N D g P Q x y : Nat) (z : Int), X * p = N ∧ Y * q = D ∧ Nat.gcd D N = g ∧ 1 ≤ g ∧ N / g = P ∧ D / g = Q ∧ N ≤ 10240000000000 ∧ 1 ≤ D ∧ D ≤ 10240000000000 ∧ mkS P Q = (P, Q) ∧ mkB P Q = true ∧ Sh P Q ∧ Sh s t ∧ P ≤ 3200000 ∧ Q ≤ 3200000 ∧ plusS P Q s t = (x, y) ∧ plusB P Q s t = true ∧ Sh x y ∧ cmpS x y 1 1 = z ∧ virtV ts = decide (z ≤ 0) ∧ mulN (X, Y) (p, q) = (P, Q) ∧ addN (P, Q) (s, t) = (x, y) := by
  obtain ⟨h1, h2⟩ := fac_two h hp
  have hs := imp_set (fac_imp h)
  have V := vb_of hs
  have hlt := fac_lt h hp
  obtain ⟨m1, m2, m3, m4, m5, m6⟩ := mul_facts V h1 hlt
  obtain ⟨a1, a2⟩ := mul_sum V h1 hlt
  have s2 := (highOf_sh hs).1
  have ev : virtV ts = leB (addN (mulN (facV ts) (lowOf ts false)) (highOf ts)) (1, 1) := by unfold virtV; rw [h, hp]; rfl
  rw [← facV_some h hp] at m1 m2 m3 m4 m5 m6 a1 a2
  rw [ha, hf] at m1 m2 m3 m4 m5 m6 a1 a2 ev
  rw [hh] at s2 a1 a2 ev
  dsimp only at m1 m2 m3 s2
  have eX : (mulN (X, Y) (p, q)).1 = X * p / Nat.gcd (Y * q) (X * p) := by unfold mulN redN; rw [Nat.gcd_comm]
  have eY : (mulN (X, Y) (p, q)).2 = Y * q / Nat.gcd (Y * q) (X * p) := by unfold mulN redN; rw [Nat.gcd_comm]
  have e : mulN (X, Y) (p, q) = (X * p / Nat.gcd (Y * q) (X * p), Y * q / Nat.gcd (Y * q) (X * p)) := Prod.ext eX eY
  rw [e] at m4 m5 m6 a1 a2 ev
  dsimp only at m4 m5 m6
  obtain ⟨f1, f2⟩ := plus_sh m4 s2
  refine ⟨_, _, _, _, _, _, _, _, rfl, rfl, rfl, Nat.gcd_pos_of_pos_left _ m2, rfl, rfl, m1, m2, m3, ?_, nat_mk m4.num m4.pos m4.den, m4, s2, m5, m6, ?_, f1.trans a1, a2, rfl, ?_, e, rfl⟩
  · rw [mkS_nat m4.num m4.pos m4.den]; exact sh_redN m4
  · rw [f2, a1]; rfl
  · rw [ev, ← cmp_leB]
    exact congrArg (fun z : Int => decide (z ≤ 0)) (cmp_sh a2 one_sh).symm
theorem load_pack {ts : List Tk} (h : setB ts = true) {x y u v : Nat} (hl : addN (lowOf ts false) (lowOf ts true) = (x, y)) (hu : highOf ts = (u, v)) :
    ∃ z : Int, cmpS x y u v = z ∧ loadV ts = if z < 0 then (u, v) else (x, y) := by
  have s1 := (low_add h).2
  have s2 := (highOf_sh h).1
  have hd : loadV ts = if leB (highOf ts) (addN (lowOf ts false) (lowOf ts true)) then addN (lowOf ts false) (lowOf ts true) else highOf ts := by unfold loadV; rw [if_pos h]
  rw [hl, hu] at hd
  rw [hl] at s1
  rw [hu] at s2
  refine ⟨_, rfl, ?_⟩
  have e : cmpS (x : Int) y u v = cmpN (x, y) (u, v) := cmp_sh s1 s2
  have e2 : leB (u, v) (x, y) = true ↔ ¬ cmpN (x, y) (u, v) < 0 := by
    rw [leB_iff, ← cmp_le, cmp_flip]; omega
  rw [hd, e]
  by_cases hz : cmpN (x, y) (u, v) < 0
  · rw [if_pos hz, if_neg (fun hh => e2.1 hh hz)]
  · rw [if_neg hz, if_pos (e2.2 hz)]
end

section
/- What the laws of virtual deadlines say, of plain data. No program in this text. -/
theorem le_add' {a b : Nat × Nat} (ha : 0 < a.2) (hb : 0 < b.2) : leN b (addN a b) := by rw [add_comm]; exact le_add hb ha
theorem red_self {d : Nat} (h : 0 < d) : redN d d = (1, 1) := by unfold redN; rw [Nat.gcd_self, Nat.div_self h]
theorem set_pos {ts : List Tk} (h : setB ts = true) : 0 < (lowOf ts false).2 ∧ 0 < (lowOf ts true).2 ∧ 0 < (highOf ts).2 :=
  let V := vb_of h
  ⟨V.a2, V.b2, V.h2⟩

/-- Tasks that hold: in the low mode, and in the high one. -/
theorem virt_both {ts : List Tk} (h : virtV ts = true) : impB ts = true ∧ leN (addN (lowOf ts false) (lowOf ts true)) (1, 1) ∧ leN (highOf ts) (1, 1) := by
  have hf : facB ts = true := by unfold virtV at h; simp at h; exact h.1
  have hi := fac_imp hf
  have hs := imp_set hi
  obtain ⟨a2, b2, h2⟩ := set_pos hs
  cases hp : plainV ts
  · obtain ⟨h1, _⟩ := fac_two hf hp
    refine ⟨hi, h1, ?_⟩
    have V := vb_of hs
    obtain ⟨_, m0, _, m4, _, _⟩ := mul_facts V h1 (fac_lt hf hp)
    unfold virtV at h
    rw [hf, hp, facV_some hf hp] at h
    simp at h
    exact le_trans' (add_pos m4.pos h2) (le_add' m4.pos h2) (leB_iff.1 h)
  · have h1 := plain_le hp
    exact ⟨hi, le_trans' (add_pos a2 h2) (add_mono a2 a2 b2 h2 (le_refl' _) (low_le_high hs)) h1, le_trans' (add_pos a2 h2) (le_add' a2 h2) h1⟩
theorem load_or (ts : List Tk) (h : setB ts = true) : loadV ts = addN (lowOf ts false) (lowOf ts true) ∨ loadV ts = highOf ts := by
  unfold loadV
  rw [if_pos h]
  split
  · exact .inl rfl
  · exact .inr rfl
theorem virt_load {ts : List Tk} (h : virtV ts = true) : leN (loadV ts) (1, 1) := by
  obtain ⟨hi, h1, h2⟩ := virt_both h
  rcases load_or ts (imp_set hi) with e | e
  · rw [e]; exact h1
  · rw [e]; exact h2
theorem le_total' (x y : Nat × Nat) : leN x y ∨ leN y x := by unfold leN; omega
theorem load_ge {ts : List Tk} (h : setB ts = true) : leN (addN (lowOf ts false) (lowOf ts true)) (loadV ts) ∧ leN (highOf ts) (loadV ts) := by
  unfold loadV
  rw [if_pos h]
  split
  · rename_i hb
    exact ⟨le_refl' _, leB_iff.1 hb⟩
  · rename_i hb
    refine ⟨?_, le_refl' _⟩
    rcases le_total' (addN (lowOf ts false) (lowOf ts true)) (highOf ts) with h1 | h1
    · exact h1
    · exact absurd (leB_iff.2 h1) hb
theorem virt_plain {ts : List Tk} (h : plainV ts = true) : virtV ts = true := by unfold virtV; rw [fac_plain h, h]; rfl
theorem virt_no {ts : List Tk} (h : facB ts = false) : virtV ts = false := by unfold virtV; rw [h]; rfl
theorem not_imp {ts : List Tk} (h : impB ts = false) : facB ts = false ∧ plainV ts = false ∧ virtV ts = false := by
  have hf : facB ts = false := by unfold facB; rw [h]; rfl
  exact ⟨hf, by unfold plainV; rw [h]; rfl, virt_no hf⟩

/-- The factor: where it is one, and what it is otherwise. -/
theorem fac_red {ts : List Tk} (h : facB ts = true) (hp : plainV ts = false) :
    (facV ts).1 * ((lowOf ts true).2 * ((lowOf ts false).2 - (lowOf ts false).1)) = (lowOf ts true).1 * (lowOf ts false).2 * (facV ts).2 := by
  rw [facV_some h hp]
  exact red_same _ _
theorem sum_one_iff {a b : Nat × Nat} (a2 : 0 < a.2) (b2 : 0 < b.2) : addN a b = (1, 1) ↔ a.1 * b.2 + b.1 * a.2 = a.2 * b.2 := by
  have e := red_same (a.1 * b.2 + b.1 * a.2) (a.2 * b.2)
  constructor
  · intro h
    unfold addN at h
    rw [h] at e
    simpa using e.symm
  · intro h
    unfold addN
    rw [h]
    exact red_self (Nat.mul_pos a2 b2)
theorem fac_one {ts : List Tk} (h : facB ts = true) : facV ts = (1, 1) ↔ (plainV ts = true ∨ addN (lowOf ts false) (lowOf ts true) = (1, 1)) := by
  have hs := imp_set (fac_imp h)
  obtain ⟨a2, b2, _⟩ := set_pos hs
  cases hp : plainV ts
  · have hlt := fac_lt h hp
    have e := fac_red h hp
    rw [sum_one_iff a2 b2]
    have eq : (lowOf ts true).2 * ((lowOf ts false).2 - (lowOf ts false).1) = (lowOf ts false).2 * (lowOf ts true).2 - (lowOf ts false).1 * (lowOf ts true).2 := by
      rw [Nat.mul_comm, Nat.sub_mul]
    have hle : (lowOf ts false).1 * (lowOf ts true).2 ≤ (lowOf ts false).2 * (lowOf ts true).2 := Nat.mul_le_mul_right _ (by omega)
    constructor
    · intro h1
      right
      rw [h1, eq] at e
      simp at e
      omega
    · intro h1
      rcases h1 with h1 | h1
      · cases h1
      · rw [facV_some h hp]
        unfold facN
        have : (lowOf ts true).1 * (lowOf ts false).2 = (lowOf ts true).2 * ((lowOf ts false).2 - (lowOf ts false).1) := by rw [eq]; omega
        rw [this]
        exact red_self (Nat.mul_pos b2 (by omega))
  · rw [facV_plain hp]
    simp
/-- The factor is at least the share of critical low needs. -/
theorem fac_low {ts : List Tk} (h : facB ts = true) : leN (lowOf ts true) (facV ts) := by
  have hs := imp_set (fac_imp h)
  obtain ⟨a2, b2, h2⟩ := set_pos hs
  cases hp : plainV ts
  · have hlt := fac_lt h hp
    have e := fac_red h hp
    unfold leN
    refine Nat.le_of_mul_le_mul_right ?_ (show 0 < (lowOf ts false).2 - (lowOf ts false).1 by omega)
    calc (lowOf ts true).1 * (facV ts).2 * ((lowOf ts false).2 - (lowOf ts false).1) ≤ (lowOf ts true).1 * (facV ts).2 * (lowOf ts false).2 := Nat.mul_le_mul_left _ (by omega)
      _ = (lowOf ts true).1 * (lowOf ts false).2 * (facV ts).2 := by ac_rfl
      _ = (facV ts).1 * ((lowOf ts true).2 * ((lowOf ts false).2 - (lowOf ts false).1)) := e.symm
      _ = (facV ts).1 * (lowOf ts true).2 * ((lowOf ts false).2 - (lowOf ts false).1) := by ac_rfl
  · rw [facV_plain hp]
    exact le_trans' h2 (low_le_high hs) (le_trans' (add_pos a2 h2) (le_add' a2 h2) (plain_le hp))
theorem fac_le {ts : List Tk} (h : facB ts = true) : leN (facV ts) (1, 1) := by
  have := (facV_sh h).2.1
  unfold leN
  omega
theorem fac_exact {ts : List Tk} (h : facB ts = true) (hn : (facV ts).1 ≠ (facV ts).2) :
    (facV ts).1 * ((lowOf ts false).2 - (lowOf ts false).1) * (lowOf ts true).2 = (lowOf ts true).1 * (lowOf ts false).2 * (facV ts).2 := by
  cases hp : plainV ts
  · rw [← fac_red h hp]; ac_rfl
  · rw [facV_plain hp] at hn; exact absurd rfl hn

/-- A critical task needs something, so the factor is no zero. -/
theorem fac_pos {ts : List Tk} (h : facB ts = true) {t : Tk} (ht : t ∈ ts) (hc : t.cr = true) : 0 < (facV ts).1 := by
  have hs := imp_set (fac_imp h)
  obtain ⟨_, hok⟩ := setB_all hs
  have hl := fac_low h
  have hd := (facV_sh h).1.pos
  have hb : 0 < (lowOf ts true).1 := by
    have e : lowOf ts true = sumN ((ts.filter fun t => t.cr == true).map part) := by unfold lowOf lowL; rw [if_pos hs]
    rw [e]
    have hz := sum_zero (xs := (ts.filter fun t => t.cr == true).map part) (fun x hx => by
      obtain ⟨u, hu, rfl⟩ := List.mem_map.1 hx
      obtain ⟨p1, _, _, p4⟩ := part_facts (hok u (List.mem_filter.1 hu).1)
      exact ⟨p4, p1⟩)
    have hne : ¬ (ts.filter fun t => t.cr == true).map part = [] := by
      intro e
      have : t ∈ ts.filter fun t => t.cr == true := List.mem_filter.2 ⟨ht, by simp [hc]⟩
      rw [List.map_eq_nil_iff.1 e] at this
      cases this
    exact Nat.pos_of_ne_zero fun e => hne (hz.1 e)
  unfold leN at hl
  rcases Nat.eq_zero_or_pos (facV ts).1 with h0 | h0
  · rw [h0, Nat.zero_mul] at hl
    exact absurd hl (Nat.not_le.2 (Nat.mul_pos hb hd))
  · exact h0
/-- Virtual deadlines are early, and keep their order. -/
theorem due_le {ts : List Tk} (h : facB ts = true) (t : Tk) : leN (dueT ts t) (t.du.toNat, 1) := by
  obtain ⟨f1, f2, _⟩ := facV_sh h
  unfold dueT leN
  split
  · have e := red_same ((facV ts).1 * t.du.toNat) (facV ts).2
    refine Nat.le_of_mul_le_mul_right ?_ f1.pos
    rw [Nat.mul_one, e]
    calc (facV ts).1 * t.du.toNat * (redN ((facV ts).1 * t.du.toNat) (facV ts).2).2 ≤ (facV ts).2 * t.du.toNat * (redN ((facV ts).1 * t.du.toNat) (facV ts).2).2 := Nat.mul_le_mul_right _ (Nat.mul_le_mul_right _ f2)
      _ = _ := by ac_rfl
  · exact Nat.le_refl _
theorem due_plain {ts : List Tk} {t : Tk} (hc : t.cr = false) : dueT ts t = (t.du.toNat, 1) := by unfold dueT; rw [hc]; rfl
theorem cmp_neg {x y : Nat × Nat} : cmpN x y < 0 ↔ x.1 * y.2 < y.1 * x.2 := by
  unfold cmpN
  split
  · simp; assumption
  · split <;> simp <;> omega
theorem red_lt {n m d : Nat} (hd : 0 < d) : (redN n d).1 * (redN m d).2 < (redN m d).1 * (redN n d).2 ↔ n < m := by
  have e1 := red_same n d
  have e2 := red_same m d
  have p1 := red_pos (n := n) hd
  have p2 := red_pos (n := m) hd
  have k : ∀ {x y : Nat}, x < y ↔ x * d < y * d := fun {x y} => (Nat.mul_lt_mul_right hd).symm
  rw [k]
  have a1 : (redN n d).1 * (redN m d).2 * d = n * ((redN n d).2 * (redN m d).2) := by
    calc _ = (redN n d).1 * d * (redN m d).2 := by ac_rfl
      _ = _ := by rw [e1, Nat.mul_assoc]
  have a2 : (redN m d).1 * (redN n d).2 * d = m * ((redN n d).2 * (redN m d).2) := by
    calc _ = (redN m d).1 * d * (redN n d).2 := by ac_rfl
      _ = m * ((redN m d).2 * (redN n d).2) := by rw [e2, Nat.mul_assoc]
      _ = _ := by rw [Nat.mul_comm (redN m d).2]
  rw [a1, a2, Nat.mul_lt_mul_right (Nat.mul_pos p1 p2)]
theorem due_order {ts : List Tk} (h : facB ts = true) {t u : Tk} (ht : t ∈ ts) (hu : u ∈ ts) (hc : t.cr = u.cr) : cmpN (dueT ts t) (dueT ts u) < 0 ↔ t.du < u.du := by
  obtain ⟨n1, n2, n3, n4⟩ := ok_nums (ok_of_set (imp_set (fac_imp h)) ht)
  obtain ⟨m1, m2, m3, m4⟩ := ok_nums (ok_of_set (imp_set (fac_imp h)) hu)
  have d1 := imp_all (fac_imp h) t ht
  have d2 := imp_all (fac_imp h) u hu
  rw [cmp_neg]
  cases hu' : u.cr
  · rw [due_plain (hc.trans hu'), due_plain hu']
    simp
    omega
  · have hx := fac_pos h hu hu'
    unfold dueT
    rw [hc, hu', if_pos rfl, if_pos rfl, red_lt (facV_sh h).1.pos, Nat.mul_lt_mul_left hx]
    omega

/-- The order of tasks does not matter. -/
theorem imp_perm {xs ys : List Tk} (hp : xs.Perm ys) : impB xs = impB ys := by
  unfold impB
  rw [setB_perm hp]
  congr 1
  rw [Bool.eq_iff_iff, List.all_eq_true, List.all_eq_true]
  exact ⟨fun h t ht => h t (hp.mem_iff.2 ht), fun h t ht => h t (hp.mem_iff.1 ht)⟩
theorem lowOf_perm {xs ys : List Tk} (hp : xs.Perm ys) (hs : setB xs = true) (c : Bool) : lowOf xs c = lowOf ys c := by
  unfold lowOf
  rw [hs, ← setB_perm hp, hs, if_pos rfl, if_pos rfl]
  exact low_perm c hp (setB_all hs).2
theorem highOf_perm {xs ys : List Tk} (hp : xs.Perm ys) (hs : setB xs = true) : highOf xs = highOf ys := by
  unfold highOf
  rw [hs, ← setB_perm hp, hs, if_pos rfl, if_pos rfl]
  exact low_perm true (crit_perm hp) (crit_ok (setB_all hs).2)
theorem virt_perm {xs ys : List Tk} (hp : xs.Perm ys) (hs : setB xs = true) : plainV xs = plainV ys ∧ facB xs = facB ys ∧ facV xs = facV ys ∧ virtV xs = virtV ys := by
  have e1 : plainV xs = plainV ys := by unfold plainV; rw [imp_perm hp, lowOf_perm hp hs, highOf_perm hp hs]
  have e2 : facB xs = facB ys := by unfold facB; rw [imp_perm hp, e1, lowOf_perm hp hs, lowOf_perm hp hs]
  have e3 : facV xs = facV ys := by unfold facV; rw [e2, e1, lowOf_perm hp hs, lowOf_perm hp hs]
  exact ⟨e1, e2, e3, by unfold virtV; rw [e2, e1, e3, lowOf_perm hp hs, highOf_perm hp hs]⟩

/-- Critical tasks alone. -/
theorem crit_low {ts : List Tk} (hs : setB ts = true) : lowOf (critL ts) false = (0, 1) := by
  have h1 := (crit_facts hs rfl).1
  have e : critOf ts = critL ts := by simp [critOf, hs]
  rw [e] at h1
  unfold lowOf
  rw [if_pos h1]
  unfold lowL
  have : (critL ts).filter (fun t => t.cr == false) = [] := by
    rw [List.filter_eq_nil_iff]
    intro t ht
    obtain ⟨u, _, hc, rfl⟩ := critL_mem ht
    simp [hc]
  rw [this]
  rfl
theorem crit_imp {ts : List Tk} (h : impB ts = true) : impB (critL ts) = true := by
  have hs := imp_set h
  have e : critOf ts = critL ts := by simp [critOf, hs]
  refine imp_of (by rw [← e]; exact (crit_facts hs rfl).1) fun t ht => ?_
  obtain ⟨u, hu, _, rfl⟩ := critL_mem ht
  exact imp_all h u hu
theorem crit_plain {ts : List Tk} (h : plainV ts = true) : plainV (critL ts) = true := by
  have hi := plain_imp h
  have hs := imp_set hi
  obtain ⟨a2, b2, h2⟩ := set_pos hs
  have e : critOf ts = critL ts := by simp [critOf, hs]
  obtain ⟨c1, c2, _, _⟩ := crit_facts hs rfl
  rw [e] at c1 c2
  have eh : highOf (critL ts) = highOf ts := by
    rw [← highOf_low c1 c2.symm]
    exact highOf_low hs e.symm
  unfold plainV
  rw [crit_imp hi, crit_low hs, eh, add_comm, add_zero (highOf_sh hs).1.cop]
  exact leB_iff.2 (le_trans' (add_pos a2 h2) (le_add' a2 h2) (plain_le h))

/-- All needs of critical tasks high. -/
def upL (ts : List Tk) : List Tk := ts.map fun t => ⟨t.hi, t.hi, t.du, t.ev, t.cr⟩
theorem upL_len (ts : List Tk) : (upL ts).length = ts.length := by unfold upL; rw [List.length_map]
theorem upL_set {ts : List Tk} (h : setB ts = true) : setB (upL ts) = true := by
  unfold setB at h ⊢
  simp at h ⊢
  refine ⟨by rw [upL_len]; exact h.1, fun t ht => ?_⟩
  unfold upL at ht
  obtain ⟨u, hu, rfl⟩ := List.mem_map.1 ht
  exact ok_crit (h.2 u hu)
theorem upL_low {ts : List Tk} (h : setB ts = true) : lowOf (upL ts) false = lowOf ts false := by
  unfold lowOf
  rw [if_pos h, if_pos (upL_set h)]
  unfold lowL
  congr 1
  have hok := (setB_all h).2
  clear h
  induction ts with
  | nil => rfl
  | cons t ts ih =>
    have ih := ih fun u hu => hok u (List.mem_cons_of_mem _ hu)
    have ht := hok t (by simp)
    unfold upL at ih ⊢
    rw [List.map_cons, List.filter_cons, List.filter_cons]
    cases hc : t.cr
    · have e : t.lo = t.hi := by
        unfold Tk.ok validB at ht
        simp [hc] at ht
        exact ht.2.2.2.2.2
      simp only [beq_self_eq_true, if_true, List.map_cons]
      rw [ih]
      congr 1
      unfold part
      rw [e]
    · simpa using ih
theorem upL_crit (ts : List Tk) : critL (upL ts) = critL ts := by
  unfold critL upL
  induction ts with
  | nil => rfl
  | cons t ts ih =>
    rw [List.map_cons, List.filter_cons, List.filter_cons]
    cases hc : t.cr
    · simpa using ih
    · simp only [if_true, List.map_cons]
      rw [ih, hc]
theorem upL_high {ts : List Tk} (h : setB ts = true) : highOf (upL ts) = highOf ts ∧ lowOf (upL ts) true = highOf ts := by
  have e1 : highOf (upL ts) = highOf ts := by unfold highOf; rw [if_pos h, if_pos (upL_set h), upL_crit]
  refine ⟨e1, ?_⟩
  unfold lowOf highOf
  rw [if_pos h, if_pos (upL_set h)]
  unfold lowL
  congr 1
  unfold critL upL
  clear h e1
  induction ts with
  | nil => rfl
  | cons t ts ih =>
    rw [List.map_cons, List.filter_cons, List.filter_cons]
    cases hc : t.cr
    · simpa using ih
    · simp only [beq_self_eq_true, if_true, List.map_cons, List.filter_cons, hc]
      rw [ih]
theorem upL_imp {ts : List Tk} (h : setB ts = true) : impB (upL ts) = impB ts := by
  unfold impB
  rw [h, upL_set h, Bool.true_and, Bool.true_and]
  unfold upL
  rw [List.all_map]
  rfl
theorem up_plain {ts : List Tk} (h : setB ts = true) : plainV (upL ts) = plainV ts ∧ virtV (upL ts) = plainV ts := by
  have e : plainV (upL ts) = plainV ts := by unfold plainV; rw [upL_imp h, upL_low h, (upL_high h).1]
  refine ⟨e, ?_⟩
  cases hp : plainV ts
  · refine virt_no ?_
    unfold facB
    rw [e, hp, upL_imp h, upL_low h, (upL_high h).2]
    unfold plainV at hp
    cases hi : impB ts
    · rfl
    · rw [hi, Bool.true_and] at hp
      rw [hp]
      rfl
  · exact virt_plain (e.trans hp)

/-- Parts. -/
theorem set_dropV {ts : List Tk} (k : Nat) (h : setB ts = true) : setB (ts.drop k) = true := by
  unfold setB at h ⊢; simp at h ⊢; exact ⟨by omega, fun t ht => h.2 t (List.mem_of_mem_drop ht)⟩
theorem set_takeV {ts : List Tk} (k : Nat) (h : setB ts = true) : setB (ts.take k) = true := by
  unfold setB at h ⊢; simp at h ⊢; exact ⟨by omega, fun t ht => h.2 t (List.mem_of_mem_take ht)⟩
theorem imp_drop {ts : List Tk} (k : Nat) (h : impB ts = true) : impB (ts.drop k) = true := imp_of (set_dropV k (imp_set h)) fun t ht => imp_all h t (List.mem_of_mem_drop ht)
theorem imp_take {ts : List Tk} (k : Nat) (h : impB ts = true) : impB (ts.take k) = true := imp_of (set_takeV k (imp_set h)) fun t ht => imp_all h t (List.mem_of_mem_take ht)
theorem load_drop {ts : List Tk} (k : Nat) (h : setB ts = true) : leN (loadV (ts.drop k)) (loadV ts) := by
  have hd := set_dropV k h
  have ht := set_takeV k h
  obtain ⟨a2, b2, h2⟩ := set_pos h
  obtain ⟨d1, d2, d3⟩ := set_pos hd
  obtain ⟨t1, t2, t3⟩ := set_pos ht
  have l1 : leN (lowOf (ts.drop k) false) (lowOf ts false) := by rw [low_parts false k h]; exact le_add' t1 d1
  have l2 : leN (lowOf (ts.drop k) true) (lowOf ts true) := by rw [low_parts true k h]; exact le_add' t2 d2
  have l3 : leN (highOf (ts.drop k)) (highOf ts) := by rw [high_parts k h]; exact le_add' t3 d3
  obtain ⟨g1, g2⟩ := load_ge h
  rcases load_or _ hd with e | e
  · rw [e]
    exact le_trans' (add_pos a2 b2) (add_mono d1 a2 d2 b2 l1 l2) g1
  · rw [e]
    exact le_trans' h2 l3 g2

/-- One task alone. -/
theorem one_plain {t : Tk} (h : impB [t] = true) : plainV [t] = true := by
  have hs := imp_set h
  have hok := (setB_all hs).2 t (by simp)
  obtain ⟨p1, p2, p3⟩ := low_one hok
  unfold plainV
  rw [h, Bool.true_and]
  refine leB_iff.2 ?_
  have e1 : lowOf [t] false = lowL [t] false := by unfold lowOf; rw [if_pos hs]
  have e2 : highOf [t] = lowL (critL [t]) true := by unfold highOf; rw [if_pos hs]
  cases hc : t.cr
  · rw [hc] at p1
    have e3 : highOf [t] = (0, 1) := by rw [e2]; unfold critL lowL; simp [hc]; rfl
    rw [e3, add_zero (lowOf_sh false hs).1.cop, e1, p1]
    exact p3
  · have e3 : lowOf [t] false = (0, 1) := by rw [e1]; unfold lowL; simp [hc]; rfl
    rw [e3, add_comm, add_zero (highOf_sh hs).1.cop, e2]
    exact high_one hok
theorem one_due {t : Tk} (h : impB [t] = true) : dueT [t] t = (t.du.toNat, 1) := by
  unfold dueT
  rw [facV_plain (one_plain h)]
  split
  · rw [Nat.one_mul]
    exact red_of_cop (Nat.gcd_one_right _)
  · rfl
end

section
/- Contracts of the greatest common divisors, in the program (64 bits) and in the reference, for numbers of 62 bits. -/
open Go.RowKit

def GcdOf (a b : Nat) (w : World) (e : Ending) (w' : World) : Prop := e = .returned (.int .i64 (Nat.gcd a b)) ∧ Below w.heap.size w w'

set_option maxHeartbeats 1000000 in
theorem iGcd_big (w : World) (a b : Nat) (ha : a ≤ 4611686018427387904) (hb : b ≤ 4611686018427387904) :
    Calls Tryd.prog 68 #[.int .i64 a, .int .i64 b] w (GcdOf a b w) := by
  go_enter Tryd.func68, Tryd.ntmps68
  go_wp2
  go_loopw [0, 1] (fun u v wr => ∃ x y : Nat, x ≤ 4611686018427387904 ∧ y ≤ 4611686018427387904 ∧ u = .int .i64 x ∧ v = .int .i64 y ∧ Hid (Nat.gcd x y = Nat.gcd a b) ∧ Below w.heap.size w wr) (fun _ v _ => (intOf v).toNat)
  case atStart => exact ⟨a, b, ha, hb, rfl, rfl, by show _ = _; rfl, Below.refl _ _⟩
  case round =>
    obtain ⟨x, y, hx, hy, rfl, rfl, hg, hbl⟩ := hrel
    have HB := Lib.hid hbl
    clear hbl
    by_cases h0 : y = 0
    · subst h0
      go_wp2
      go_ret
      exact ⟨by have h := hg.out; rw [Nat.gcd_zero_right] at h; rw [← h]; rfl, HB.out⟩
    · have h0' : ((y : Int) != 0) = true := by simp; omega
      have h1 : 1 ≤ y := by omega
      have hm : x % y < y := Nat.mod_lt _ (by omega)
      have HG : Hid (Nat.gcd y (x % y) = Nat.gcd a b) := by show _ = _; rw [← hg.out, Nat.gcd_comm y, ← Nat.gcd_rec, Nat.gcd_comm]
      clear h0
      go_wp2
      go_quiet (fail)
      go_wp2
      go_roundw
      case rel => exact ⟨y, x % y, hy, by omega, rfl, by go_num, HG, bl_drewN HB.out _⟩
      case measure => simp [intOf]; omega

set_option maxHeartbeats 1000000 in
theorem sGcd_big (w : World) (a b : Nat) (ha : a ≤ 4611686018427387904) (hb : b ≤ 4611686018427387904) :
    Calls Tryd.prog 58 #[.int .i64 a, .int .i64 b] w fun e w' => e = .returned (.int .i64 (Nat.gcd a b)) ∧ w' = w := by
  go_enter Tryd.func58, Tryd.ntmps58
  go_wp2
  go_loop [0, 1] (fun u v => ∃ x y : Nat, x ≤ 4611686018427387904 ∧ y ≤ 4611686018427387904 ∧ u = .int .i64 x ∧ v = .int .i64 y ∧ Hid (Nat.gcd x y = Nat.gcd a b)) (fun _ v => (intOf v).toNat)
  case atStart => exact ⟨a, b, ha, hb, rfl, rfl, by show _ = _; rfl⟩
  case round =>
    obtain ⟨x, y, hx, hy, rfl, rfl, hg⟩ := hrel
    by_cases h0 : y = 0
    · subst h0
      go_wp2
      go_ret
      exact ⟨by have h := hg.out; rw [Nat.gcd_zero_right] at h; rw [← h]; rfl, rfl⟩
    · have h0' : ((y : Int) != 0) = true := by simp; omega
      have h1 : 1 ≤ y := by omega
      have hm : x % y < y := Nat.mod_lt _ (by omega)
      have HG : Hid (Nat.gcd y (x % y) = Nat.gcd a b) := by show _ = _; rw [← hg.out, Nat.gcd_comm y, ← Nat.gcd_rec, Nat.gcd_comm]
      clear h0
      go_wp2
      go_round
      case rel => exact ⟨y, x % y, hy, by omega, rfl, by go_num, HG⟩
      case measure => simp [intOf]; omega
end

section
/- The variable errTooGreat, as the walks ask it; errors.Is asked whether an error is the variable's: the contracts of errors.Is for nil and for the error itself. -/
open Go.RowKit Go.Extern.Stop Go.Stop Go.Extern

/-- The variable holds the address a of an error. -/
def EG (w : World) (a : Addr) : Prop := w.cell? ⟨0, 0, none⟩ = some (.iface 105 (.pointer (some a)))
theorem EG.lt {w : World} {a : Addr} (h : EG w a) : 0 < w.heap.size := World.block_lt_of_cell? w _ h
theorem EG.below {w w' : World} {a : Addr} (h : EG w a) (hb : Below w.heap.size w w') : EG w' a := (hb.cell (p := ⟨0, 0, none⟩) h.lt).trans h

theorem EG.drewN {w : World} {a : Addr} (h : EG w a) (k : Nat) : EG (w.drewN k) a := h
theorem EG.drew {w : World} {a : Addr} (h : EG w a) : EG w.drew a := h
theorem EG.alloc {w : World} {a : Addr} (h : EG w a) (o : Obj) : EG (w.alloc o) a := (World.cell?_alloc_lt w o _ h.lt).trans h
theorem EG.set {w : World} {a : Addr} (h : EG w a) {p : Addr} (hp : 0 ≠ p.block) (u : Value) : EG (w.setCell p u) a :=
  (World.cell?_setCell_other w _ _ _ (fun e => hp (by rw [e]))).trans h

theorem isTypeOf (v : Value) (w : World) : (Extern.ReflectliteType.typeOf #[.iface 105 v]).run Tryd.prog w = .ok (.iface 94 (.agg #[.pointer (some ⟨1, 105, none⟩)])) w := by kernel_rfl
/-- What the model runs for Comparable. -/
def cmpF (t : TypeId) : Sem Value := do Extern.Rtype.noPackHeld "Comparable" t; pure (.bool (← typeInfo t).comparable)
theorem isComparable (w : World) : (Extern.ReflectliteType.method cmpF #[.agg #[.pointer (some ⟨1, 105, none⟩)]]).run Tryd.prog w = .ok (.bool true) w := by kernel_rfl
theorem isMethodComparable (v : Value) (w : World) : (Go.method 245 94 v "Comparable").run Tryd.prog w = .ok (111, v) w := by kernel_rfl
theorem isComp : (Tryd.prog.info? 105).map (·.comparable) = some true := by kernel_rfl
theorem isSize : (Tryd.prog.info? 132).map (·.size) = some 1 := by kernel_rfl

/-- errors.Is(x, x), x a pointer to an errors.errorString. -/
theorem is_same (a : Addr) (w : World) :
    Calls Tryd.prog 72 #[.iface 105 (.pointer (some a)), .iface 105 (.pointer (some a))] w fun e w' => e = .returned (.bool true) ∧ w' = w := by
  obtain ⟨i, hi, hcmp⟩ := Option.map_eq_some_iff.1 isComp
  obtain ⟨j, hj, hjs⟩ := Option.map_eq_some_iff.1 isSize
  have h8 := @run_callFunc_extern Tryd.prog 84 _ Extern.ReflectliteType.typeOf Tryd.func84 (by kernel_rfl) (by kernel_rfl) (by kernel_rfl) (by kernel_rfl)
  have h32 := @run_callFunc_extern Tryd.prog 111 _ (Extern.ReflectliteType.method cmpF) Tryd.func111 (by kernel_rfl) (by kernel_rfl) (by kernel_rfl) (by kernel_rfl)
  have tT := isTypeOf
  have cT := isComparable
  have mR := isMethodComparable
  have heq := run_eql_iface_ptr_same (P := Tryd.prog) w a Tryd.underlying65 Tryd.underlying105 hi hcmp hj
  go_enter Tryd.func72, Tryd.ntmps72
  go_wp2
  refine wp_loop_rounds 1 ?_
  rw [rounds_succ]
  go_wp2
  go_ret
  exact ⟨rfl, rfl⟩

/-- errors.Is(nil, x). -/
theorem is_nil (b : Addr) (w : World) :
    Calls Tryd.prog 72 #[.nilIface, .iface 105 (.pointer (some b))] w fun e w' => e = .returned (.bool false) ∧ w' = w := by
  have hn := run_eql_iface_nil_left (P := Tryd.prog) w 105 (.pointer (some b)) Tryd.underlying65
  go_enter Tryd.func72, Tryd.ntmps72
  go_wp2
  go_ret
  exact ⟨rfl, rfl⟩
end

section
/- Contracts of MakeShare and ShareValid, in the program and in the reference: the fraction in lowest terms; whether a share is in lowest terms. Nothing that was there is written. -/
open Go.RowKit

theorem div_cast (a g : Nat) : ((a : Int) / (g : Int)) = ((a / g : Nat) : Int) := by simp
theorem red_pair {a b p q : Nat} (h : redN a b = (p, q)) : a / Nat.gcd a b = p ∧ b / Nat.gcd a b = q := by
  unfold redN at h
  exact ⟨(Prod.mk.inj h).1, (Prod.mk.inj h).2⟩

/-- What making or adding returns. -/
def MkRes (p q : Nat) (b : Bool) (w : World) (e : Ending) (w' : World) : Prop :=
  e = .returned (.tuple #[.agg #[.int .i64 (p : Int), .int .i64 (q : Int)], .bool b]) ∧ Below w.heap.size w w'
def BoolRes (b : Bool) (w : World) (e : Ending) (w' : World) : Prop := e = .returned (.bool b) ∧ Below w.heap.size w w'

set_option maxHeartbeats 1000000 in
/-- inLowestTerms, where the numbers are not too great. -/
theorem lowest_fits (w : World) (s t : Int) (a b p q : Nat) (hs : s = (a : Int)) (ht : t = (b : Int)) (ha : a ≤ 4611686018427387904) (hb0 : 1 ≤ b) (hb : b ≤ 4611686018427387904) (hr : redN a b = (p, q)) (h1 : p ≤ 1000000000) (h2 : q ≤ 1000000000) :
    Calls Tryd.prog 50 #[.int .i64 s, .int .i64 t] w fun e w' =>
      e = .returned (.tuple #[.agg #[.int .i64 (p : Int), .int .i64 (q : Int)], .nilIface]) ∧ Below w.heap.size w w' := by
  subst hs ht
  have g1 : 1 ≤ Nat.gcd a b := Nat.gcd_pos_of_pos_right a hb0
  obtain ⟨hx, hy⟩ := red_pair hr
  have qx : ((a : Int) / ((Nat.gcd a b : Nat) : Int)) = (p : Int) := by rw [div_cast, hx]
  have qy : ((b : Int) / ((Nat.gcd a b : Nat) : Int)) = (q : Int) := by rw [div_cast, hy]
  have HC := Lib.hid (fun W : World => iGcd_big W a b ha hb)
  clear hx hy hr
  go_enter Tryd.func50, Tryd.ntmps50
  go_wp2_with fail
  refine (HC.out _).mono ?_
  rintro e w1 ⟨rfl, hb1⟩
  have HB := Lib.hid (bl_trans (bl_alloc (Below.refl _ w) _) hb1)
  have bR := (Blk.new w 51 #[.int .i64 0, .int .i64 0]).below hb1 (by simp)
  have cR := bR.cell
  have fR := bR.frozen
  clear hb1 HC
  generalize Nat.gcd a b = g at *
  go_wp2
  (try go_quiet (fail))
  (try go_wp2)
  refine bodyPost_ret (v := .tuple #[.agg #[.int .i64 (p : Int), .int .i64 (q : Int)], .nilIface]) (by simp [results, Tryd.results50, go_sem, cR]) rfl ⟨rfl, (by repeat (first | exact HB.out | refine bl_drewN ?_ _ | refine Below.drew ?_ | refine bl_alloc ?_ _ | refine bl_set ?_ (by dsimp only; omega) _))⟩

set_option maxHeartbeats 1000000 in
/-- inLowestTerms, where a number is too great. -/
theorem lowest_great (w : World) (e0 : Addr) (he : EG w e0) (s t : Int) (a b p q : Nat) (hs : s = (a : Int)) (ht : t = (b : Int)) (ha : a ≤ 4611686018427387904) (hb0 : 1 ≤ b) (hb : b ≤ 4611686018427387904) (hr : redN a b = (p, q)) (h1 : 1000000000 < p ∨ 1000000000 < q) :
    Calls Tryd.prog 50 #[.int .i64 s, .int .i64 t] w fun e w' =>
      e = .returned (.tuple #[.agg #[.int .i64 0, .int .i64 0], .iface 105 (.pointer (some e0))]) ∧ Below w.heap.size w w' := by
  subst hs ht
  have g1 : 1 ≤ Nat.gcd a b := Nat.gcd_pos_of_pos_right a hb0
  obtain ⟨hx, hy⟩ := red_pair hr
  have qx : ((a : Int) / ((Nat.gcd a b : Nat) : Int)) = (p : Int) := by rw [div_cast, hx]
  have qy : ((b : Int) / ((Nat.gcd a b : Nat) : Int)) = (q : Int) := by rw [div_cast, hy]
  have HC := Lib.hid (fun W : World => iGcd_big W a b ha hb)
  have HE := Lib.hid he
  have pb : p ≤ 4611686018427387904 := by rw [← hx]; exact Nat.le_trans (Nat.div_le_self _ _) ha
  have qb : q ≤ 4611686018427387904 := by rw [← hy]; exact Nat.le_trans (Nat.div_le_self _ _) hb
  clear hx hy hr he
  go_enter Tryd.func50, Tryd.ntmps50
  go_wp2_with fail
  refine (HC.out _).mono ?_
  rintro e w1 ⟨rfl, hb1⟩
  have HB := Lib.hid (bl_trans (bl_alloc (Below.refl _ w) _) hb1)
  have bR := (Blk.new w 51 #[.int .i64 0, .int .i64 0]).below hb1 (by simp)
  have cR := fun k => (bR.drewN k).cell
  have fR := fun k => (bR.drewN k).frozen
  have hE0 : EG w1 e0 := HE.out.below HB.out
  have hE := fun k : Nat => (show (w1.drewN k).cell? ⟨0, 0, none⟩ = some (.iface 105 (.pointer (some e0))) from hE0)
  clear hb1 HC
  generalize Nat.gcd a b = g at *
  have h0 : 0 ≠ w.heap.size := by have := HE.out.lt; omega
  have hE2 := fun (k : Nat) (u v : Value) => (EG.set (EG.set (EG.drewN hE0 k) (p := ⟨w.heap.size, 0, none⟩) h0 u) (p := ⟨w.heap.size, 1, none⟩) h0 v : EG (((w1.drewN k).setCell ⟨w.heap.size, 0, none⟩ u).setCell ⟨w.heap.size, 1, none⟩ v) e0)
  unfold EG at hE2
  by_cases h3 : 1000000000 < p
  · have h4 : 1000000000 < p := h3
    go_wp2
    go_quiet (fail)
    go_wp2
    go_region
    all_goals go_wp2
    all_goals refine bodyPost_ret (v := .tuple #[.agg #[.int .i64 0, .int .i64 0], .iface 105 (.pointer (some e0))]) (by simp [results, Tryd.results50, go_sem, cR]) rfl ⟨rfl, (by repeat (first | exact HB.out | refine bl_drewN ?_ _ | refine Below.drew ?_ | refine bl_alloc ?_ _ | refine bl_set ?_ (by dsimp only; omega) _))⟩
  · have h4 : 1000000000 < q := by omega
    go_wp2
    go_quiet (fail)
    go_wp2
    go_region
    all_goals go_wp2
    all_goals refine bodyPost_ret (v := .tuple #[.agg #[.int .i64 0, .int .i64 0], .iface 105 (.pointer (some e0))]) (by simp [results, Tryd.results50, go_sem, cR]) rfl ⟨rfl, (by repeat (first | exact HB.out | refine bl_drewN ?_ _ | refine Below.drew ?_ | refine bl_alloc ?_ _ | refine bl_set ?_ (by dsimp only; omega) _))⟩

set_option maxHeartbeats 1000000 in
theorem iMake_is (w : World) (n d : Int) (p q : Nat) (b : Bool) (hp : mkS n d = (p, q)) (hb : mkB n d = b) :
    Calls Tryd.prog 69 #[.int .i64 n, .int .i64 d] w (MkRes p q b w) := by
  cases b
  · rw [mkS_no hb] at hp
    obtain ⟨rfl, rfl⟩ := Prod.mk.inj hp
    clear hp
    rcases mk_no hb with h | h | h | h
    all_goals clear hb
    all_goals go_enter Tryd.func69, Tryd.ntmps69
    all_goals go_wp2
    all_goals refine bodyPost_ret (v := .tuple #[.agg #[.int .i64 0, .int .i64 0], .bool false]) (by simp [results, Tryd.results69, go_sem]) rfl ⟨rfl, by repeat (first | exact Below.refl _ _ | refine bl_alloc ?_ _ | refine bl_set ?_ (by dsimp only; omega) _)⟩
  · obtain ⟨a, c, rfl, rfl, h1, h2, h3⟩ := mk_nat hb
    rw [mkS_nat h1 h2 h3] at hp
    have hs := sh_red h1 h2 h3
    rw [hp] at hs
    obtain ⟨_, hp1, hp2, _⟩ := hs
    dsimp only at hp1 hp2
    have HC := Lib.hid (fun W : World => lowest_fits W a c a c p q rfl rfl (by omega) h2 (by omega) hp hp1 hp2)
    clear hb hp
    go_enter Tryd.func69, Tryd.ntmps69
    go_wp2_with fail
    refine (HC.out _).mono ?_
    rintro e w1 ⟨rfl, hb1⟩
    have HB := Lib.hid (bl_trans (bl_alloc (Below.refl _ w) _) hb1)
    have bR := (Blk.new w 51 #[.int .i64 0, .int .i64 0]).below hb1 (by simp)
    have cR := fun o => (bR.alloc o).cell
    have fR := fun o => (bR.alloc o).frozen
    clear hb1 HC
    go_wp2
    go_region
    all_goals go_wp2
    all_goals refine bodyPost_ret (v := .tuple #[.agg #[.int .i64 (p : Int), .int .i64 (q : Int)], .bool true]) (by simp [results, Tryd.results69, go_sem, cR]) rfl ⟨rfl, (by repeat (first | exact HB.out | refine bl_drewN ?_ _ | refine Below.drew ?_ | refine bl_alloc ?_ _ | refine bl_set ?_ (by dsimp only; omega) _))⟩

set_option maxHeartbeats 1000000 in
theorem sMake_is (w : World) (n d : Int) (p q : Nat) (b : Bool) (hp : mkS n d = (p, q)) (hb : mkB n d = b) :
    Calls Tryd.prog 59 #[.int .i64 n, .int .i64 d] w (MkRes p q b w) := by
  cases b
  · rw [mkS_no hb] at hp
    obtain ⟨rfl, rfl⟩ := Prod.mk.inj hp
    clear hp
    rcases mk_no hb with h | h | h | h
    all_goals clear hb
    all_goals go_enter Tryd.func59, Tryd.ntmps59
    all_goals go_wp2
    all_goals refine bodyPost_ret (v := .tuple #[.agg #[.int .i64 0, .int .i64 0], .bool false]) (by simp [results, Tryd.results59, go_sem]) rfl ⟨rfl, by repeat (first | exact Below.refl _ _ | refine bl_alloc ?_ _ | refine bl_set ?_ (by dsimp only; omega) _)⟩
  · obtain ⟨a, c, rfl, rfl, h1, h2, h3⟩ := mk_nat hb
    rw [mkS_nat h1 h2 h3] at hp
    obtain ⟨hx, hy⟩ := red_pair hp
    have g1 : 1 ≤ Nat.gcd a c := Nat.gcd_pos_of_pos_right a h2
    have qx : ((a : Int) / ((Nat.gcd a c : Nat) : Int)) = (p : Int) := by rw [div_cast, hx]
    have qy : ((c : Int) / ((Nat.gcd a c : Nat) : Int)) = (q : Int) := by rw [div_cast, hy]
    have pb : p ≤ 1000000000 := by rw [← hx]; exact Nat.le_trans (Nat.div_le_self _ _) h1
    have qb : q ≤ 1000000000 := by rw [← hy]; exact Nat.le_trans (Nat.div_le_self _ _) h3
    have HC := Lib.hid (fun W : World => (by rw [Nat.gcd_comm a c]; exact sGcd_big W c a (by omega) (by omega) : Calls Tryd.prog 58 #[.int .i64 c, .int .i64 a] W fun e w' => e = .returned (.int .i64 (Nat.gcd a c)) ∧ w' = W))
    clear hb hp hx hy
    go_enter Tryd.func59, Tryd.ntmps59
    go_wp2_with fail
    refine (HC.out _).mono ?_
    rintro e w1 ⟨rfl, rfl⟩
    clear HC
    generalize Nat.gcd a c = g at *
    have HB := Lib.hid (Below.refl w.heap.size w)
    go_wp2
    go_region
    all_goals go_wp2
    all_goals refine bodyPost_ret (v := .tuple #[.agg #[.int .i64 (p : Int), .int .i64 (q : Int)], .bool true]) (by simp [results, Tryd.results59, go_sem]) rfl ⟨rfl, (by repeat (first | exact HB.out | refine bl_drewN ?_ _ | refine Below.drew ?_ | refine bl_alloc ?_ _ | refine bl_set ?_ (by dsimp only; omega) _))⟩

set_option maxHeartbeats 1000000 in
theorem iShare_is (w : World) (n d : Int) (b : Bool) (h : shB n d = b) :
    Calls Tryd.prog 70 #[.agg #[.int .i64 n, .int .i64 d]] w (BoolRes b w) := by
  cases hm : mkB n d
  · obtain rfl : b = false := by rw [← h]; unfold shB; rw [hm]; rfl
    have HC := Lib.hid (fun W : World => iMake_is W n d 0 0 false (mkS_no hm) hm)
    clear h hm
    go_enter Tryd.func70, Tryd.ntmps70
    go_wp2_with fail
    refine (HC.out _).mono ?_
    rintro e w1 ⟨rfl, hb1⟩
    have HB := Lib.hid (bl_trans (bl_alloc (Below.refl _ w) _) hb1)
    have bS : Blk w1 w.heap.size 51 #[.int .i64 n, .int .i64 d] := (Blk.new w _ _).below hb1 (by simp)
    have cS := fun o => (bS.alloc o).cell
    clear hb1 HC
    go_wp2
    (try go_quiet (fail))
    (try go_wp2)
    go_ret
    exact ⟨rfl, (by repeat (first | exact HB.out | refine bl_drewN ?_ _ | refine Below.drew ?_ | refine bl_alloc ?_ _ | refine bl_set ?_ (by dsimp only; omega) _))⟩
  · obtain ⟨a, c, rfl, rfl, h1, h2, h3⟩ := mk_nat hm
    obtain ⟨p, q, hp⟩ : ∃ p q, mkS (a : Int) (c : Int) = (p, q) := ⟨_, _, rfl⟩
    have HC := Lib.hid (fun W : World => iMake_is W a c p q true hp hm)
    rw [mkS_nat h1 h2 h3] at hp
    obtain ⟨hx, hy⟩ := red_pair hp
    have hb : b = (Nat.gcd a c == 1) := by rw [← h]; unfold shB; rw [hm]; simp
    clear h hm hp
    go_enter Tryd.func70, Tryd.ntmps70
    go_wp2_with fail
    refine (HC.out _).mono ?_
    rintro e w1 ⟨rfl, hb1⟩
    have HB := Lib.hid (bl_trans (bl_alloc (Below.refl _ w) _) hb1)
    have bS : Blk w1 w.heap.size 51 #[.int .i64 (a : Int), .int .i64 (c : Int)] := (Blk.new w _ _).below hb1 (by simp)
    have cS := fun o => (bS.alloc o).cell
    clear hb1 HC
    by_cases hg : Nat.gcd a c = 1
    · rw [hg, Nat.div_one] at hx hy
      subst hx hy
      obtain rfl : b = true := by rw [hb, hg]; rfl
      clear hg hb
      go_wp2
      (try go_quiet (fail))
      (try go_wp2)
      go_ret
      exact ⟨rfl, (by repeat (first | exact HB.out | refine bl_drewN ?_ _ | refine Below.drew ?_ | refine bl_alloc ?_ _ | refine bl_set ?_ (by dsimp only; omega) _))⟩
    · obtain rfl : b = false := by rw [hb]; simp [hg]
      have hq : ¬ q = c := fun e => hg (gcd_one (by omega) (by rw [hy, e]))
      have hq' : ((q : Int) == (c : Int)) = false := by simp; omega
      have hq2 : ¬ (q : Int) = (c : Int) := by omega
      clear hx hy hg hb hq
      by_cases hpa : p = a
      · subst hpa
        go_wp2
        (try go_quiet (fail))
        (try go_wp2)
        go_ret
        exact ⟨rfl, (by repeat (first | exact HB.out | refine bl_drewN ?_ _ | refine Below.drew ?_ | refine bl_alloc ?_ _ | refine bl_set ?_ (by dsimp only; omega) _))⟩
      · have hp' : ((p : Int) == (a : Int)) = false := by simp; omega
        have hp2 : ¬ (p : Int) = (a : Int) := by omega
        clear hpa
        go_wp2
        (try go_quiet (fail))
        (try go_wp2)
        go_ret
        exact ⟨rfl, (by repeat (first | exact HB.out | refine bl_drewN ?_ _ | refine Below.drew ?_ | refine bl_alloc ?_ _ | refine bl_set ?_ (by dsimp only; omega) _))⟩

set_option maxHeartbeats 1000000 in
theorem sShare_is (w : World) (n d : Int) (b : Bool) (h : shB n d = b) :
    Calls Tryd.prog 77 #[.agg #[.int .i64 n, .int .i64 d]] w (BoolRes b w) := by
  cases hm : mkB n d
  · obtain rfl : b = false := by rw [← h]; unfold shB; rw [hm]; rfl
    have HC := Lib.hid (fun W : World => sMake_is W n d 0 0 false (mkS_no hm) hm)
    clear h hm
    go_enter Tryd.func77, Tryd.ntmps77
    go_wp2_with fail
    refine (HC.out _).mono ?_
    rintro e w1 ⟨rfl, hb1⟩
    have HB := Lib.hid (bl_trans (bl_alloc (Below.refl _ w) _) hb1)
    have bS : Blk w1 w.heap.size 51 #[.int .i64 n, .int .i64 d] := (Blk.new w _ _).below hb1 (by simp)
    have cS := fun o => (bS.alloc o).cell
    clear hb1 HC
    go_wp2
    (try go_quiet (fail))
    (try go_wp2)
    go_ret
    exact ⟨rfl, (by repeat (first | exact HB.out | refine bl_drewN ?_ _ | refine Below.drew ?_ | refine bl_alloc ?_ _ | refine bl_set ?_ (by dsimp only; omega) _))⟩
  · obtain ⟨a, c, rfl, rfl, h1, h2, h3⟩ := mk_nat hm
    obtain ⟨p, q, hp⟩ : ∃ p q, mkS (a : Int) (c : Int) = (p, q) := ⟨_, _, rfl⟩
    have HC := Lib.hid (fun W : World => sMake_is W a c p q true hp hm)
    rw [mkS_nat h1 h2 h3] at hp
    obtain ⟨hx, hy⟩ := red_pair hp
    have hb : b = (Nat.gcd a c == 1) := by rw [← h]; unfold shB; rw [hm]; simp
    clear h hm hp
    go_enter Tryd.func77, Tryd.ntmps77
    go_wp2_with fail
    refine (HC.out _).mono ?_
    rintro e w1 ⟨rfl, hb1⟩
    have HB := Lib.hid (bl_trans (bl_alloc (Below.refl _ w) _) hb1)
    have bS : Blk w1 w.heap.size 51 #[.int .i64 (a : Int), .int .i64 (c : Int)] := (Blk.new w _ _).below hb1 (by simp)
    have cS := fun o => (bS.alloc o).cell
    clear hb1 HC
    by_cases hg : Nat.gcd a c = 1
    · rw [hg, Nat.div_one] at hx hy
      subst hx hy
      obtain rfl : b = true := by rw [hb, hg]; rfl
      clear hg hb
      go_wp2
      (try go_quiet (fail))
      (try go_wp2)
      go_ret
      exact ⟨rfl, (by repeat (first | exact HB.out | refine bl_drewN ?_ _ | refine Below.drew ?_ | refine bl_alloc ?_ _ | refine bl_set ?_ (by dsimp only; omega) _))⟩
    · obtain rfl : b = false := by rw [hb]; simp [hg]
      have hq : ¬ q = c := fun e => hg (gcd_one (by omega) (by rw [hy, e]))
      have hq' : ((q : Int) == (c : Int)) = false := by simp; omega
      have hq2 : ¬ (q : Int) = (c : Int) := by omega
      clear hx hy hg hb hq
      by_cases hpa : p = a
      · subst hpa
        go_wp2
        (try go_quiet (fail))
        (try go_wp2)
        go_ret
        exact ⟨rfl, (by repeat (first | exact HB.out | refine bl_drewN ?_ _ | refine Below.drew ?_ | refine bl_alloc ?_ _ | refine bl_set ?_ (by dsimp only; omega) _))⟩
      · have hp' : ((p : Int) == (a : Int)) = false := by simp; omega
        have hp2 : ¬ (p : Int) = (a : Int) := by omega
        clear hpa
        go_wp2
        (try go_quiet (fail))
        (try go_wp2)
        go_ret
        exact ⟨rfl, (by repeat (first | exact HB.out | refine bl_drewN ?_ _ | refine Below.drew ?_ | refine bl_alloc ?_ _ | refine bl_set ?_ (by dsimp only; omega) _))⟩
end

section
/- Contracts of AddShares and CompareShares, in the program and in the reference. Nothing that was there is written. -/
open Go.RowKit
set_option linter.unusedVariables false

/-- Further calls from a world with more blocks and draws. -/
theorem bl_from {w W W' : World} (h : Below w.heap.size w W) (k : Below W.heap.size W W') : Below w.heap.size w W' := bl_trans h k
theorem Blk.drew {w : World} {g : Nat} {t : TypeId} {cs : Array Value} (h : Blk w g t cs) : Blk w.drew g t cs := h
def IntRes' (z : Int) (w : World) (e : Ending) (w' : World) : Prop := e = .returned (.int .i64 z) ∧ Below w.heap.size w w'
theorem mul_cast (a b c : Nat) (h : a * b = c) : ((a : Int) * (b : Int)) = (c : Int) := by rw [← h]; simp
theorem mul_le9 {a b c : Nat} (h : a * b = c) (ha : a ≤ 1000000000) (hb : b ≤ 1000000000) : c ≤ 1000000000000000000 := by
  rw [← h]
  exact Nat.le_trans (Nat.mul_le_mul ha hb) (by decide)

/-- The numerators over the product of the denominators. -/
theorem cross_is (w : World) (a b x y l r : Nat) (hl : a * y = l) (hr : x * b = r) (l1 : l ≤ 1000000000000000000) (r1 : r ≤ 1000000000000000000) (a1 : a ≤ 1000000000) (b1 : b ≤ 1000000000) (x1 : x ≤ 1000000000) (y1 : y ≤ 1000000000) :
    Calls Tryd.prog 71 #[.agg #[.int .i64 (a : Int), .int .i64 (b : Int)], .agg #[.int .i64 (x : Int), .int .i64 (y : Int)]] w fun e w' =>
      e = .returned (.tuple #[.int .i64 (l : Int), .int .i64 (r : Int)]) ∧ Below w.heap.size w w' := by
  have ql := mul_cast a y l hl
  have qr := mul_cast x b r hr
  clear hl hr
  have HB := Lib.hid (Below.refl w.heap.size w)
  go_enter Tryd.func71, Tryd.ntmps71
  go_wp2
  (try go_quiet (fail))
  (try go_wp2)
  refine bodyPost_ret (v := .tuple #[.int .i64 (l : Int), .int .i64 (r : Int)]) (by simp [results, Tryd.results71, go_sem]) rfl ⟨rfl, (by repeat (first | exact HB.out | refine bl_drewN ?_ _ | refine Below.drew ?_ | refine bl_alloc ?_ _ | refine bl_set ?_ (by dsimp only; omega) _))⟩

theorem cmp_if {a b x y l r : Nat} (h : Sh a b) (k : Sh x y) (hl : a * y = l) (hr : x * b = r) : cmpS a b x y = if (l : Int) < (r : Int) then -1 else if (r : Int) < (l : Int) then 1 else 0 := by
  rw [cmp_sh h k]
  unfold cmpN
  dsimp only
  rw [hl, hr]
  simp

theorem sCmp_is (w : World) (n d m e : Int) (z : Int) (h : cmpS n d m e = z) :
    Calls Tryd.prog 62 #[.agg #[.int .i64 n, .int .i64 d], .agg #[.int .i64 m, .int .i64 e]] w (IntRes' z w) := by
  cases ha : shB n d
  · obtain rfl : z = 0 := by rw [← h]; exact cmp_left m e ha
    clear h
    have HC := Lib.hid (fun W : World => sShare_is W n d false ha)
    clear ha
    go_enter Tryd.func62, Tryd.ntmps62
    go_wp2_with fail
    refine (HC.out _).mono ?_
    rintro e w1 ⟨rfl, hb1⟩
    have HB := Lib.hid (bl_trans (bl_alloc (bl_alloc (Below.refl _ w) _) _) hb1)
    clear hb1 HC
    go_wp2
    go_ret
    exact ⟨rfl, (by repeat (first | exact HB.out | refine bl_drewN ?_ _ | refine Below.drew ?_ | refine bl_alloc ?_ _ | refine bl_set ?_ (by dsimp only; omega) _))⟩
  cases hc : shB m e
  · obtain rfl : z = 0 := by rw [← h]; exact cmp_right n d hc
    clear h
    have HC := Lib.hid (fun W : World => sShare_is W n d true ha)
    have HD := Lib.hid (fun W : World => sShare_is W m e false hc)
    clear ha hc
    go_enter Tryd.func62, Tryd.ntmps62
    go_wp2_with fail
    refine (HC.out _).mono ?_
    rintro e0 w1 ⟨rfl, hb1⟩
    have HB1 := Lib.hid (bl_trans (bl_alloc (bl_alloc (Below.refl _ w) _) _) hb1)
    have hs1 := hb1.size
    simp at hs1
    have b1 := Lib.hid (((Blk.new w 51 #[.int .i64 n, .int .i64 d]).alloc (.cells #[.int .i64 m, .int .i64 e] 51)) |>.below hb1 (by simp; omega))
    have b2 := Lib.hid ((Blk.new (w.alloc (.cells #[.int .i64 n, .int .i64 d] 51)) 51 #[.int .i64 m, .int .i64 e]) |>.below hb1 (by simp))
    have c1 := b1.out.cell
    have c2 := b2.out.cell
    simp only [World.size_alloc] at c2
    clear hb1 HC
    go_wp2_with fail
    refine (HD.out _).mono ?_
    rintro e0 w2 ⟨rfl, hb2⟩
    have HB := Lib.hid (bl_trans HB1.out hb2)
    clear hb2 HD HB1
    go_wp2
    go_ret
    exact ⟨rfl, (by repeat (first | exact HB.out | refine bl_drewN ?_ _ | refine Below.drew ?_ | refine bl_alloc ?_ _ | refine bl_set ?_ (by dsimp only; omega) _))⟩
  obtain ⟨a, b, rfl, rfl, hA⟩ := sh_of ha
  obtain ⟨x, y, rfl, rfl, hX⟩ := sh_of hc
  have HC := Lib.hid (fun W : World => sShare_is W a b true ha)
  have HD := Lib.hid (fun W : World => sShare_is W x y true hc)
  obtain ⟨a0, a1, a2, a3⟩ := hA
  obtain ⟨x0, x1, x2, x3⟩ := hX
  have HA := Lib.hid (show Sh a b from ⟨a0, a1, a2, a3⟩)
  have HX := Lib.hid (show Sh x y from ⟨x0, x1, x2, x3⟩)
  clear ha hc a3 x3
  obtain ⟨l, hl⟩ : ∃ l, a * y = l := ⟨_, rfl⟩
  obtain ⟨r, hr⟩ : ∃ r, x * b = r := ⟨_, rfl⟩
  have l1 := mul_le9 hl a1 x2
  have r1 := mul_le9 hr x1 a2
  have hz : (l < r ∧ z = -1) ∨ (¬ l < r ∧ r < l ∧ z = 1) ∨ (¬ l < r ∧ ¬ r < l ∧ z = 0) := by
    have h0 := h.symm.trans (cmp_if HA.out HX.out hl hr)
    by_cases k1 : l < r
    · exact .inl ⟨k1, by rw [h0, if_pos (by omega)]⟩
    · by_cases k2 : r < l
      · exact .inr (.inl ⟨k1, k2, by rw [h0, if_neg (by omega), if_pos (by omega)]⟩)
      · exact .inr (.inr ⟨k1, k2, by rw [h0, if_neg (by omega), if_neg (by omega)]⟩)
  have ql := mul_cast a y l hl
  have qr := mul_cast x b r hr
  clear hl hr h
  rcases hz with ⟨k1, rfl⟩ | ⟨k1, k2, rfl⟩ | ⟨k1, k2, rfl⟩
  · have k1i : (l : Int) < (r : Int) := by omega
    go_enter Tryd.func62, Tryd.ntmps62
    go_wp2_with fail
    refine (HC.out _).mono ?_
    rintro e0 w1 ⟨rfl, hb1⟩
    have HB1 := Lib.hid (bl_trans (bl_alloc (bl_alloc (Below.refl _ w) _) _) hb1)
    have hs1 := hb1.size
    simp at hs1
    have b1 := Lib.hid (((Blk.new w 51 #[.int .i64 (a : Int), .int .i64 (b : Int)]).alloc (.cells #[.int .i64 (x : Int), .int .i64 (y : Int)] 51)) |>.below hb1 (by simp; omega))
    have b2 := Lib.hid ((Blk.new (w.alloc (.cells #[.int .i64 (a : Int), .int .i64 (b : Int)] 51)) 51 #[.int .i64 (x : Int), .int .i64 (y : Int)]) |>.below hb1 (by simp))
    have b2' : Hid (Blk w1 (w.heap.size + 1) 51 #[.int .i64 (x : Int), .int .i64 (y : Int)]) := by have h := b2.out; simp only [World.size_alloc] at h; exact h
    have c1 := b1.out.cell
    have c2 := b2'.out.cell
    clear hb1 HC b2
    go_wp2_with fail
    refine (HD.out _).mono ?_
    rintro e0 w2 ⟨rfl, hb2⟩
    have HB2 := Lib.hid (bl_trans HB1.out hb2)
    have hs2 := hb2.size
    have d1 := Lib.hid (b1.out.below hb2 (by omega))
    have d2 := Lib.hid (b2'.out.below hb2 (by omega))
    clear hb2 HD HB1 c1 c2 b1 b2'
    have c1 := d1.out.cell
    have c2 := d2.out.cell
    have HB := HB2
    go_wp2
    (try go_quiet (fail))
    (try go_wp2)
    go_ret
    exact ⟨rfl, (by repeat (first | exact HB.out | refine bl_drewN ?_ _ | refine Below.drew ?_ | refine bl_alloc ?_ _ | refine bl_set ?_ (by dsimp only; omega) _))⟩
  · have k1i : ¬ (l : Int) < (r : Int) := by omega
    have k2i : (r : Int) < (l : Int) := by omega
    go_enter Tryd.func62, Tryd.ntmps62
    go_wp2_with fail
    refine (HC.out _).mono ?_
    rintro e0 w1 ⟨rfl, hb1⟩
    have HB1 := Lib.hid (bl_trans (bl_alloc (bl_alloc (Below.refl _ w) _) _) hb1)
    have hs1 := hb1.size
    simp at hs1
    have b1 := Lib.hid (((Blk.new w 51 #[.int .i64 (a : Int), .int .i64 (b : Int)]).alloc (.cells #[.int .i64 (x : Int), .int .i64 (y : Int)] 51)) |>.below hb1 (by simp; omega))
    have b2 := Lib.hid ((Blk.new (w.alloc (.cells #[.int .i64 (a : Int), .int .i64 (b : Int)] 51)) 51 #[.int .i64 (x : Int), .int .i64 (y : Int)]) |>.below hb1 (by simp))
    have b2' : Hid (Blk w1 (w.heap.size + 1) 51 #[.int .i64 (x : Int), .int .i64 (y : Int)]) := by have h := b2.out; simp only [World.size_alloc] at h; exact h
    have c1 := b1.out.cell
    have c2 := b2'.out.cell
    clear hb1 HC b2
    go_wp2_with fail
    refine (HD.out _).mono ?_
    rintro e0 w2 ⟨rfl, hb2⟩
    have HB2 := Lib.hid (bl_trans HB1.out hb2)
    have hs2 := hb2.size
    have d1 := Lib.hid (b1.out.below hb2 (by omega))
    have d2 := Lib.hid (b2'.out.below hb2 (by omega))
    clear hb2 HD HB1 c1 c2 b1 b2'
    have c1 := d1.out.cell
    have c2 := d2.out.cell
    have HB := HB2
    go_wp2
    (try go_quiet (fail))
    (try go_wp2)
    go_ret
    exact ⟨rfl, (by repeat (first | exact HB.out | refine bl_drewN ?_ _ | refine Below.drew ?_ | refine bl_alloc ?_ _ | refine bl_set ?_ (by dsimp only; omega) _))⟩
  · have k1i : ¬ (l : Int) < (r : Int) := by omega
    have k2i : ¬ (r : Int) < (l : Int) := by omega
    go_enter Tryd.func62, Tryd.ntmps62
    go_wp2_with fail
    refine (HC.out _).mono ?_
    rintro e0 w1 ⟨rfl, hb1⟩
    have HB1 := Lib.hid (bl_trans (bl_alloc (bl_alloc (Below.refl _ w) _) _) hb1)
    have hs1 := hb1.size
    simp at hs1
    have b1 := Lib.hid (((Blk.new w 51 #[.int .i64 (a : Int), .int .i64 (b : Int)]).alloc (.cells #[.int .i64 (x : Int), .int .i64 (y : Int)] 51)) |>.below hb1 (by simp; omega))
    have b2 := Lib.hid ((Blk.new (w.alloc (.cells #[.int .i64 (a : Int), .int .i64 (b : Int)] 51)) 51 #[.int .i64 (x : Int), .int .i64 (y : Int)]) |>.below hb1 (by simp))
    have b2' : Hid (Blk w1 (w.heap.size + 1) 51 #[.int .i64 (x : Int), .int .i64 (y : Int)]) := by have h := b2.out; simp only [World.size_alloc] at h; exact h
    have c1 := b1.out.cell
    have c2 := b2'.out.cell
    clear hb1 HC b2
    go_wp2_with fail
    refine (HD.out _).mono ?_
    rintro e0 w2 ⟨rfl, hb2⟩
    have HB2 := Lib.hid (bl_trans HB1.out hb2)
    have hs2 := hb2.size
    have d1 := Lib.hid (b1.out.below hb2 (by omega))
    have d2 := Lib.hid (b2'.out.below hb2 (by omega))
    clear hb2 HD HB1 c1 c2 b1 b2'
    have c1 := d1.out.cell
    have c2 := d2.out.cell
    have HB := HB2
    go_wp2
    (try go_quiet (fail))
    (try go_wp2)
    go_ret
    exact ⟨rfl, (by repeat (first | exact HB.out | refine bl_drewN ?_ _ | refine Below.drew ?_ | refine bl_alloc ?_ _ | refine bl_set ?_ (by dsimp only; omega) _))⟩

theorem iAdd_is (w : World) (e0 : Addr) (he : EG w e0) (n d m e : Int) (p q : Nat) (c : Bool) (hp : plusS n d m e = (p, q)) (hb : plusB n d m e = c) :
    Calls Tryd.prog 52 #[.agg #[.int .i64 n, .int .i64 d], .agg #[.int .i64 m, .int .i64 e]] w (MkRes p q c w) := by
  have HE := Lib.hid he
  clear he
  cases ha : shB n d
  · have hpb : plusB n d m e = false := by unfold plusB; rw [ha]; rfl
    obtain rfl : c = false := by rw [← hb]; exact hpb
    rw [plus_no hpb] at hp
    obtain ⟨rfl, rfl⟩ := Prod.mk.inj hp
    clear hp hb hpb
    have HC := Lib.hid (fun W : World => iShare_is W n d false ha)
    clear ha
    go_enter Tryd.func52, Tryd.ntmps52
    go_wp2_with fail
    refine (HC.out _).mono ?_
    rintro e w1 ⟨rfl, hb1⟩
    have HB := Lib.hid (bl_trans (bl_alloc (bl_alloc (bl_alloc (Below.refl _ w) _) _) _) hb1)
    have bR := Lib.hid ((Blk.new ((w.alloc (.cells #[.int .i64 n, .int .i64 d] 51)).alloc (.cells #[.int .i64 m, .int .i64 e] 51)) 51 #[.int .i64 0, .int .i64 0]).below hb1 (by simp))
    have bR' : Hid (Blk w1 (w.heap.size + 1 + 1) 51 #[.int .i64 0, .int .i64 0]) := by have h := bR.out; simp only [World.size_alloc] at h; exact h
    clear bR
    have cR0 := bR'.out.cell
    have fR0 := bR'.out.frozen
    have cR := fun k => (bR'.out.drewN k).cell
    have fR := fun k => (bR'.out.drewN k).frozen
    clear hb1 HC
    go_wp2
    (try go_region)
    all_goals (try go_wp2)
    all_goals refine bodyPost_ret (v := .tuple #[.agg #[.int .i64 0, .int .i64 0], .bool false]) (by simp [results, Tryd.results52, go_sem, cR0]) rfl ⟨rfl, (by repeat (first | exact HB.out | refine bl_drewN ?_ _ | refine Below.drew ?_ | refine bl_alloc ?_ _ | refine bl_set ?_ (by dsimp only; omega) _))⟩
  cases hc : shB m e
  · have hpb : plusB n d m e = false := by unfold plusB; rw [hc]; simp
    obtain rfl : c = false := by rw [← hb]; exact hpb
    rw [plus_no hpb] at hp
    obtain ⟨rfl, rfl⟩ := Prod.mk.inj hp
    clear hp hb hpb
    have HC := Lib.hid (fun W : World => iShare_is W n d true ha)
    have HD := Lib.hid (fun W : World => iShare_is W m e false hc)
    clear ha hc
    go_enter Tryd.func52, Tryd.ntmps52
    go_wp2_with fail
    refine (HC.out _).mono ?_
    rintro e0 w1 ⟨rfl, hb1⟩
    have HB1 := Lib.hid (bl_trans (bl_alloc (bl_alloc (bl_alloc (Below.refl _ w) _) _) _) hb1)
    have hs1 := hb1.size
    simp at hs1
    have b1 := Lib.hid (((Blk.new w 51 #[.int .i64 n, .int .i64 d]).alloc (.cells #[.int .i64 m, .int .i64 e] 51)).alloc (.cells #[.int .i64 0, .int .i64 0] 51) |>.below hb1 (by simp; omega))
    have b2 := Lib.hid ((Blk.new (w.alloc (.cells #[.int .i64 n, .int .i64 d] 51)) 51 #[.int .i64 m, .int .i64 e]).alloc (.cells #[.int .i64 0, .int .i64 0] 51) |>.below hb1 (by simp))
    have c1 := b1.out.cell
    have c2 := b2.out.cell
    simp only [World.size_alloc] at c2
    have bR := Lib.hid ((Blk.new ((w.alloc (.cells #[.int .i64 n, .int .i64 d] 51)).alloc (.cells #[.int .i64 m, .int .i64 e] 51)) 51 #[.int .i64 0, .int .i64 0]).below hb1 (by simp))
    have bR' : Hid (Blk w1 (w.heap.size + 1 + 1) 51 #[.int .i64 0, .int .i64 0]) := by have h := bR.out; simp only [World.size_alloc] at h; exact h
    clear bR
    clear hb1 HC
    go_wp2_with fail
    refine (HD.out _).mono ?_
    rintro e0 w2 ⟨rfl, hb2⟩
    have HB := Lib.hid (bl_trans HB1.out hb2)
    have bR' := Lib.hid (bR'.out.below hb2 (by omega))
    have cR0 := bR'.out.cell
    have fR0 := bR'.out.frozen
    have cR := fun k => (bR'.out.drewN k).cell
    have fR := fun k => (bR'.out.drewN k).frozen
    clear hb2 HD HB1
    go_wp2
    (try go_region)
    all_goals (try go_wp2)
    all_goals refine bodyPost_ret (v := .tuple #[.agg #[.int .i64 0, .int .i64 0], .bool false]) (by simp [results, Tryd.results52, go_sem, cR0]) rfl ⟨rfl, (by repeat (first | exact HB.out | refine bl_drewN ?_ _ | refine Below.drew ?_ | refine bl_alloc ?_ _ | refine bl_set ?_ (by dsimp only; omega) _))⟩
  obtain ⟨a, b, rfl, rfl, hA⟩ := sh_of ha
  obtain ⟨x, y, rfl, rfl, hX⟩ := sh_of hc
  have HC := Lib.hid (fun W : World => iShare_is W a b true ha)
  have HD := Lib.hid (fun W : World => iShare_is W x y true hc)
  obtain ⟨a0, a1, a2, a3⟩ := hA
  obtain ⟨x0, x1, x2, x3⟩ := hX
  have HA := Lib.hid (show Sh a b from ⟨a0, a1, a2, a3⟩)
  have HX := Lib.hid (show Sh x y from ⟨x0, x1, x2, x3⟩)
  clear ha hc a3 x3
  obtain ⟨hq1, hq2⟩ := plus_sh HA.out HX.out
  rw [hq1] at hb
  rw [hq2] at hp
  obtain ⟨l, hl⟩ : ∃ l, a * y = l := ⟨_, rfl⟩
  obtain ⟨r, hr⟩ : ∃ r, x * b = r := ⟨_, rfl⟩
  obtain ⟨k, hk⟩ : ∃ k, b * y = k := ⟨_, rfl⟩
  have l1 := mul_le9 hl a1 x2
  have r1 := mul_le9 hr x1 a2
  have k1 := mul_le9 hk a2 x2
  have k0 : 1 ≤ k := by rw [← hk]; exact Nat.mul_pos a0 x0
  have HK := Lib.hid (fun W : World => cross_is W a b x y l r hl hr l1 r1 a1 a2 x1 x2)
  have hadd : addN (a, b) (x, y) = redN (l + r) k := by unfold addN; dsimp only; rw [hl, hr, hk]
  have qk := mul_cast b y k hk
  rw [hadd] at hp
  unfold addB at hb
  rw [hadd] at hb
  clear hl hr hk hq1 hq2
  obtain ⟨u, v, huv⟩ : ∃ u v, redN (l + r) k = (u, v) := ⟨_, _, rfl⟩
  have hzb : addB (a, b) (x, y) = (decide (u ≤ 1000000000) && decide (v ≤ 1000000000)) := by unfold addB; rw [hadd, huv]
  rw [huv] at hb hp
  rw [hzb] at hp
  dsimp only at hb hp
  by_cases hz : u ≤ 1000000000 ∧ v ≤ 1000000000
  · obtain rfl : c = true := by rw [← hb]; simp [hz]
    rw [show (decide (u ≤ 1000000000) && decide (v ≤ 1000000000)) = true by simp [hz]] at hp
    obtain ⟨rfl, rfl⟩ := Prod.mk.inj (show (u, v) = (p, q) from hp)
    obtain ⟨z1, z2⟩ := hz
    have HL := Lib.hid (fun (W : World) (s t : Int) (h1 : s = ((l + r : Nat) : Int)) (h2 : t = (k : Int)) => lowest_fits W s t (l + r) k u v h1 h2 (by omega) k0 (by omega) huv z1 z2)
    clear hp hb hzb hadd huv
    go_enter Tryd.func52, Tryd.ntmps52
    go_wp2_with fail
    refine (HC.out _).mono ?_
    rintro e0 w1 ⟨rfl, hb1⟩
    have HB1 := Lib.hid (bl_trans (bl_alloc (bl_alloc (bl_alloc (Below.refl _ w) _) _) _) hb1)
    have hs1 := hb1.size
    simp at hs1
    have b1 := Lib.hid (((Blk.new w 51 #[.int .i64 (a : Int), .int .i64 (b : Int)]).alloc (.cells #[.int .i64 (x : Int), .int .i64 (y : Int)] 51)).alloc (.cells #[.int .i64 0, .int .i64 0] 51) |>.below hb1 (by simp; omega))
    have b2 := Lib.hid ((Blk.new (w.alloc (.cells #[.int .i64 (a : Int), .int .i64 (b : Int)] 51)) 51 #[.int .i64 (x : Int), .int .i64 (y : Int)]).alloc (.cells #[.int .i64 0, .int .i64 0] 51) |>.below hb1 (by simp))
    have b2' : Hid (Blk w1 (w.heap.size + 1) 51 #[.int .i64 (x : Int), .int .i64 (y : Int)]) := by have h := b2.out; simp only [World.size_alloc] at h; exact h
    have c1 := b1.out.cell
    have c2 := b2'.out.cell
    have bR := Lib.hid ((Blk.new ((w.alloc (.cells #[.int .i64 (a : Int), .int .i64 (b : Int)] 51)).alloc (.cells #[.int .i64 (x : Int), .int .i64 (y : Int)] 51)) 51 #[.int .i64 0, .int .i64 0]).below hb1 (by simp))
    have bR' : Hid (Blk w1 (w.heap.size + 1 + 1) 51 #[.int .i64 0, .int .i64 0]) := by have h := bR.out; simp only [World.size_alloc] at h; exact h
    clear bR
    clear hb1 HC b2
    go_wp2_with fail
    refine (HD.out _).mono ?_
    rintro e0 w2 ⟨rfl, hb2⟩
    have HB2 := Lib.hid (bl_trans HB1.out hb2)
    have hs2 := hb2.size
    have d1 := Lib.hid (b1.out.below hb2 (by omega))
    have d2 := Lib.hid (b2'.out.below hb2 (by omega))
    have bR2 := Lib.hid (bR'.out.below hb2 (by omega))
    clear bR'
    clear hb2 HD HB1 c1 c2 b1 b2'
    have c1 := d1.out.cell
    have c2 := d2.out.cell
    go_wp2_with fail
    refine (HK.out _).mono ?_
    rintro e1 w3 ⟨rfl, hb3⟩
    have HB3 := Lib.hid (bl_trans HB2.out hb3)
    have hs3 := hb3.size
    have f1 := Lib.hid (d1.out.below hb3 (by omega))
    have f2 := Lib.hid (d2.out.below hb3 (by omega))
    have bR3 := Lib.hid (bR2.out.below hb3 (by omega))
    clear hb3 HK HB2 c1 c2 d1 d2 bR2
    have c1 := f1.out.cell
    have c2 := f2.out.cell
    go_wp2_with fail
    refine (HL.out _ _ _ (by first | rfl | (simp; done) | omega) (by first | rfl | exact qk | omega)).mono ?_
    rintro e1 w4 ⟨rfl, hb4⟩
    have HB4 := Lib.hid (bl_trans HB3.out hb4)
    have hE : EG w4 e0 := HE.out.below HB4.out
    unfold EG at hE
    have hs4 := hb4.size
    have bR' := Lib.hid (bR3.out.below hb4 (by omega))
    have hEo : ∀ o, EG (w4.alloc o) e0 := fun o => EG.alloc hE o
    unfold EG at hEo
    have cR0 := bR'.out.cell
    have fR0 := bR'.out.frozen
    have cRo := fun o => (bR'.out.alloc o).cell
    have fRo := fun o => (bR'.out.alloc o).frozen
    have hlR : w.heap.size + 1 + 1 < w4.heap.size := bR'.out.lt
    have cF := fun (s t : Value) o => (Blk.alloc ((bR'.out.set_ 0 s).set_ 1 t) o).cell
    clear hb4 HL HB3 c1 c2 f1 f2 bR3
    go_wp2_with fail
    refine (is_nil e0 _).mono ?_
    rintro e1 w5 ⟨rfl, rfl⟩
    have HB := HB4
    go_wp2
    (try go_region)
    all_goals (try go_wp2)
    all_goals refine bodyPost_ret (v := .tuple #[.agg #[.int .i64 (u : Int), .int .i64 (v : Int)], .bool true]) (by simp [results, Tryd.results52, go_sem, cF]) rfl ⟨rfl, (by repeat (first | exact HB.out | refine bl_drewN ?_ _ | refine Below.drew ?_ | refine bl_alloc ?_ _ | refine bl_set ?_ (by dsimp only; omega) _))⟩
  · obtain rfl : c = false := by rw [← hb]; simp; omega
    rw [show (decide (u ≤ 1000000000) && decide (v ≤ 1000000000)) = false by simp; omega] at hp
    obtain ⟨rfl, rfl⟩ := Prod.mk.inj (show (0, 0) = (p, q) from hp)
    have HL := Lib.hid (fun (W : World) (he : EG W e0) (s t : Int) (h1 : s = ((l + r : Nat) : Int)) (h2 : t = (k : Int)) => lowest_great W e0 he s t (l + r) k u v h1 h2 (by omega) k0 (by omega) huv (by omega))
    clear hp hb hzb hadd huv hz
    go_enter Tryd.func52, Tryd.ntmps52
    go_wp2_with fail
    refine (HC.out _).mono ?_
    rintro e0 w1 ⟨rfl, hb1⟩
    have HB1 := Lib.hid (bl_trans (bl_alloc (bl_alloc (bl_alloc (Below.refl _ w) _) _) _) hb1)
    have hs1 := hb1.size
    simp at hs1
    have b1 := Lib.hid (((Blk.new w 51 #[.int .i64 (a : Int), .int .i64 (b : Int)]).alloc (.cells #[.int .i64 (x : Int), .int .i64 (y : Int)] 51)).alloc (.cells #[.int .i64 0, .int .i64 0] 51) |>.below hb1 (by simp; omega))
    have b2 := Lib.hid ((Blk.new (w.alloc (.cells #[.int .i64 (a : Int), .int .i64 (b : Int)] 51)) 51 #[.int .i64 (x : Int), .int .i64 (y : Int)]).alloc (.cells #[.int .i64 0, .int .i64 0] 51) |>.below hb1 (by simp))
    have b2' : Hid (Blk w1 (w.heap.size + 1) 51 #[.int .i64 (x : Int), .int .i64 (y : Int)]) := by have h := b2.out; simp only [World.size_alloc] at h; exact h
    have c1 := b1.out.cell
    have c2 := b2'.out.cell
    have bR := Lib.hid ((Blk.new ((w.alloc (.cells #[.int .i64 (a : Int), .int .i64 (b : Int)] 51)).alloc (.cells #[.int .i64 (x : Int), .int .i64 (y : Int)] 51)) 51 #[.int .i64 0, .int .i64 0]).below hb1 (by simp))
    have bR' : Hid (Blk w1 (w.heap.size + 1 + 1) 51 #[.int .i64 0, .int .i64 0]) := by have h := bR.out; simp only [World.size_alloc] at h; exact h
    clear bR
    clear hb1 HC b2
    go_wp2_with fail
    refine (HD.out _).mono ?_
    rintro e0 w2 ⟨rfl, hb2⟩
    have HB2 := Lib.hid (bl_trans HB1.out hb2)
    have hs2 := hb2.size
    have d1 := Lib.hid (b1.out.below hb2 (by omega))
    have d2 := Lib.hid (b2'.out.below hb2 (by omega))
    have bR2 := Lib.hid (bR'.out.below hb2 (by omega))
    clear bR'
    clear hb2 HD HB1 c1 c2 b1 b2'
    have c1 := d1.out.cell
    have c2 := d2.out.cell
    go_wp2_with fail
    refine (HK.out _).mono ?_
    rintro e1 w3 ⟨rfl, hb3⟩
    have HB3 := Lib.hid (bl_trans HB2.out hb3)
    have hs3 := hb3.size
    have f1 := Lib.hid (d1.out.below hb3 (by omega))
    have f2 := Lib.hid (d2.out.below hb3 (by omega))
    have bR3 := Lib.hid (bR2.out.below hb3 (by omega))
    clear hb3 HK HB2 c1 c2 d1 d2 bR2
    have c1 := f1.out.cell
    have c2 := f2.out.cell
    go_wp2_with fail
    refine (HL.out _ (HE.out.below HB3.out) _ _ (by first | rfl | (simp; done) | omega) (by first | rfl | exact qk | omega)).mono ?_
    rintro e1 w4 ⟨rfl, hb4⟩
    have HB4 := Lib.hid (bl_trans HB3.out hb4)
    have hE : EG w4 e0 := HE.out.below HB4.out
    unfold EG at hE
    have hs4 := hb4.size
    have bR' := Lib.hid (bR3.out.below hb4 (by omega))
    have hEo : ∀ o, EG (w4.alloc o) e0 := fun o => EG.alloc hE o
    unfold EG at hEo
    have cR0 := bR'.out.cell
    have fR0 := bR'.out.frozen
    have cRo := fun o => (bR'.out.alloc o).cell
    have fRo := fun o => (bR'.out.alloc o).frozen
    have hlR : w.heap.size + 1 + 1 < w4.heap.size := bR'.out.lt
    have cF := fun (s t : Value) o => (Blk.alloc ((bR'.out.set_ 0 s).set_ 1 t) o).cell
    clear hb4 HL HB3 c1 c2 f1 f2 bR3
    go_wp2_with fail
    refine (is_same e0 _).mono ?_
    rintro e1 w5 ⟨rfl, rfl⟩
    have HB := HB4
    go_wp2
    (try go_region)
    all_goals (try go_wp2)
    all_goals refine bodyPost_ret (v := .tuple #[.agg #[.int .i64 0, .int .i64 0], .bool false]) (by simp [results, Tryd.results52, go_sem, cF]) rfl ⟨rfl, (by repeat (first | exact HB.out | refine bl_drewN ?_ _ | refine Below.drew ?_ | refine bl_alloc ?_ _ | refine bl_set ?_ (by dsimp only; omega) _))⟩
end

section
/- Contract of the reference's sum of two shares. Nothing that was there is written. -/
open Go.RowKit
set_option linter.unusedVariables false

set_option maxHeartbeats 1000000 in
theorem l2_is (w : World) (a b x y p q : Nat) (c : Bool) (hA : Sh a b) (hX : Sh x y) (hp : plusS a b x y = (p, q)) (hb : plusB a b x y = c) :
    Calls Tryd.prog 60 #[.agg #[.int .i64 (a : Int), .int .i64 (b : Int)], .agg #[.int .i64 (x : Int), .int .i64 (y : Int)]] w (MkRes p q c w) := by
  obtain ⟨hq1, hq2⟩ := plus_sh hA hX
  rw [hq1] at hb
  rw [hq2] at hp
  obtain ⟨g, hg⟩ : ∃ g, Nat.gcd b y = g := ⟨_, rfl⟩
  have g1 : 1 ≤ g := by rw [← hg]; exact Nat.gcd_pos_of_pos_left _ hA.pos
  obtain ⟨bg, hbg⟩ : ∃ k, b / g = k := ⟨_, rfl⟩
  obtain ⟨yg, hyg⟩ : ∃ k, y / g = k := ⟨_, rfl⟩
  have bg1 : bg ≤ 1000000000 := by rw [← hbg]; exact Nat.le_trans (Nat.div_le_self _ _) hA.den
  have yg1 : yg ≤ 1000000000 := by rw [← hyg]; exact Nat.le_trans (Nat.div_le_self _ _) hX.den
  have bg0 : 1 ≤ bg := by rw [← hbg, ← hg]; exact Nat.div_pos (Nat.le_of_dvd hA.pos (Nat.gcd_dvd_left b y)) (Nat.gcd_pos_of_pos_left _ hA.pos)
  obtain ⟨k, hk⟩ : ∃ k, bg * y = k := ⟨_, rfl⟩
  obtain ⟨l, hl⟩ : ∃ l, a * yg = l := ⟨_, rfl⟩
  obtain ⟨r, hr⟩ : ∃ r, x * bg = r := ⟨_, rfl⟩
  have k1 := mul_le9 hk bg1 hX.den
  have l1 := mul_le9 hl hA.num yg1
  have r1 := mul_le9 hr hX.num bg1
  have k0 : 1 ≤ k := by rw [← hk]; exact Nat.mul_pos bg0 hX.pos
  have hadd : addN (a, b) (x, y) = redN (l + r) k := by
    have := add_ref (a := (a, b)) (b := (x, y)) hA.pos hX.pos
    dsimp only at this
    rw [hg, hbg, hyg, hk, hl, hr] at this
    exact this.symm
  obtain ⟨h, hh⟩ : ∃ h, Nat.gcd (l + r) k = h := ⟨_, rfl⟩
  have h1 : 1 ≤ h := by rw [← hh]; exact Nat.gcd_pos_of_pos_right _ k0
  obtain ⟨u, v, huv⟩ : ∃ u v, redN (l + r) k = (u, v) := ⟨_, _, rfl⟩
  obtain ⟨hu, hv⟩ := red_pair huv
  rw [hh] at hu hv
  have hv0 : 0 < v := by have := red_pos (n := l + r) (d := k) k0; rw [huv] at this; exact this
  have hcop : Nat.gcd u v = 1 := by have := red_cop (n := l + r) (d := k) k0; rw [huv] at this; exact this
  have hzb : addB (a, b) (x, y) = (decide (u ≤ 1000000000) && decide (v ≤ 1000000000)) := by unfold addB; rw [hadd, huv]
  have hmb : mkB (u : Int) (v : Int) = c := by
    rw [← hb, hzb]
    unfold mkB
    have e1 : decide ((0 : Int) ≤ (u : Int)) = true := by simp
    have e2 : decide ((1 : Int) ≤ (v : Int)) = true := by simp; omega
    rw [e1, e2, Bool.true_and, Bool.true_and]
    congr 1 <;> (apply decide_eq_decide.2; omega)
  have hms : mkS (u : Int) (v : Int) = (p, q) := by
    rw [← hp, hb]
    cases c
    · exact mkS_no hmb
    · unfold mkS
      rw [hmb]
      show redN (Int.toNat u) (Int.toNat v) = if true = true then _ else _
      rw [if_pos rfl, hadd, huv, Int.toNat_natCast, Int.toNat_natCast]
      exact red_of_cop hcop
  have qbg : ((b : Int) / (g : Int)) = (bg : Int) := by rw [div_cast, hbg]
  have qyg : ((y : Int) / (g : Int)) = (yg : Int) := by rw [div_cast, hyg]
  have qk := mul_cast bg y k hk
  have ql := mul_cast a yg l hl
  have qr := mul_cast x bg r hr
  have qu : (((l : Int) + (r : Int)) / (h : Int)) = (u : Int) := by rw [← hu]; simp
  have qv : ((k : Int) / (h : Int)) = (v : Int) := by rw [div_cast, hv]
  have u1 : u ≤ 2000000000000000000 := by rw [← hu]; exact Nat.le_trans (Nat.div_le_self _ _) (by omega)
  have v1 : v ≤ 1000000000000000000 := by rw [← hv]; exact Nat.le_trans (Nat.div_le_self _ _) k1
  have kv : IntKind.i64.wrap (v : Int) = (v : Int) := IntWalk.i64_in _ (by omega)
  have ku : IntKind.i64.wrap (u : Int) = (u : Int) := IntWalk.i64_in _ (by clear kv; omega)
  have hnn : 0 ≤ (l : Int) + (r : Int) := by omega
  have qt : Int.tdiv ((l : Int) + (r : Int)) (h : Int) = (u : Int) := by rw [Int.tdiv_eq_ediv_of_nonneg hnn]; exact qu
  have hz1 : ¬ (h : Int) = 0 := by omega
  have hz2 : ((h : Int) == 0) = false := by simp; omega
  have HG1 := Lib.hid (fun W : World => (by rw [← hg]; exact sGcd_big W b y (by have := hA.den; omega) (by have := hX.den; omega) : Calls Tryd.prog 58 #[.int .i64 b, .int .i64 y] W fun e w' => e = .returned (.int .i64 g) ∧ w' = W))
  have HG2 := Lib.hid (fun (W : World) (s t : Int) (h1 : s = (k : Int)) (h2 : t = ((l + r : Nat) : Int)) => (by subst h1 h2; rw [← hh, Nat.gcd_comm]; exact (sGcd_big W k (l + r) (by omega) (by omega)).mono (fun e w' hh => ⟨hh.1, by rw [hh.2]; exact Below.refl _ _⟩) : Calls Tryd.prog 58 #[.int .i64 s, .int .i64 t] W fun e w' => e = .returned (.int .i64 h) ∧ Below W.heap.size W w'))
  have HM := Lib.hid (fun W : World => sMake_is W u v p q c hms hmb)
  obtain ⟨a0, a1, a2, _⟩ := hA
  obtain ⟨x0, x1, x2, _⟩ := hX
  have bR0 : Hid (Blk (((w.alloc (.cells #[.int .i64 (a : Int), .int .i64 (b : Int)] 51)).alloc (.cells #[.int .i64 (x : Int), .int .i64 (y : Int)] 51)).alloc (.cells #[.int .i64 0, .int .i64 0] 51)) (w.heap.size + 1 + 1) 51 #[.int .i64 0, .int .i64 0]) := by
    have h := Blk.new ((w.alloc (.cells #[.int .i64 (a : Int), .int .i64 (b : Int)] 51)).alloc (.cells #[.int .i64 (x : Int), .int .i64 (y : Int)] 51)) 51 #[.int .i64 0, .int .i64 0]
    simp only [World.size_alloc] at h
    exact h
  clear hms hmb hzb hcop hu hv huv hadd hh hk hl hr hbg hyg hg hp hb hq1 hq2
  go_enter Tryd.func60, Tryd.ntmps60
  go_wp2_with fail
  refine (HG1.out _).mono ?_
  rintro e w1 ⟨rfl, rfl⟩
  clear HG1
  go_wp2
  go_quiet (fail)
  go_wp2
  go_quiet (fail)
  go_wp2_with fail
  refine (HG2.out _ _ _ (by first | rfl | (simp; done) | omega) (by first | rfl | (simp; done) | omega)).mono ?_
  rintro e w3 ⟨rfl, hb3⟩
  have HB3 := Lib.hid (show Below w.heap.size w w3 from bl_from (by repeat (first | exact Below.refl w.heap.size w | refine bl_drewN ?_ _ | refine Below.drew ?_ | refine bl_alloc ?_ _)) hb3)
  have bR3 := Lib.hid (Blk.below (by exact bR0.out) hb3 (by exact bR0.out.lt))
  clear HG2 hb3 bR0
  go_wp2
  go_region_with (go_at_call 59; refine (HM.out _).mono ?_; rintro e w2 ⟨rfl, hb⟩; have hb3' : Below w3.heap.size w3 w2 := ⟨hb.os, hb.tape, hb.output, hb.size, hb.block⟩; have HB2 := Lib.hid (bl_trans HB3.out hb3'); have bR := bR3.out.below hb3' bR3.out.lt; have cR := bR.cell; have fR := bR.frozen; clear hb hb3' bR)
  all_goals go_wp2
  all_goals refine bodyPost_ret (v := .tuple #[.agg #[.int .i64 (p : Int), .int .i64 (q : Int)], .bool c]) (by simp [results, Tryd.results60, go_sem, cR]) rfl ⟨rfl, (by repeat (first | exact HB2.out | refine bl_drewN ?_ _ | refine Below.drew ?_ | refine bl_alloc ?_ _ | refine bl_set ?_ (by dsimp only; omega) _))⟩
end

section
/- Contract of the reference's AddShares. Nothing that was there is written. -/
open Go.RowKit
set_option linter.unusedVariables false
end

section
/- Contracts of LowShare and HighShare, in the program and in the reference: both return the sum of the shares of the tasks. Nothing that was there is written. -/
open Go.RowKit
set_option linter.unusedVariables false

def ShRes (p q : Nat) (w : World) (e : Ending) (w' : World) : Prop := e = .returned (.agg #[.int .i64 (p : Int), .int .i64 (q : Int)]) ∧ Below w.heap.size w w'

set_option maxHeartbeats 1000000 in
theorem plus2_is (w : World) (e0 : Addr) (he : EG w e0) (u v x y p q : Nat) (hp : plusS u v x y = (p, q)) (hpb : plusB u v x y = true) :
    Calls Tryd.prog 35 #[.agg #[.int .i64 (u : Int), .int .i64 (v : Int)], .agg #[.int .i64 (x : Int), .int .i64 (y : Int)]] w (ShRes p q w) := by
  have HE := Lib.hid he
  have HP := Lib.hid (And.intro hp hpb)
  clear hp hpb he
  go_enter Tryd.func35, Tryd.ntmps35
  go_wp2_with fail
  (try (go_quiet (fail); go_wp2_with fail))
  refine (iAdd_is _ e0 (by repeat (first | exact HE.out | refine EG.drewN ?_ _ | refine EG.drew ?_ | refine EG.alloc ?_ _)) u v x y p q true HP.out.1 HP.out.2).mono ?_
  rintro e w2 ⟨rfl, hb⟩
  have HB2 := Lib.hid (show Below w.heap.size w w2 from bl_trans (by repeat (first | exact Below.refl w.heap.size w | refine bl_drewN ?_ _ | refine Below.drew ?_ | refine bl_alloc ?_ _)) hb)
  have bR2 := Lib.hid (show Blk w2 (w.heap.size + 1 + 1) 51 #[.int .i64 0, .int .i64 0] from Blk.below (by have h := Blk.new ((w.alloc (.cells #[.int .i64 (u : Int), .int .i64 (v : Int)] 51)).alloc (.cells #[.int .i64 (x : Int), .int .i64 (y : Int)] 51)) 51 #[.int .i64 0, .int .i64 0]; simp only [World.size_alloc] at h; repeat (first | with_reducible exact h | refine Blk.drewN ?_ _ | refine Blk.drew ?_)) hb (by simp))
  clear hb
  have cR0 := bR2.out.cell
  have fR0 := bR2.out.frozen
  have cR := fun o => (bR2.out.alloc o).cell
  have fR := fun o => (bR2.out.alloc o).frozen
  have cF := fun (s t : Value) o => (((bR2.out.alloc o).set_ 0 s).set_ 1 t).cell
  go_wp2
  (try go_region)
  all_goals (try go_wp2)
  all_goals refine bodyPost_ret (v := .agg #[.int .i64 (p : Int), .int .i64 (q : Int)]) (by simp [results, Tryd.results35, go_sem, cF]) rfl ⟨rfl, (by repeat (first | with_reducible exact HB2.out | refine bl_drewN ?_ _ | refine Below.drew ?_ | refine bl_alloc ?_ _ | refine bl_set ?_ (by dsimp only; omega) _))⟩

set_option maxHeartbeats 1000000 in
theorem plus_is (w : World) (e0 : Addr) (he : EG w e0) (u v : Nat) (lo hi du ev : Int) (cr : Bool) (x y p q : Nat) (hm : mkS lo ev = (x, y)) (hb : mkB lo ev = true) (hp : plusS u v x y = (p, q)) (hpb : plusB u v x y = true) :
    Calls Tryd.prog 51 #[.agg #[.int .i64 (u : Int), .int .i64 (v : Int)], .agg #[.int .i64 lo, .int .i64 hi, .int .i64 du, .int .i64 ev, .bool cr]] w (ShRes p q w) := by
  have HE := Lib.hid he
  have HM := Lib.hid (And.intro hm hb)
  have HP := Lib.hid (And.intro hp hpb)
  clear hm hb hp hpb he
  go_enter Tryd.func51, Tryd.ntmps51
  go_wp2_with fail
  (try (go_quiet (fail); go_wp2_with fail))
  refine (iMake_is _ lo ev x y true HM.out.1 HM.out.2).mono ?_
  rintro e w1 ⟨rfl, hb⟩
  have HB1 := Lib.hid (show Below w.heap.size w w1 from bl_trans (by repeat (first | exact Below.refl w.heap.size w | refine bl_drewN ?_ _ | refine Below.drew ?_ | refine bl_alloc ?_ _)) hb)
  have bS1 := Lib.hid (show Blk w1 w.heap.size 51 #[.int .i64 (u : Int), .int .i64 (v : Int)] from Blk.below (by repeat (first | with_reducible exact Blk.new w 51 #[.int .i64 (u : Int), .int .i64 (v : Int)] | refine Blk.drewN ?_ _ | refine Blk.drew ?_ | refine Blk.alloc ?_ _)) hb (by simp; omega))
  have bR1 := Lib.hid (show Blk w1 (w.heap.size + 1 + 1) 51 #[.int .i64 0, .int .i64 0] from Blk.below (by have h := Blk.new ((w.alloc (.cells #[.int .i64 (u : Int), .int .i64 (v : Int)] 51)).alloc (.cells #[.int .i64 lo, .int .i64 hi, .int .i64 du, .int .i64 ev, .bool cr] 29)) 51 #[.int .i64 0, .int .i64 0]; simp only [World.size_alloc] at h; repeat (first | with_reducible exact h | refine Blk.drewN ?_ _ | refine Blk.drew ?_)) hb (by simp))
  clear hb
  have cS0 := bS1.out.cell
  have cS := fun o => (bS1.out.alloc o).cell
  go_wp2_with fail
  (try (go_quiet (fail); go_wp2_with fail))
  refine (plus2_is _ e0 (by repeat (first | exact HE.out.below HB1.out | refine EG.drewN ?_ _ | refine EG.drew ?_ | refine EG.alloc ?_ _)) u v x y p q HP.out.1 HP.out.2).mono ?_
  rintro e w2 ⟨rfl, hb⟩
  have HB2 := Lib.hid (show Below w.heap.size w w2 from bl_trans (by repeat (first | with_reducible exact HB1.out | refine bl_drewN ?_ _ | refine Below.drew ?_ | refine bl_alloc ?_ _)) hb)
  have bR2 := Lib.hid (show Blk w2 (w.heap.size + 1 + 1) 51 #[.int .i64 0, .int .i64 0] from Blk.below (by repeat (first | with_reducible exact bR1.out | refine Blk.drewN ?_ _ | refine Blk.drew ?_ | refine Blk.alloc ?_ _)) hb (by have := bR1.out.lt; first | exact this | (simp; omega)))
  clear hb cS0 cS bS1 bR1 HB1
  have cR0 := bR2.out.cell
  have fR0 := bR2.out.frozen
  have cF := fun (s t : Value) => ((bR2.out.set_ 0 s).set_ 1 t).cell
  go_wp2
  (try go_region)
  all_goals (try go_wp2)
  all_goals refine bodyPost_ret (v := .agg #[.int .i64 (p : Int), .int .i64 (q : Int)]) (by simp [results, Tryd.results51, go_sem, cF]) rfl ⟨rfl, (by repeat (first | with_reducible exact HB2.out | refine bl_drewN ?_ _ | refine Below.drew ?_ | refine bl_alloc ?_ _ | refine bl_set ?_ (by dsimp only; omega) _))⟩

set_option maxHeartbeats 1000000 in
theorem iLow_is (w : World) (A : Option Addr) (n c : Nat) (ts : List Tk) (cr : Bool) (h : Tks w w.heap.size A n ts) (hn : n ≤ 1048576) (e0 : Addr) (he : EG w e0) (p q : Nat) (hpq : lowOf ts cr = (p, q)) :
    Calls Tryd.prog 34 #[.slice A n c, .bool cr] w (ShRes p q w) := by
  have H := Lib.hid h
  have HL := Lib.hid h.len
  have HE := Lib.hid he
  clear h he
  cases hs : setB ts
  · obtain ⟨rfl, rfl⟩ := Prod.mk.inj ((lowOf_bad cr hs).symm.trans hpq)
    clear hpq
    go_enter Tryd.func34, Tryd.ntmps34
    go_wp2_with fail
    refine (iSetValid_any _ A n c ts ((H.out.below (by repeat (first | exact Below.refl w.heap.size w | refine bl_alloc ?_ _))).more (by simp)) hn).mono ?_
    rintro e w1 ⟨rfl, hb⟩
    have HB1 := Lib.hid (show Below w.heap.size w w1 from bl_trans (by repeat (first | exact Below.refl w.heap.size w | refine bl_alloc ?_ _)) hb)
    have bR1 := Lib.hid (Blk.below (Blk.new w 51 #[.int .i64 0, .int .i64 0]) hb (by simp))
    have cR := bR1.out.cell
    have fR := bR1.out.frozen
    clear hb
    go_wp2
    refine bodyPost_ret (v := .agg #[.int .i64 0, .int .i64 0]) (by simp [results, Tryd.results34, go_sem, cR]) rfl ⟨rfl, (by repeat (first | with_reducible exact HB1.out | refine bl_drewN ?_ _ | refine Below.drew ?_ | refine bl_alloc ?_ _ | refine bl_set ?_ (by dsimp only; omega) _))⟩
  have h5 : n ≤ 5 := by have := setB_len hs; rw [HL.out] at this; exact this
  have HS := Lib.hid hs
  have hpq' : lowL ts cr = (p, q) := by rw [← hpq]; unfold lowOf; rw [hs]; rfl
  have HPQ := Lib.hid hpq'
  clear hpq hpq' hs
  go_enter Tryd.func34, Tryd.ntmps34
  go_wp2_with fail
  refine (iSetValid_any _ A n c ts ((H.out.below (by repeat (first | exact Below.refl w.heap.size w | refine bl_alloc ?_ _))).more (by simp)) hn).mono ?_
  rintro e w1 ⟨rfl, hb⟩
  rw [HS.out]
  have HB1 := Lib.hid (show Below w.heap.size w w1 from bl_trans (by repeat (first | exact Below.refl w.heap.size w | refine bl_alloc ?_ _)) hb)
  have bR1 := Lib.hid (Blk.below (Blk.new w 51 #[.int .i64 0, .int .i64 0]) hb (by simp))
  have hlt1 := bR1.out.lt
  clear hb
  go_wp2
  go_loopw [15] (fun i wr => ∃ k u v : Nat, k ≤ n ∧ i = .int .i64 k ∧ Hid (lowL (ts.take k) cr = (u, v)) ∧ Hid (Blk wr w1.heap.size 51 #[.int .i64 (u : Int), .int .i64 (v : Int)]) ∧ Hid (Blk wr w.heap.size 51 #[.int .i64 0, .int .i64 0]) ∧ Hid (Below w.heap.size w wr)) (fun i _ => n - (intOf i).toNat)
  case atStart => exact ⟨0, 0, 1, Nat.zero_le _, rfl, by show _ = _; rfl, Blk.new w1 51 _, bR1.out.alloc _, bl_alloc HB1.out _⟩
  case round =>
    obtain ⟨k, u, v, hk, rfl, huv, bU, bR, HB⟩ := hrel
    have hltU := bU.out.lt
    by_cases hlt : k < n
    · obtain ⟨t, ht⟩ : ∃ t, ts[k]? = some t := ⟨ts[k]'(by rw [HL.out]; exact hlt), List.getElem?_eq_getElem _⟩
      obtain ⟨b, o, rfl, hbl, c0, c1, c2, c3, c4⟩ := (H.out.below HB.out).at_ k t ht
      by_cases hc : t.cr = cr
      · obtain ⟨x, y, u', v', g1, g2, g3, g4, g5, _, _⟩ := low_step HS.out ht hc huv.out
        have HG := Lib.hid (And.intro g1 (And.intro g2 (And.intro g4 g3)))
        have HT := Lib.hid g5
        clear ht g1 g2 g3 g4 g5
        obtain ⟨lo, hi, du, ev, cr'⟩ := t
        dsimp only at c0 c1 c2 c3 c4 hc HG
        subst hc
        have cU := fun o => (bU.out.alloc o).cell
        have hcb : (cr' == cr') = true := by simp
        go_wp2_with fail
        refine (plus_is _ e0 (by repeat (first | exact HE.out.below HB.out | refine EG.drewN ?_ _ | refine EG.drew ?_ | refine EG.alloc ?_ _)) u v lo hi du ev cr' x y u' v' HG.out.1 HG.out.2.1 HG.out.2.2.1 HG.out.2.2.2).mono ?_
        rintro e w2 ⟨rfl, hb⟩
        have HB2 := Lib.hid (show Below w.heap.size w w2 from bl_trans (by repeat (first | with_reducible exact HB.out | refine bl_drewN ?_ _ | refine Below.drew ?_ | refine bl_alloc ?_ _)) hb)
        have bU2 := Lib.hid (show Blk w2 w1.heap.size 51 #[.int .i64 (u : Int), .int .i64 (v : Int)] from Blk.below (by repeat (first | with_reducible exact bU.out | refine Blk.drewN ?_ _ | refine Blk.drew ?_ | refine Blk.alloc ?_ _)) hb (by have := bU.out.lt; first | exact this | (simp; omega)))
        have bR2 := Lib.hid (show Blk w2 w.heap.size 51 #[.int .i64 0, .int .i64 0] from Blk.below (by repeat (first | with_reducible exact bR.out | refine Blk.drewN ?_ _ | refine Blk.drew ?_ | refine Blk.alloc ?_ _)) hb (by have := bR.out.lt; first | exact this | (simp; omega)))
        clear hb cU
        have cU2 := bU2.out.cell
        have fU2 := bU2.out.frozen
        have hs2 := HB2.out.size
        go_wp2
        go_roundw
        case rel => exact ⟨k + 1, u', v', by omega, by go_num, HT, (bU2.out.set_ 0 (.int .i64 (u' : Int))).set_ 1 (.int .i64 (v' : Int)), (bR2.out.far (by dsimp only; omega) _).far (by dsimp only; omega) _, bl_set (bl_set HB2.out (by dsimp only; omega) _) (by dsimp only; omega) _⟩
        case measure => simp [intOf]; omega
      · have hno := (lowL_no ht hc).trans huv.out
        have HT := Lib.hid hno
        clear ht hno
        obtain ⟨lo, hi, du, ev, cr'⟩ := t
        dsimp only at c0 c1 c2 c3 c4 hc
        have hcb : (cr' == cr) = false := by simpa using hc
        go_wp2
        go_roundw
        case rel => exact ⟨k + 1, u, v, by omega, by go_num, HT, bU.out.alloc _, bR.out.alloc _, bl_alloc HB.out _⟩
        case measure => simp [intOf]; omega
    · obtain rfl : k = n := by omega
      have hpq : (u, v) = (p, q) := by rw [← huv.out, ← HPQ.out, List.take_of_length_le (by rw [HL.out]; omega)]
      obtain ⟨rfl, rfl⟩ := Prod.mk.inj hpq
      clear hpq
      have cU := bU.out.cell
      have cR := bR.out.cell
      have fR := bR.out.frozen
      have cF := fun (s t : Value) => ((bR.out.set_ 0 s).set_ 1 t).cell
      go_wp2
      refine bodyPost_ret (v := .agg #[.int .i64 (u : Int), .int .i64 (v : Int)]) (by simp [results, Tryd.results34, go_sem, cF]) rfl ⟨rfl, (by repeat (first | with_reducible exact HB.out | refine bl_drewN ?_ _ | refine Below.drew ?_ | refine bl_alloc ?_ _ | refine bl_set ?_ (by dsimp only; omega) _))⟩

set_option maxHeartbeats 1000000 in
theorem iHigh_is (w : World) (A : Option Addr) (n c : Nat) (ts : List Tk) (h : Tks w w.heap.size A n ts) (hn : n ≤ 1048576) (e0 : Addr) (he : EG w e0) (p q : Nat) (hpq : highOf ts = (p, q)) :
    Calls Tryd.prog 36 #[.slice A n c] w (ShRes p q w) := by
  have H := Lib.hid h
  have HL := Lib.hid h.len
  have HE := Lib.hid he
  clear h he
  cases hs : setB ts
  · obtain ⟨rfl, rfl⟩ := Prod.mk.inj ((highOf_bad hs).symm.trans hpq)
    clear hpq
    go_enter Tryd.func36, Tryd.ntmps36
    go_wp2_with fail
    refine (iSetValid_any _ A n c ts ((H.out.below (by repeat (first | exact Below.refl w.heap.size w | refine bl_alloc ?_ _))).more (by simp)) hn).mono ?_
    rintro e w1 ⟨rfl, hb⟩
    have HB1 := Lib.hid (show Below w.heap.size w w1 from bl_trans (by repeat (first | exact Below.refl w.heap.size w | refine bl_alloc ?_ _)) hb)
    have bR1 := Lib.hid (Blk.below (Blk.new w 51 #[.int .i64 0, .int .i64 0]) hb (by simp))
    have cR := bR1.out.cell
    have fR := bR1.out.frozen
    clear hb
    go_wp2
    refine bodyPost_ret (v := .agg #[.int .i64 0, .int .i64 0]) (by simp [results, Tryd.results36, go_sem, cR]) rfl ⟨rfl, (by repeat (first | with_reducible exact HB1.out | refine bl_drewN ?_ _ | refine Below.drew ?_ | refine bl_alloc ?_ _ | refine bl_set ?_ (by dsimp only; omega) _))⟩
  have h5 : n ≤ 5 := by have := setB_len hs; rw [HL.out] at this; exact this
  have HS := Lib.hid hs
  obtain ⟨us, hus⟩ : ∃ us, us = critOf ts := ⟨_, rfl⟩
  have hpq' : lowOf us true = (p, q) := by rw [← hpq]; exact highOf_low hs hus
  have hul : us.length ≤ 5 := by have := critOf_len ts; rw [← hus, HL.out] at this; omega
  have HPQ := Lib.hid hpq'
  have HU := Lib.hid hus
  clear hpq hpq' hs hus
  go_enter Tryd.func36, Tryd.ntmps36
  go_wp2_with fail
  refine (iSetValid_any _ A n c ts ((H.out.below (by repeat (first | exact Below.refl w.heap.size w | refine bl_alloc ?_ _))).more (by simp)) hn).mono ?_
  rintro e w1 ⟨rfl, hb⟩
  rw [HS.out]
  have HB1 := Lib.hid (show Below w.heap.size w w1 from bl_trans (by repeat (first | exact Below.refl w.heap.size w | refine bl_alloc ?_ _)) hb)
  have bR1 := Lib.hid (show Blk w1 w.heap.size 51 #[.int .i64 0, .int .i64 0] from Blk.below (Blk.new w 51 #[.int .i64 0, .int .i64 0]) hb (by simp))
  clear hb
  go_wp2_with fail
  refine (iCriticalOf_is w1 A n c ts us HU.out ((H.out.below HB1.out).more HB1.out.size) hn).mono ?_
  rintro e w2 ⟨A2, c2, rfl, ho, hb⟩
  have HB2 := Lib.hid (bl_trans HB1.out hb)
  have HO := Lib.hid ho.reads.2
  have bR2 := Lib.hid (bR1.out.below hb bR1.out.lt)
  clear hb ho
  go_wp2_with fail
  refine (iLow_is w2 A2 _ c2 us true HO.out (by omega) e0 (by repeat (first | exact HE.out.below HB2.out | refine EG.drewN ?_ _ | refine EG.drew ?_ | refine EG.alloc ?_ _)) p q HPQ.out).mono ?_
  rintro e w3 ⟨rfl, hb⟩
  have HB3 := Lib.hid (bl_trans HB2.out hb)
  have bR3 := Lib.hid (bR2.out.below hb bR2.out.lt)
  have cR := bR3.out.cell
  have fR := bR3.out.frozen
  have cF := fun (s t : Value) => ((bR3.out.set_ 0 s).set_ 1 t).cell
  clear hb
  go_wp2
  refine bodyPost_ret (v := .agg #[.int .i64 (p : Int), .int .i64 (q : Int)]) (by simp [results, Tryd.results36, go_sem, cF]) rfl ⟨rfl, (by repeat (first | with_reducible exact HB3.out | refine bl_drewN ?_ _ | refine Below.drew ?_ | refine bl_alloc ?_ _ | refine bl_set ?_ (by dsimp only; omega) _))⟩
end

section
/- Contracts of the reference's LowShare and HighShare. Nothing that was there is written. -/
open Go.RowKit
set_option linter.unusedVariables false

set_option maxHeartbeats 600000 in
theorem sLow_is (w : World) (A : Option Addr) (n c : Nat) (ts : List Tk) (cr : Bool) (h : Tks w w.heap.size A n ts) (hn : n ≤ 1048576) (p q : Nat) (hpq : lowOf ts cr = (p, q)) :
    Calls Tryd.prog 57 #[.slice A n c, .bool cr] w (ShRes p q w) := by
  have H := Lib.hid h
  have HL := Lib.hid h.len
  clear h
  cases hs : setB ts
  · obtain ⟨rfl, rfl⟩ := Prod.mk.inj ((lowOf_bad cr hs).symm.trans hpq)
    clear hpq
    go_enter Tryd.func57, Tryd.ntmps57
    go_wp2_with fail
    refine (sSetValid_any _ A n c ts ((H.out.below (by repeat (first | exact Below.refl w.heap.size w | with_reducible refine bl_alloc ?_ _))).more (by simp; omega)) hn).mono ?_
    rintro e w1 ⟨rfl, hb⟩
    have HB1 := Lib.hid (show Below w.heap.size w w1 from bl_trans (by repeat (first | exact Below.refl w.heap.size w | with_reducible refine bl_alloc ?_ _)) hb)
    have bR1 := Lib.hid (show Blk w1 w.heap.size 51 #[.int .i64 0, .int .i64 0] from Blk.below ((Blk.new w 51 #[.int .i64 0, .int .i64 0]).alloc _) hb (by simp; omega))
    have cR := bR1.out.cell
    have fR := bR1.out.frozen
    clear hb
    go_wp2
    refine bodyPost_ret (v := .agg #[.int .i64 0, .int .i64 0]) (by simp [results, Tryd.results57, go_sem, cR]) rfl ⟨rfl, (by repeat (first | with_reducible exact HB1.out | refine bl_drewN ?_ _ | refine Below.drew ?_ | refine bl_alloc ?_ _ | refine bl_set ?_ (by dsimp only; omega) _))⟩
  have h5 : n ≤ 5 := by have := setB_len hs; rw [HL.out] at this; exact this
  have HS := Lib.hid hs
  have hpq' : lowL ts cr = (p, q) := by rw [← hpq]; unfold lowOf; rw [hs]; rfl
  have HPQ := Lib.hid hpq'
  clear hpq hpq' hs
  go_enter Tryd.func57, Tryd.ntmps57
  go_wp2_with fail
  refine (sSetValid_any _ A n c ts ((H.out.below (by repeat (first | exact Below.refl w.heap.size w | with_reducible refine bl_alloc ?_ _))).more (by simp; omega)) hn).mono ?_
  rintro e w1 ⟨rfl, hb⟩
  rw [HS.out]
  have HB1 := Lib.hid (show Below w.heap.size w w1 from bl_trans (by repeat (first | exact Below.refl w.heap.size w | with_reducible refine bl_alloc ?_ _)) hb)
  have bR1 := Lib.hid (show Blk w1 w.heap.size 51 #[.int .i64 0, .int .i64 0] from Blk.below ((Blk.new w 51 #[.int .i64 0, .int .i64 0]).alloc _) hb (by simp; omega))
  have bU1 := Lib.hid (show Blk w1 (w.heap.size + 1) 51 #[.int .i64 0, .int .i64 1] from Blk.below (by have h := Blk.new (w.alloc (.cells #[.int .i64 0, .int .i64 0] 51)) 51 #[.int .i64 0, .int .i64 1]; simp only [World.size_alloc] at h; exact h) hb (by simp))
  clear hb
  go_wp2
  go_loopw [6] (fun i wr => ∃ k u v : Nat, k ≤ n ∧ i = .int .i64 k ∧ Hid (lowL (ts.take k) cr = (u, v)) ∧ Hid (Blk wr (w.heap.size + 1) 51 #[.int .i64 (u : Int), .int .i64 (v : Int)]) ∧ Hid (Blk wr w.heap.size 51 #[.int .i64 0, .int .i64 0]) ∧ Hid (Below w.heap.size w wr)) (fun i _ => n - (intOf i).toNat)
  case atStart => exact ⟨0, 0, 1, Nat.zero_le _, rfl, by show _ = _; rfl, bU1, bR1, HB1⟩
  case round =>
    obtain ⟨k, u, v, hk, rfl, huv, bU, bR, HB⟩ := hrel
    have hltU := bU.out.lt
    by_cases hlt : k < n
    · obtain ⟨t, ht⟩ : ∃ t, ts[k]? = some t := ⟨ts[k]'(by rw [HL.out]; exact hlt), List.getElem?_eq_getElem _⟩
      obtain ⟨b, o, rfl, hbl, c0, c1, c2, c3, c4⟩ := (H.out.below HB.out).at_ k t ht
      have i1 : (0 : Int) ≤ (k : Int) := by omega
      have i2 : (k : Int) < (n : Int) := by omega
      by_cases hc : t.cr = cr
      · obtain ⟨x, y, u', v', g1, g2, g3, g4, g5, hU, hX⟩ := low_step HS.out ht hc huv.out
        have HG := Lib.hid (And.intro g1 (And.intro g2 (And.intro g4 g3)))
        have HSh := Lib.hid (And.intro hU hX)
        have HT := Lib.hid g5
        clear ht g1 g2 g3 g4 g5 hU hX
        obtain ⟨lo, hi, du, ev, cr'⟩ := t
        dsimp only at c0 c1 c2 c3 c4 hc HG
        subst hc
        have hbl' := Nat.lt_of_lt_of_le hbl HB.out.size
        have d0 := fun oo => (World.cell?_alloc_lt wr oo ⟨b, o + k * 5, none⟩ hbl').trans c0
        have d3 := fun oo => (World.cell?_alloc_lt wr oo ⟨b, o + k * 5 + 3, none⟩ hbl').trans c3
        have hcb : (cr' == cr') = true := by simp
        go_wp2_with fail
        go_region_with (go_at_call 59; refine (sMake_is _ lo ev x y true HG.out.1 HG.out.2.1).mono ?_; rintro e w2 ⟨rfl, hb⟩; have f0 : w2.cell? ⟨b, o + k * 5, none⟩ = some (.int .i64 lo) := (hb.cell (p := ⟨b, o + k * 5, none⟩) (by first | exact hbl' | (simp; omega))).trans (by first | exact c0 | exact d0 _); have f3 : w2.cell? ⟨b, o + k * 5 + 3, none⟩ = some (.int .i64 ev) := (hb.cell (p := ⟨b, o + k * 5 + 3, none⟩) (by first | exact hbl' | (simp; omega))).trans (by first | exact c3 | exact d3 _); have hbl2 : b < w2.heap.size := Nat.lt_of_lt_of_le hbl' (by have := hb.size; first | exact this | (simp at this; omega)); have g0 := fun oo => (World.cell?_alloc_lt w2 oo ⟨b, o + k * 5, none⟩ hbl2).trans f0; have g3 := fun oo => (World.cell?_alloc_lt w2 oo ⟨b, o + k * 5 + 3, none⟩ hbl2).trans f3; have HB2 := Lib.hid (show Below w.heap.size w w2 from bl_trans (by repeat (first | with_reducible exact HB.out | with_reducible refine bl_drewN ?_ _ | with_reducible refine Below.drew ?_ | with_reducible refine bl_alloc ?_ _)) hb); have bU2 := Lib.hid (show Blk w2 (w.heap.size + 1) 51 #[.int .i64 (u : Int), .int .i64 (v : Int)] from Blk.below (by repeat (first | with_reducible exact bU.out | with_reducible refine Blk.drewN ?_ _ | with_reducible refine Blk.drew ?_ | with_reducible refine Blk.alloc ?_ _)) hb (by have := bU.out.lt; first | exact this | (simp; omega))); have bR2 := Lib.hid (show Blk w2 w.heap.size 51 #[.int .i64 0, .int .i64 0] from Blk.below (by repeat (first | with_reducible exact bR.out | with_reducible refine Blk.drewN ?_ _ | with_reducible refine Blk.drew ?_ | with_reducible refine Blk.alloc ?_ _)) hb (by have := bR.out.lt; first | exact this | (simp; omega))); first | (have bC := Lib.hid (show Blk w2 wr.heap.size 51 #[.int .i64 0, .int .i64 0] from Blk.below (Blk.drew (Blk.new wr 51 #[.int .i64 0, .int .i64 0])) hb (Blk.new wr 51 #[.int .i64 0, .int .i64 0]).lt); have cC := bC.out.cell; have fC := bC.out.frozen) | (have bC := Lib.hid (show Blk w2 wr.heap.size 51 #[.int .i64 0, .int .i64 0] from Blk.below (Blk.new wr 51 #[.int .i64 0, .int .i64 0]) hb (Blk.new wr 51 #[.int .i64 0, .int .i64 0]).lt); have cC := bC.out.cell; have fC := bC.out.frozen) | skip; clear hb)
        all_goals first
          | (have bSX := Lib.hid (show Blk ((w2.setCell ⟨wr.heap.size, 0, none⟩ (.int .i64 (x : Int))).setCell ⟨wr.heap.size, 1, none⟩ (.int .i64 (y : Int))) wr.heap.size 51 #[.int .i64 (x : Int), .int .i64 (y : Int)] from (bC.out.set_ 0 _).set_ 1 _)
             have hne1 : w.heap.size + 1 ≠ wr.heap.size := by omega
             have hne0 : w.heap.size ≠ wr.heap.size := by omega
             have bUX := Lib.hid (show Blk ((w2.setCell ⟨wr.heap.size, 0, none⟩ (.int .i64 (x : Int))).setCell ⟨wr.heap.size, 1, none⟩ (.int .i64 (y : Int))) (w.heap.size + 1) 51 #[.int .i64 (u : Int), .int .i64 (v : Int)] from (bU2.out.far hne1 _).far hne1 _)
             have bRX := Lib.hid (show Blk ((w2.setCell ⟨wr.heap.size, 0, none⟩ (.int .i64 (x : Int))).setCell ⟨wr.heap.size, 1, none⟩ (.int .i64 (y : Int))) w.heap.size 51 #[.int .i64 0, .int .i64 0] from (bR2.out.far hne0 _).far hne0 _)
             have HBX := Lib.hid (show Below w.heap.size w ((w2.setCell ⟨wr.heap.size, 0, none⟩ (.int .i64 (x : Int))).setCell ⟨wr.heap.size, 1, none⟩ (.int .i64 (y : Int))) from bl_set (bl_set HB2.out (by dsimp only; omega) _) (by dsimp only; omega) _)
             clear cC fC bC
             generalize ((w2.setCell ⟨wr.heap.size, 0, none⟩ (.int .i64 (x : Int))).setCell ⟨wr.heap.size, 1, none⟩ (.int .i64 (y : Int))) = X at *)
          | (have bSX := Lib.hid (show Blk (w2.alloc (.cells #[.int .i64 (x : Int), .int .i64 (y : Int)] 51)) w2.heap.size 51 #[.int .i64 (x : Int), .int .i64 (y : Int)] from Blk.new w2 51 _)
             have bUX := Lib.hid (show Blk (w2.alloc (.cells #[.int .i64 (x : Int), .int .i64 (y : Int)] 51)) (w.heap.size + 1) 51 #[.int .i64 (u : Int), .int .i64 (v : Int)] from bU2.out.alloc _)
             have bRX := Lib.hid (show Blk (w2.alloc (.cells #[.int .i64 (x : Int), .int .i64 (y : Int)] 51)) w.heap.size 51 #[.int .i64 0, .int .i64 0] from bR2.out.alloc _)
             have HBX := Lib.hid (show Below w.heap.size w (w2.alloc (.cells #[.int .i64 (x : Int), .int .i64 (y : Int)] 51)) from bl_alloc HB2.out _)
             generalize (w2.alloc (.cells #[.int .i64 (x : Int), .int .i64 (y : Int)] 51)) = X at *)
        all_goals clear c0 c1 c2 c3 c4 d0 d3 HB2 bU2 bR2
        all_goals have cUX := bUX.out.cell
        all_goals have cSX := bSX.out.cell
        all_goals go_wp2_with fail
        all_goals (try (go_quiet (fail); go_wp2_with fail))
        all_goals refine (l2_is _ u v x y u' v' true HSh.out.1 HSh.out.2 HG.out.2.2.1 HG.out.2.2.2).mono ?_
        all_goals rintro e w3 ⟨rfl, hb⟩
        all_goals have HB3 := Lib.hid (show Below w.heap.size w w3 from bl_trans (by repeat (first | with_reducible exact HBX.out | with_reducible refine bl_drewN ?_ _ | with_reducible refine Below.drew ?_ | with_reducible refine bl_alloc ?_ _)) hb)
        all_goals have bU3 := Lib.hid (show Blk w3 (w.heap.size + 1) 51 #[.int .i64 (u : Int), .int .i64 (v : Int)] from Blk.below (by repeat (first | with_reducible exact bUX.out | with_reducible refine Blk.drewN ?_ _ | with_reducible refine Blk.drew ?_ | with_reducible refine Blk.alloc ?_ _)) hb (by have := bUX.out.lt; first | exact this | (simp; omega)))
        all_goals have bR3 := Lib.hid (show Blk w3 w.heap.size 51 #[.int .i64 0, .int .i64 0] from Blk.below (by repeat (first | with_reducible exact bRX.out | with_reducible refine Blk.drewN ?_ _ | with_reducible refine Blk.drew ?_ | with_reducible refine Blk.alloc ?_ _)) hb (by have := bRX.out.lt; first | exact this | (simp; omega)))
        all_goals clear hb cUX cSX
        all_goals have cU3 := bU3.out.cell
        all_goals have fU3 := bU3.out.frozen
        all_goals go_wp2
        all_goals (go_roundw; (case rel => exact ⟨k + 1, u', v', by omega, by go_num, HT, (bU3.out.set_ 0 (.int .i64 (u' : Int))).set_ 1 (.int .i64 (v' : Int)), (bR3.out.far (by dsimp only; omega) _).far (by dsimp only; omega) _, bl_set (bl_set HB3.out (by dsimp only; omega) _) (by dsimp only; omega) _⟩); (case measure => (simp [intOf]; omega)))
      · have hno := (lowL_no ht hc).trans huv.out
        have HT := Lib.hid hno
        clear ht hno
        obtain ⟨lo, hi, du, ev, cr'⟩ := t
        dsimp only at c0 c1 c2 c3 c4 hc
        have hcb : (cr' == cr) = false := by simpa using hc
        go_wp2
        go_roundw
        case rel => exact ⟨k + 1, u, v, by omega, by go_num, HT, bU, bR, HB⟩
        case measure => simp [intOf]; omega
    · obtain rfl : k = n := by omega
      have hpq : (u, v) = (p, q) := by rw [← huv.out, ← HPQ.out, List.take_of_length_le (by rw [HL.out]; omega)]
      obtain ⟨rfl, rfl⟩ := Prod.mk.inj hpq
      clear hpq
      have cU := bU.out.cell
      have cR := bR.out.cell
      have fR := bR.out.frozen
      have cF := fun (s t : Value) => ((bR.out.set_ 0 s).set_ 1 t).cell
      go_wp2
      refine bodyPost_ret (v := .agg #[.int .i64 (u : Int), .int .i64 (v : Int)]) (by simp [results, Tryd.results57, go_sem, cF]) rfl ⟨rfl, (by repeat (first | with_reducible exact HB.out | refine bl_drewN ?_ _ | refine Below.drew ?_ | refine bl_alloc ?_ _ | refine bl_set ?_ (by dsimp only; omega) _))⟩
end

section
/- Contract of the reference's Implicit. Nothing that was there is written. -/
open Go.RowKit
set_option linter.unusedVariables false

theorem imp_bad {ts : List Tk} (h : setB ts = false) : impB ts = false := by unfold impB; rw [h]; rfl
theorem imp_not {ts : List Tk} {k : Nat} {t : Tk} (ht : ts[k]? = some t) (h : t.du ≠ t.ev) : impB ts = false := by
  cases hi : impB ts
  · rfl
  · exact absurd (imp_all hi t (List.mem_of_getElem? ht)) h
theorem imp_step {ts : List Tk} {k : Nat} {t : Tk} (ht : ts[k]? = some t) (he : t.du = t.ev) (h : ∀ u ∈ ts.take k, u.du = u.ev) : ∀ u ∈ ts.take (k + 1), u.du = u.ev := by
  obtain ⟨hk, rfl⟩ := List.getElem?_eq_some_iff.1 ht
  rw [List.take_succ_eq_append_getElem hk]
  intro u hu
  rcases List.mem_append.1 hu with hu | hu
  · exact h u hu
  · rw [List.mem_singleton.1 hu]; exact he

set_option maxHeartbeats 1000000 in
theorem sImp_is (w : World) (A : Option Addr) (n c : Nat) (ts : List Tk) (h : Tks w w.heap.size A n ts) (hn : n ≤ 1048576) (b : Bool) (hb : impB ts = b) :
    Calls Tryd.prog 75 #[.slice A n c] w (BoolRes b w) := by
  have H := Lib.hid h
  have HL := Lib.hid h.len
  clear h
  cases hs : setB ts
  · obtain rfl : b = false := by rw [← hb]; exact imp_bad hs
    have hn0 : 0 < n := by
      rw [← HL.out]
      rcases ts with _ | ⟨t, ts⟩
      · simp [setB] at hs
      · simp
    have HS := Lib.hid hs
    clear hb hs
    go_enter Tryd.func75, Tryd.ntmps75
    go_wp2
    go_loopw [3] (fun i wr => i = .int .i64 0 ∧ Hid (Below w.heap.size w wr)) (fun i _ => 0)
    case atStart => exact ⟨rfl, Lib.hid (Below.refl _ _)⟩
    case round =>
      obtain ⟨rfl, HB⟩ := hrel
      have i2 : (0 : Int) < (n : Int) := by omega
      go_wp2_with fail
      refine (sSetValid_any _ A n c ts ((H.out.below HB.out).more HB.out.size) hn).mono ?_
      rintro e w1 ⟨rfl, hb1⟩
      rw [HS.out]
      have HB1 := Lib.hid (bl_trans HB.out hb1)
      clear hb1
      go_wp2_with fail
      refine (sSetValid_any _ A n c ts ((H.out.below HB1.out).more HB1.out.size) hn).mono ?_
      rintro e w2 ⟨rfl, hb2⟩
      rw [HS.out]
      have HB2 := Lib.hid (bl_trans HB1.out hb2)
      clear hb2
      go_wp2
      refine bodyPost_ret (v := .bool false) (by simp [results, Tryd.results75, go_sem]) rfl ⟨rfl, HB2.out⟩
  have HS := Lib.hid hs
  have HI := Lib.hid hb
  clear hb hs
  go_enter Tryd.func75, Tryd.ntmps75
  go_wp2
  go_loopw [3] (fun i wr => ∃ k : Nat, k ≤ n ∧ i = .int .i64 k ∧ Hid (∀ u ∈ ts.take k, u.du = u.ev) ∧ Hid (Below w.heap.size w wr)) (fun i _ => n - (intOf i).toNat)
  case atStart => exact ⟨0, Nat.zero_le _, rfl, Lib.hid (by intro u hu; simp at hu), Lib.hid (Below.refl _ _)⟩
  case round =>
    obtain ⟨k, hk, rfl, hall, HB⟩ := hrel
    by_cases hlt : k < n
    · obtain ⟨t, ht⟩ : ∃ t, ts[k]? = some t := ⟨ts[k]'(by rw [HL.out]; exact hlt), List.getElem?_eq_getElem _⟩
      have i1 : (0 : Int) ≤ (k : Int) := by omega
      have i2 : (k : Int) < (n : Int) := by omega
      go_wp2_with fail
      refine (sSetValid_any _ A n c ts ((H.out.below HB.out).more HB.out.size) hn).mono ?_
      rintro e w1 ⟨rfl, hb1⟩
      rw [HS.out]
      have HB1 := Lib.hid (bl_trans HB.out hb1)
      clear hb1 HB
      obtain ⟨b0, o, rfl, hbl, c0, c1, c2, c3, c4⟩ := (H.out.below HB1.out).at_ k t ht
      have hno := fun hne => imp_not ht (t := t) hne
      have hyes := fun he => imp_step ht (t := t) he hall.out
      clear ht hall
      obtain ⟨lo, hi, du, ev, cr⟩ := t
      dsimp only at c0 c1 c2 c3 c4 hno hyes
      by_cases he : du = ev
      · subst he
        have hY := Lib.hid (hyes rfl)
        clear hyes hno
        have hd : (du != du) = false := by simp
        go_wp2_with fail
        go_quiet (fail)
        go_wp2
        go_roundw
        case rel => exact ⟨k + 1, by omega, by go_num, hY, Lib.hid (bl_drewN HB1.out _)⟩
        case measure => simp [intOf]; omega
      · have hN := Lib.hid (hno he)
        clear hyes hno
        have hd : (du != ev) = true := by simp; exact he
        obtain rfl : b = false := by rw [← HI.out]; exact hN.out
        go_wp2_with fail
        go_quiet (fail)
        go_wp2
        refine bodyPost_ret (v := .bool false) (by simp [results, Tryd.results75, go_sem]) rfl ⟨rfl, bl_drewN HB1.out _⟩
    · obtain rfl : k = n := by omega
      have i2 : ¬ (k : Int) < (k : Int) := by omega
      have hT : impB ts = true := imp_of HS.out (by have := hall.out; rw [List.take_of_length_le (by rw [HL.out]; omega)] at this; exact this)
      obtain rfl : b = true := by rw [← HI.out]; exact hT
      clear hT
      go_wp2_with fail
      refine (sSetValid_any _ A k c ts ((H.out.below HB.out).more HB.out.size) hn).mono ?_
      rintro e w2 ⟨rfl, hb2⟩
      rw [HS.out]
      have HB2 := Lib.hid (bl_trans HB.out hb2)
      clear hb2
      go_wp2
      refine bodyPost_ret (v := .bool true) (by simp [results, Tryd.results75, go_sem]) rfl ⟨rfl, HB2.out⟩
end

section
/- Contract of the reference's HighShare. Nothing that was there is written. -/
open Go.RowKit
set_option linter.unusedVariables false

set_option maxHeartbeats 1000000 in
theorem sHigh_is (w : World) (A : Option Addr) (n c : Nat) (ts : List Tk) (h : Tks w w.heap.size A n ts) (hn : n ≤ 1048576) (p q : Nat) (hpq : highOf ts = (p, q)) :
    Calls Tryd.prog 61 #[.slice A n c] w (ShRes p q w) := by
  have H := Lib.hid h
  have HL := Lib.hid h.len

  clear h
  cases hs : setB ts
  · obtain ⟨rfl, rfl⟩ := Prod.mk.inj ((highOf_bad hs).symm.trans hpq)
    clear hpq
    go_enter Tryd.func61, Tryd.ntmps61
    go_wp2_with fail
    refine (sSetValid_any _ A n c ts ((H.out.below (by repeat (first | exact Below.refl w.heap.size w | refine bl_alloc ?_ _))).more (by simp)) hn).mono ?_
    rintro e w1 ⟨rfl, hb⟩
    have HB1 := Lib.hid (show Below w.heap.size w w1 from bl_trans (by repeat (first | exact Below.refl w.heap.size w | refine bl_alloc ?_ _)) hb)
    have bR1 := Lib.hid (Blk.below (Blk.new w 51 #[.int .i64 0, .int .i64 0]) hb (by simp))
    have cR := bR1.out.cell
    have fR := bR1.out.frozen
    clear hb
    go_wp2
    refine bodyPost_ret (v := .agg #[.int .i64 0, .int .i64 0]) (by simp [results, Tryd.results61, go_sem, cR]) rfl ⟨rfl, (by repeat (first | with_reducible exact HB1.out | refine bl_drewN ?_ _ | refine Below.drew ?_ | refine bl_alloc ?_ _ | refine bl_set ?_ (by dsimp only; omega) _))⟩
  have h5 : n ≤ 5 := by have := setB_len hs; rw [HL.out] at this; exact this
  have HS := Lib.hid hs
  obtain ⟨us, hus⟩ : ∃ us, us = critOf ts := ⟨_, rfl⟩
  have hpq' : lowOf us true = (p, q) := by rw [← hpq]; exact highOf_low hs hus
  have hul : us.length ≤ 5 := by have := critOf_len ts; rw [← hus, HL.out] at this; omega
  have HPQ := Lib.hid hpq'
  have HU := Lib.hid hus
  clear hpq hpq' hs hus
  go_enter Tryd.func61, Tryd.ntmps61
  go_wp2_with fail
  refine (sSetValid_any _ A n c ts ((H.out.below (by repeat (first | exact Below.refl w.heap.size w | refine bl_alloc ?_ _))).more (by simp)) hn).mono ?_
  rintro e w1 ⟨rfl, hb⟩
  rw [HS.out]
  have HB1 := Lib.hid (show Below w.heap.size w w1 from bl_trans (by repeat (first | exact Below.refl w.heap.size w | refine bl_alloc ?_ _)) hb)
  have bR1 := Lib.hid (show Blk w1 w.heap.size 51 #[.int .i64 0, .int .i64 0] from Blk.below (Blk.new w 51 #[.int .i64 0, .int .i64 0]) hb (by simp))
  clear hb
  go_wp2_with fail
  refine (sCriticalOf_is w1 A n c ts us HU.out ((H.out.below HB1.out).more HB1.out.size) hn).mono ?_
  rintro e w2 ⟨A2, c2, rfl, ho, hb⟩
  have HB2 := Lib.hid (bl_trans HB1.out hb)
  have HO := Lib.hid ho.reads.2
  have bR2 := Lib.hid (bR1.out.below hb bR1.out.lt)
  clear hb ho
  go_wp2_with fail
  refine (sLow_is w2 A2 _ c2 us true HO.out (by omega) p q HPQ.out).mono ?_
  rintro e w3 ⟨rfl, hb⟩
  have HB3 := Lib.hid (bl_trans HB2.out hb)
  have bR3 := Lib.hid (bR2.out.below hb bR2.out.lt)
  have cR := bR3.out.cell
  have fR := bR3.out.frozen
  have cF := fun (s t : Value) => ((bR3.out.set_ 0 s).set_ 1 t).cell
  clear hb
  go_wp2
  refine bodyPost_ret (v := .agg #[.int .i64 (p : Int), .int .i64 (q : Int)]) (by simp [results, Tryd.results61, go_sem, cF]) rfl ⟨rfl, (by repeat (first | with_reducible exact HB3.out | refine bl_drewN ?_ _ | refine Below.drew ?_ | refine bl_alloc ?_ _ | refine bl_set ?_ (by dsimp only; omega) _))⟩
end

section
/- Two cells of a block. -/
open Go.RowKit
theorem Blk.two {w : World} {a : Nat} {t : TypeId} {x y : Value} (h : Blk w a t #[x, y]) : w.cell? ⟨a, 0, none⟩ = some x ∧ w.cell? ⟨a, 1, none⟩ = some y := ⟨h.cell 0, h.cell 1⟩
theorem two_alloc1 {w : World} {a : Nat} {x y : Value} (h : w.cell? ⟨a, 0, none⟩ = some x ∧ w.cell? ⟨a, 1, none⟩ = some y) (o : Obj) : (w.alloc o).cell? ⟨a, 0, none⟩ = some x ∧ (w.alloc o).cell? ⟨a, 1, none⟩ = some y :=
  ⟨(World.cell?_alloc_lt w o _ (World.block_lt_of_cell? w _ h.1)).trans h.1, (World.cell?_alloc_lt w o _ (World.block_lt_of_cell? w _ h.2)).trans h.2⟩
theorem two_alloc2 {w : World} {a b : Nat} {x y u v : Value} (h : (w.cell? ⟨a, 0, none⟩ = some x ∧ w.cell? ⟨a, 1, none⟩ = some y) ∧ (w.cell? ⟨b, 0, none⟩ = some u ∧ w.cell? ⟨b, 1, none⟩ = some v)) (o : Obj) :
    ((w.alloc o).cell? ⟨a, 0, none⟩ = some x ∧ (w.alloc o).cell? ⟨a, 1, none⟩ = some y) ∧ ((w.alloc o).cell? ⟨b, 0, none⟩ = some u ∧ (w.alloc o).cell? ⟨b, 1, none⟩ = some v) := ⟨two_alloc1 h.1 o, two_alloc1 h.2 o⟩
end

section
/- Contract of the reference's HoldsPlain. Nothing that was there is written. -/
open Go.RowKit
set_option linter.unusedVariables false

set_option maxHeartbeats 400000 in
theorem sOne_is (w : World) : Calls Tryd.prog 63 #[] w (ShRes 1 1 w) := by
  go_enter Tryd.func63, Tryd.ntmps63
  go_wp2
  refine bodyPost_ret (v := .agg #[.int .i64 1, .int .i64 1]) (by simp [results, Tryd.results63, go_sem]) rfl ⟨rfl, (by repeat (first | exact Below.refl _ _ | refine bl_drewN ?_ _ | refine Below.drew ?_ | refine bl_alloc ?_ _ | refine bl_set ?_ (by dsimp only; omega) _))⟩

set_option maxHeartbeats 1000000 in
theorem sPlain_is (w0 : World) (A : Option Addr) (n c : Nat) (ts : List Tk) (h : Tks w0 w0.heap.size A n ts) (hn : n ≤ 1048576) (b : Bool) (hb : plainV ts = b) :
    Calls Tryd.prog 56 #[.slice A n c] w0 (BoolRes b w0) := by
  have HTt := Lib.hid h
  have HL := Lib.hid h.len
  have HB0 := Lib.hid (Below.refl w0.heap.size w0)
  have HDt0 := Lib.hid (Below.refl w0.heap.size w0)
  clear h
  cases hi : impB ts
  · obtain rfl : b = false := by rw [← hb]; unfold plainV; rw [hi]; rfl
    clear hb
    go_enter Tryd.func56, Tryd.ntmps56
    go_wp2_with fail
    (try (go_quiet (fail); go_wp2_with fail))
    refine (sImp_is _ A n c ts ((HTt.out.below (by repeat (first | with_reducible exact HDt0.out | with_reducible refine Below.drew ?_ | with_reducible refine bl_drewN ?_ _ | with_reducible refine bl_alloc ?_ _) : Below w0.heap.size w0 _)).more (Below.size (by repeat (first | with_reducible exact HDt0.out | with_reducible refine Below.drew ?_ | with_reducible refine bl_drewN ?_ _ | with_reducible refine bl_alloc ?_ _) : Below w0.heap.size w0 _))) hn false hi).mono ?_
    rintro e w1 ⟨rfl, hb⟩
    have hs1 := hb.size
    have HB1 := Lib.hid (show Below w0.heap.size w0 w1 from bl_trans (by repeat (first | with_reducible exact HB0.out | with_reducible refine bl_drewN ?_ _ | with_reducible refine Below.drew ?_ | with_reducible refine bl_alloc ?_ _)) hb)
    have HDt1 := Lib.hid (show Below w0.heap.size w0 w1 from bl_trans (by repeat (first | with_reducible exact HDt0.out | with_reducible refine Below.drew ?_ | with_reducible refine bl_drewN ?_ _ | with_reducible refine bl_alloc ?_ _)) hb)
    clear hb HB0 HDt0
    go_wp2
    (try (go_quiet (fail); go_wp2))
    refine bodyPost_ret (v := .bool false) (by simp [results, Tryd.results56, go_sem]) rfl ⟨rfl, (by repeat (first | with_reducible exact HB1.out | refine bl_drewN ?_ _ | refine Below.drew ?_ | refine bl_alloc ?_ _ | refine bl_set ?_ (by dsimp only; omega) _))⟩
  have hs := imp_set hi
  obtain ⟨p, q, hpq⟩ : ∃ p q, lowOf ts false = (p, q) := ⟨_, _, rfl⟩
  obtain ⟨u, v, huv⟩ : ∃ p q, highOf ts = (p, q) := ⟨_, _, rfl⟩
  obtain ⟨x, y, z, s1, s2, s3, _, e1, e2, e3, e4⟩ := plain_pack hs hpq huv
  have hz : decide (z ≤ 0) = b := by rw [← hb, ← e4]; unfold plainV; rw [hi]; rfl
  have HI := Lib.hid hi
  have HP := Lib.hid hpq
  have HU := Lib.hid huv
  have HA := Lib.hid (And.intro s1 (And.intro s2 (And.intro e1 e2)))
  have HZ := Lib.hid e3
  clear hb hi hs hpq huv s1 s2 s3 e1 e2 e3 e4
  go_enter Tryd.func56, Tryd.ntmps56
  go_wp2_with fail
  (try (go_quiet (fail); go_wp2_with fail))
  refine (sImp_is _ A n c ts ((HTt.out.below (by repeat (first | with_reducible exact HDt0.out | with_reducible refine Below.drew ?_ | with_reducible refine bl_drewN ?_ _ | with_reducible refine bl_alloc ?_ _) : Below w0.heap.size w0 _)).more (Below.size (by repeat (first | with_reducible exact HDt0.out | with_reducible refine Below.drew ?_ | with_reducible refine bl_drewN ?_ _ | with_reducible refine bl_alloc ?_ _) : Below w0.heap.size w0 _))) hn true HI.out).mono ?_
  rintro e w1 ⟨rfl, hb⟩
  have hs1 := hb.size
  have HB1 := Lib.hid (show Below w0.heap.size w0 w1 from bl_trans (by repeat (first | with_reducible exact HB0.out | with_reducible refine bl_drewN ?_ _ | with_reducible refine Below.drew ?_ | with_reducible refine bl_alloc ?_ _)) hb)
  have HDt1 := Lib.hid (show Below w0.heap.size w0 w1 from bl_trans (by repeat (first | with_reducible exact HDt0.out | with_reducible refine Below.drew ?_ | with_reducible refine bl_drewN ?_ _ | with_reducible refine bl_alloc ?_ _)) hb)
  clear hb HB0 HDt0
  go_wp2_with fail
  (try (go_quiet (fail); go_wp2_with fail))
  refine (sLow_is _ A n c ts false ((HTt.out.below (by repeat (first | with_reducible exact HDt1.out | with_reducible refine Below.drew ?_ | with_reducible refine bl_drewN ?_ _ | with_reducible refine bl_alloc ?_ _) : Below w0.heap.size w0 _)).more (Below.size (by repeat (first | with_reducible exact HDt1.out | with_reducible refine Below.drew ?_ | with_reducible refine bl_drewN ?_ _ | with_reducible refine bl_alloc ?_ _) : Below w0.heap.size w0 _))) (by omega) p q HP.out).mono ?_
  rintro e w2 ⟨rfl, hb⟩
  have hs2 := hb.size
  have HB2 := Lib.hid (show Below w0.heap.size w0 w2 from bl_trans (by repeat (first | with_reducible exact HB1.out | with_reducible refine bl_drewN ?_ _ | with_reducible refine Below.drew ?_ | with_reducible refine bl_alloc ?_ _)) hb)
  have HDt2 := Lib.hid (show Below w0.heap.size w0 w2 from bl_trans (by repeat (first | with_reducible exact HDt1.out | with_reducible refine Below.drew ?_ | with_reducible refine bl_drewN ?_ _ | with_reducible refine bl_alloc ?_ _)) hb)
  clear hb HB1 HDt1
  go_wp2_with fail
  (try (go_quiet (fail); go_wp2_with fail))
  refine (sHigh_is _ A n c ts ((HTt.out.below (by repeat (first | with_reducible exact HDt2.out | with_reducible refine Below.drew ?_ | with_reducible refine bl_drewN ?_ _ | with_reducible refine bl_alloc ?_ _) : Below w0.heap.size w0 _)).more (Below.size (by repeat (first | with_reducible exact HDt2.out | with_reducible refine Below.drew ?_ | with_reducible refine bl_drewN ?_ _ | with_reducible refine bl_alloc ?_ _) : Below w0.heap.size w0 _))) (by omega) u v HU.out).mono ?_
  rintro e w3 ⟨rfl, hb⟩
  have hs3 := hb.size
  have HB3 := Lib.hid (show Below w0.heap.size w0 w3 from bl_trans (by repeat (first | with_reducible exact HB2.out | with_reducible refine bl_drewN ?_ _ | with_reducible refine Below.drew ?_ | with_reducible refine bl_alloc ?_ _)) hb)
  have HDt3 := Lib.hid (show Below w0.heap.size w0 w3 from bl_trans (by repeat (first | with_reducible exact HDt2.out | with_reducible refine Below.drew ?_ | with_reducible refine bl_drewN ?_ _ | with_reducible refine bl_alloc ?_ _)) hb)
  clear hb HB2 HDt2
  go_wp2_with fail
  (try (go_quiet (fail); go_wp2_with fail))
  refine (l2_is _ p q u v x y true HA.out.1 HA.out.2.1 HA.out.2.2.1 HA.out.2.2.2).mono ?_
  rintro e w4 ⟨rfl, hb⟩
  have hs4 := hb.size
  have HB4 := Lib.hid (show Below w0.heap.size w0 w4 from bl_trans (by repeat (first | with_reducible exact HB3.out | with_reducible refine bl_drewN ?_ _ | with_reducible refine Below.drew ?_ | with_reducible refine bl_alloc ?_ _)) hb)
  have HDt4 := Lib.hid (show Below w0.heap.size w0 w4 from bl_trans (by repeat (first | with_reducible exact HDt3.out | with_reducible refine Below.drew ?_ | with_reducible refine bl_drewN ?_ _ | with_reducible refine bl_alloc ?_ _)) hb)
  clear hb HB3 HDt3
  have hS4 := (Blk.two (show Blk (w4.alloc (.cells #[.int .i64 (x : Int), .int .i64 (y : Int)] 51)) (w4.heap.size) 51 #[.int .i64 (x : Int), .int .i64 (y : Int)] from by have hh := Blk.new w4 51 #[.int .i64 (x : Int), .int .i64 (y : Int)]; (try simp only [World.size_alloc] at hh); repeat (first | exact hh | with_reducible refine Blk.alloc ?_ _)))
  go_wp2_with fail
  go_region_held3 (fun W => (W.cell? ⟨w4.heap.size, 0, none⟩ = some (.int .i64 (x : Int)) ∧ W.cell? ⟨w4.heap.size, 1, none⟩ = some (.int .i64 (y : Int)))) (first | exact hS4 | exact hS5 | exact hS6)
    ((first
      | (go_at_call 63; refine (sOne_is _).mono ?_; rintro e w5 ⟨rfl, hb⟩; have hs5 := hb.size; have HB5 := Lib.hid (show Below w0.heap.size w0 w5 from bl_trans (by repeat (first | with_reducible exact HB4.out | with_reducible refine bl_drewN ?_ _ | with_reducible refine Below.drew ?_ | with_reducible refine bl_alloc ?_ _)) hb); have bs5 := Lib.hid (show Blk w5 (w4.heap.size) 51 #[.int .i64 (x : Int), .int .i64 (y : Int)] from Blk.below (by have hh := Blk.new w4 51 #[.int .i64 (x : Int), .int .i64 (y : Int)]; (try simp only [World.size_alloc] at hh); repeat (first | exact hh | with_reducible refine Blk.drewN ?_ _ | with_reducible refine Blk.drew ?_ | with_reducible refine Blk.alloc ?_ _)) hb (by first | omega | (simp; done) | (simp; omega))); have cs := bs5.out.cell; have HDt5 := Lib.hid (show Below w0.heap.size w0 w5 from bl_trans (by repeat (first | with_reducible exact HDt4.out | with_reducible refine Below.drew ?_ | with_reducible refine bl_drewN ?_ _ | with_reducible refine bl_alloc ?_ _)) hb); have hS5 := Blk.two bs5.out; clear hb)
      | (go_at_call 62; refine (sCmp_is _ x y 1 1 z HZ.out).mono ?_; rintro e w6 ⟨rfl, hb⟩; have hs6 := hb.size; have HB6 := Lib.hid (show Below w0.heap.size w0 w6 from bl_trans (by repeat (first | with_reducible exact HB5.out | with_reducible refine bl_drewN ?_ _ | with_reducible refine Below.drew ?_ | with_reducible refine bl_alloc ?_ _)) hb); have bs6 := Lib.hid (show Blk w6 (w4.heap.size) 51 #[.int .i64 (x : Int), .int .i64 (y : Int)] from Blk.below (by repeat (first | with_reducible exact bs5.out | with_reducible refine Blk.drewN ?_ _ | with_reducible refine Blk.drew ?_ | with_reducible refine Blk.alloc ?_ _)) hb (by have := bs5.out.lt; first | exact this | omega | (simp; omega))); have cs := bs6.out.cell; have HDt6 := Lib.hid (show Below w0.heap.size w0 w6 from bl_trans (by repeat (first | with_reducible exact HDt5.out | with_reducible refine Below.drew ?_ | with_reducible refine bl_drewN ?_ _ | with_reducible refine bl_alloc ?_ _)) hb); have hS6 := Blk.two bs6.out; clear hb)))
  have hks6 := bs6.out.lt
  have cs := bs6.out.cell
  go_wp2
  (try (go_quiet (fail); go_wp2))
  refine bodyPost_ret (v := .bool b) (by simp [results, Tryd.results56, go_sem]) rfl ⟨rfl, (by repeat (first | with_reducible exact HB6.out | refine bl_drewN ?_ _ | refine Below.drew ?_ | refine bl_alloc ?_ _ | refine bl_set ?_ (by dsimp only; omega) _))⟩
end

section
/- Two cells of a block behind two stores into another block; parts of lists. -/
open Go.RowKit
theorem two_set1 {w : World} {a c : Nat} {x y : Value} (h : w.cell? ⟨a, 0, none⟩ = some x ∧ w.cell? ⟨a, 1, none⟩ = some y) (hc : a ≠ c) (u v : Value) :
    ((w.setCell ⟨c, 0, none⟩ u).setCell ⟨c, 1, none⟩ v).cell? ⟨a, 0, none⟩ = some x ∧ ((w.setCell ⟨c, 0, none⟩ u).setCell ⟨c, 1, none⟩ v).cell? ⟨a, 1, none⟩ = some y := by
  have k : ∀ (X : World) (i j : Nat) (z : Value), (X.setCell ⟨c, j, none⟩ z).cell? ⟨a, i, none⟩ = X.cell? ⟨a, i, none⟩ := fun X i j z =>
    World.cell?_setCell_other X _ _ _ (fun e => by injection e with e1; exact hc e1.symm)
  exact ⟨(k _ _ _ _).trans ((k _ _ _ _).trans h.1), (k _ _ _ _).trans ((k _ _ _ _).trans h.2)⟩
theorem two_set2 {w : World} {a b c : Nat} {x y s t : Value} (h : (w.cell? ⟨a, 0, none⟩ = some x ∧ w.cell? ⟨a, 1, none⟩ = some y) ∧ (w.cell? ⟨b, 0, none⟩ = some s ∧ w.cell? ⟨b, 1, none⟩ = some t)) (ha : a ≠ c) (hb : b ≠ c) (u v : Value) :
    (((w.setCell ⟨c, 0, none⟩ u).setCell ⟨c, 1, none⟩ v).cell? ⟨a, 0, none⟩ = some x ∧ ((w.setCell ⟨c, 0, none⟩ u).setCell ⟨c, 1, none⟩ v).cell? ⟨a, 1, none⟩ = some y) ∧ (((w.setCell ⟨c, 0, none⟩ u).setCell ⟨c, 1, none⟩ v).cell? ⟨b, 0, none⟩ = some s ∧ ((w.setCell ⟨c, 0, none⟩ u).setCell ⟨c, 1, none⟩ v).cell? ⟨b, 1, none⟩ = some t) :=
  ⟨two_set1 h.1 ha u v, two_set1 h.2 hb u v⟩
end

end Go.Proofs.YtgfnlfjaekkdfaaDoor
