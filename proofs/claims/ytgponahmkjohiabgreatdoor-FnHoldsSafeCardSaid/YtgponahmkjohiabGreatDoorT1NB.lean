import Derived.LoopTactic
import Derived.Deep.QuietTactic
import Derived.BigQuiet
import Derived.LaidEql
import Derived.Stop.Asserts
import Derived.RowKitTokens
import Derived.RegionTactic
import Derived.ChangeAlike
import Derived.Deep.RegionWith
import Derived.Deep.RegionHeld3
import Derived.Test.YtgponahmkjohiabGreatDoorT1NA
namespace Go.Proofs.YtgponahmkjohiabGreatDoor
section
/-- A fraction in lowest terms. -/
def redN (n d : Nat) : Nat × Nat := (n / Nat.gcd n d, d / Nat.gcd n d)
theorem red_pos {n d : Nat} (h : 0 < d) : 0 < (redN n d).2 := by
  unfold redN
  exact Nat.div_pos (Nat.le_of_dvd h (Nat.gcd_dvd_right n d)) (Nat.gcd_pos_of_pos_right n h)
theorem red_cop {n d : Nat} (h : 0 < d) : Nat.Coprime (redN n d).1 (redN n d).2 := by
  unfold redN
  exact Nat.coprime_div_gcd_div_gcd (Nat.gcd_pos_of_pos_right n h)
/-- The same fraction. -/
theorem red_same (n d : Nat) : (redN n d).1 * d = n * (redN n d).2 := by
  unfold redN
  obtain ⟨a, ha⟩ := Nat.gcd_dvd_left n d
  obtain ⟨b, hb⟩ := Nat.gcd_dvd_right n d
  rcases Nat.eq_zero_or_pos (Nat.gcd n d) with h0 | hp
  · rw [h0]
    have : n = 0 := by rw [h0] at ha; simpa using ha
    simp [this]
  · have e1 : n / Nat.gcd n d = a := by rw [Nat.div_eq_of_eq_mul_right hp ha]
    have e2 : d / Nat.gcd n d = b := by rw [Nat.div_eq_of_eq_mul_right hp hb]
    show n / Nat.gcd n d * d = n * (d / Nat.gcd n d)
    rw [e1, e2]
    calc a * d = a * (Nat.gcd n d * b) := by rw [← hb]
      _ = (Nat.gcd n d * a) * b := by ac_rfl
      _ = n * b := by rw [← ha]
theorem frac_unique {n d n' d' : Nat} (hc : Nat.Coprime n d) (hc' : Nat.Coprime n' d') (hd : 0 < d) (hd' : 0 < d') (h : n * d' = n' * d) : n = n' ∧ d = d' := by
  have h1 : d ∣ d' := by
    have : d ∣ n * d' := by rw [h]; exact Nat.dvd_mul_left d n'
    exact hc.symm.dvd_of_dvd_mul_left this
  have h2 : d' ∣ d := by
    have : d' ∣ n' * d := by rw [← h]; exact Nat.dvd_mul_left d' n
    exact hc'.symm.dvd_of_dvd_mul_left this
  have e := Nat.dvd_antisymm h1 h2
  subst e
  exact ⟨Nat.eq_of_mul_eq_mul_right hd h, rfl⟩
theorem red_of_cop {n d : Nat} (hc : Nat.Coprime n d) : redN n d = (n, d) := by
  unfold redN
  have : Nat.gcd n d = 1 := hc
  rw [this, Nat.div_one, Nat.div_one]
/-- Equal fractions have one form. -/
theorem red_eq {n d n' d' : Nat} (hd : 0 < d) (hd' : 0 < d') (h : n * d' = n' * d) : redN n d = redN n' d' := by
  have e1 := red_same n d
  have e2 := red_same n' d'
  have p1 := red_pos (n := n) hd
  have p2 := red_pos (n := n') hd'
  have key : (redN n d).1 * (redN n' d').2 = (redN n' d').1 * (redN n d).2 := by
    have : ((redN n d).1 * (redN n' d').2) * (d * d') = ((redN n' d').1 * (redN n d).2) * (d * d') := by
      calc ((redN n d).1 * (redN n' d').2) * (d * d') = ((redN n d).1 * d) * ((redN n' d').2 * d') := by ac_rfl
        _ = (n * (redN n d).2) * ((redN n' d').2 * d') := by rw [e1]
        _ = (n * d') * ((redN n d).2 * (redN n' d').2) := by ac_rfl
        _ = (n' * d) * ((redN n d).2 * (redN n' d').2) := by rw [h]
        _ = (n' * (redN n' d').2) * ((redN n d).2 * d) := by ac_rfl
        _ = ((redN n' d').1 * d') * ((redN n d).2 * d) := by rw [e2]
        _ = ((redN n' d').1 * (redN n d).2) * (d * d') := by ac_rfl
    exact Nat.eq_of_mul_eq_mul_right (Nat.mul_pos hd hd') this
  obtain ⟨a, b⟩ := frac_unique (red_cop hd) (red_cop hd') p1 p2 key
  exact Prod.ext a b
/-- The sum of two fractions. -/
def addN (a b : Nat × Nat) : Nat × Nat := redN (a.1 * b.2 + b.1 * a.2) (a.2 * b.2)
theorem add_comm (a b : Nat × Nat) : addN a b = addN b a := by
  unfold addN
  rw [Nat.add_comm, Nat.mul_comm a.2 b.2]
/-- A sum does not turn with the form of what is added. -/
theorem add_rep {a b : Nat × Nat} {n d : Nat} (ha : 0 < a.2) (hb : 0 < b.2) (hd : 0 < d) (h : a.1 * d = n * a.2) : addN a b = redN (n * b.2 + b.1 * d) (d * b.2) := by
  refine red_eq (Nat.mul_pos ha hb) (Nat.mul_pos hd hb) ?_
  calc (a.1 * b.2 + b.1 * a.2) * (d * b.2) = (a.1 * d) * (b.2 * b.2) + b.1 * a.2 * (d * b.2) := by rw [Nat.add_mul]; ac_rfl
    _ = (n * a.2) * (b.2 * b.2) + b.1 * a.2 * (d * b.2) := by rw [h]
    _ = (n * b.2 + b.1 * d) * (a.2 * b.2) := by rw [Nat.add_mul]; ac_rfl
theorem add_assoc {a b c : Nat × Nat} (ha : 0 < a.2) (hb : 0 < b.2) (hc : 0 < c.2) : addN (addN a b) c = addN a (addN b c) := by
  have e1 : addN (addN a b) c = redN ((a.1 * b.2 + b.1 * a.2) * c.2 + c.1 * (a.2 * b.2)) (a.2 * b.2 * c.2) :=
    add_rep (red_pos (Nat.mul_pos ha hb)) hc (Nat.mul_pos ha hb) (red_same _ _)
  have e2 : addN (addN b c) a = redN ((b.1 * c.2 + c.1 * b.2) * a.2 + a.1 * (b.2 * c.2)) (b.2 * c.2 * a.2) :=
    add_rep (red_pos (Nat.mul_pos hb hc)) ha (Nat.mul_pos hb hc) (red_same _ _)
  rw [e1, add_comm a, e2]
  have h1 : (a.1 * b.2 + b.1 * a.2) * c.2 + c.1 * (a.2 * b.2) = (b.1 * c.2 + c.1 * b.2) * a.2 + a.1 * (b.2 * c.2) := by
    rw [Nat.add_mul, Nat.add_mul]; ac_rfl
  have h2 : a.2 * b.2 * c.2 = b.2 * c.2 * a.2 := by ac_rfl
  rw [h1, h2]
theorem add_zero {a : Nat × Nat} (hc : Nat.Coprime a.1 a.2) : addN a (0, 1) = a := by
  unfold addN
  simp
  exact red_of_cop hc
theorem add_pos {a b : Nat × Nat} (ha : 0 < a.2) (hb : 0 < b.2) : 0 < (addN a b).2 := red_pos (Nat.mul_pos ha hb)
theorem add_cop {a b : Nat × Nat} (ha : 0 < a.2) (hb : 0 < b.2) : Nat.Coprime (addN a b).1 (addN a b).2 := red_cop (Nat.mul_pos ha hb)
/-- The reference's road: over the least common denominator. -/
theorem add_ref {a b : Nat × Nat} (ha : 0 < a.2) (hb : 0 < b.2) :
    redN (a.1 * (b.2 / Nat.gcd a.2 b.2) + b.1 * (a.2 / Nat.gcd a.2 b.2)) (a.2 / Nat.gcd a.2 b.2 * b.2) = addN a b := by
  have hg : 0 < Nat.gcd a.2 b.2 := Nat.gcd_pos_of_pos_left _ ha
  obtain ⟨x, hx⟩ := Nat.gcd_dvd_left a.2 b.2
  obtain ⟨y, hy⟩ := Nat.gcd_dvd_right a.2 b.2
  have e1 : a.2 / Nat.gcd a.2 b.2 = x := Nat.div_eq_of_eq_mul_right hg hx
  have e2 : b.2 / Nat.gcd a.2 b.2 = y := Nat.div_eq_of_eq_mul_right hg hy
  rw [e1, e2]
  generalize Nat.gcd a.2 b.2 = g at hx hy hg
  have hxp : 0 < x := Nat.pos_of_ne_zero (fun h => by rw [h] at hx; simp at hx; omega)
  refine red_eq (Nat.mul_pos hxp hb) (Nat.mul_pos ha hb) ?_
  calc (a.1 * y + b.1 * x) * (a.2 * b.2) = a.1 * y * (a.2 * b.2) + b.1 * x * (a.2 * b.2) := Nat.add_mul _ _ _
    _ = a.1 * y * ((g * x) * b.2) + b.1 * x * (a.2 * b.2) := by rw [← hx]
    _ = a.1 * (g * y) * (x * b.2) + b.1 * a.2 * (x * b.2) := by congr 1 <;> ac_rfl
    _ = a.1 * b.2 * (x * b.2) + b.1 * a.2 * (x * b.2) := by rw [← hy]
    _ = (a.1 * b.2 + b.1 * a.2) * (x * b.2) := (Nat.add_mul _ _ _).symm
/-- Comparing. -/
def leN (a b : Nat × Nat) : Prop := a.1 * b.2 ≤ b.1 * a.2
theorem le_add {a b : Nat × Nat} (ha : 0 < a.2) (hb : 0 < b.2) : leN a (addN a b) := by
  have e := red_same (a.1 * b.2 + b.1 * a.2) (a.2 * b.2)
  have hp := add_pos ha hb
  show a.1 * (addN a b).2 ≤ (addN a b).1 * a.2
  have e' : (addN a b).1 * (a.2 * b.2) = (a.1 * b.2 + b.1 * a.2) * (addN a b).2 := e
  refine Nat.le_of_mul_le_mul_right ?_ hb
  calc a.1 * (addN a b).2 * b.2 = a.1 * b.2 * (addN a b).2 := by ac_rfl
    _ ≤ (a.1 * b.2 + b.1 * a.2) * (addN a b).2 := Nat.mul_le_mul_right _ (Nat.le_add_right _ _)
    _ = (addN a b).1 * (a.2 * b.2) := e'.symm
    _ = (addN a b).1 * a.2 * b.2 := by ac_rfl
/-- Adding the same keeps the order. -/
theorem add_le_iff {a b c : Nat × Nat} (ha : 0 < a.2) (hb : 0 < b.2) (hc : 0 < c.2) : leN (addN a c) (addN b c) ↔ leN a b := by
  have e1 : (addN a c).1 * (a.2 * c.2) = (a.1 * c.2 + c.1 * a.2) * (addN a c).2 := red_same _ _
  have e2 : (addN b c).1 * (b.2 * c.2) = (b.1 * c.2 + c.1 * b.2) * (addN b c).2 := red_same _ _
  have p1 := add_pos ha hc
  have p2 := add_pos hb hc
  unfold leN
  have hm : 0 < (a.2 * c.2) * (b.2 * c.2) := Nat.mul_pos (Nat.mul_pos ha hc) (Nat.mul_pos hb hc)
  have L : (addN a c).1 * (addN b c).2 * ((a.2 * c.2) * (b.2 * c.2)) = (a.1 * b.2 * (c.2 * c.2) + c.1 * a.2 * (b.2 * c.2)) * ((addN a c).2 * (addN b c).2) := by
    calc _ = ((addN a c).1 * (a.2 * c.2)) * ((addN b c).2 * (b.2 * c.2)) := by ac_rfl
      _ = ((a.1 * c.2 + c.1 * a.2) * (addN a c).2) * ((addN b c).2 * (b.2 * c.2)) := by rw [e1]
      _ = ((a.1 * c.2 + c.1 * a.2) * (b.2 * c.2)) * ((addN a c).2 * (addN b c).2) := by ac_rfl
      _ = _ := by rw [Nat.add_mul (a.1 * c.2)]; congr 2; ac_rfl
  have R : (addN b c).1 * (addN a c).2 * ((a.2 * c.2) * (b.2 * c.2)) = (b.1 * a.2 * (c.2 * c.2) + c.1 * a.2 * (b.2 * c.2)) * ((addN a c).2 * (addN b c).2) := by
    calc _ = ((addN b c).1 * (b.2 * c.2)) * ((addN a c).2 * (a.2 * c.2)) := by ac_rfl
      _ = ((b.1 * c.2 + c.1 * b.2) * (addN b c).2) * ((addN a c).2 * (a.2 * c.2)) := by rw [e2]
      _ = ((b.1 * c.2 + c.1 * b.2) * (a.2 * c.2)) * ((addN a c).2 * (addN b c).2) := by ac_rfl
      _ = _ := by rw [Nat.add_mul (b.1 * c.2)]; congr 1; congr 1 <;> ac_rfl
  have hq : 0 < (addN a c).2 * (addN b c).2 := Nat.mul_pos p1 p2
  have hcc : 0 < c.2 * c.2 := Nat.mul_pos hc hc
  constructor
  · intro h
    have h' := Nat.mul_le_mul_right ((a.2 * c.2) * (b.2 * c.2)) h
    rw [L, R] at h'
    have h2 := Nat.le_of_mul_le_mul_right h' hq
    have h3 : a.1 * b.2 * (c.2 * c.2) ≤ b.1 * a.2 * (c.2 * c.2) := by omega
    exact Nat.le_of_mul_le_mul_right h3 hcc
  · intro h
    refine Nat.le_of_mul_le_mul_right ?_ hm
    rw [L, R]
    refine Nat.mul_le_mul_right _ ?_
    have := Nat.mul_le_mul_right (c.2 * c.2) h
    omega
/-- Sums over lists. -/
def sumN (xs : List (Nat × Nat)) : Nat × Nat := xs.foldl addN (0, 1)
theorem foldl_add : ∀ (xs : List (Nat × Nat)) (a : Nat × Nat), 0 < a.2 → Nat.Coprime a.1 a.2 → (∀ x ∈ xs, 0 < x.2) → xs.foldl addN a = addN a (sumN xs) ∧ 0 < (sumN xs).2 ∧ Nat.Coprime (sumN xs).1 (sumN xs).2
  | [], a, ha, hc, _ => ⟨(add_zero hc).symm, by decide, by decide⟩
  | x :: xs, a, ha, hc, h => by
    have hx := h x (by simp)
    have hr : ∀ y ∈ xs, 0 < y.2 := fun y hy => h y (List.mem_cons_of_mem _ hy)
    obtain ⟨i1, p, c⟩ := foldl_add xs (addN a x) (add_pos ha hx) (add_cop ha hx) hr
    obtain ⟨i2, _, _⟩ := foldl_add xs (addN (0, 1) x) (add_pos (by decide) hx) (add_cop (by decide) hx) hr
    have e : sumN (x :: xs) = addN (addN (0, 1) x) (sumN xs) := i2
    refine ⟨?_, ?_, ?_⟩
    · rw [List.foldl_cons, i1, e, add_assoc ha hx p]
      have : addN (addN (0, 1) x) (sumN xs) = addN x (sumN xs) := by
        have h0 : addN (0, 1) x = redN x.1 x.2 := by unfold addN; simp
        rw [h0]
        exact add_rep (red_pos hx) p hx (red_same _ _)
      rw [this]
    · rw [e]; exact add_pos (add_pos (by decide) hx) p
    · rw [e]; exact add_cop (add_pos (by decide) hx) p
end
section
theorem red_le_num (n d : Nat) : (redN n d).1 ≤ n := Nat.div_le_self _ _
theorem red_le_den (n d : Nat) : (redN n d).2 ≤ d := Nat.div_le_self _ _
/-- Comparing: -1, 0, 1. -/
def cmpN (a b : Nat × Nat) : Int := if a.1 * b.2 < b.1 * a.2 then -1 else if b.1 * a.2 < a.1 * b.2 then 1 else 0
theorem cmp_self (a : Nat × Nat) : cmpN a a = 0 := by
  unfold cmpN
  simp
theorem cmp_le (a b : Nat × Nat) : cmpN a b ≤ 0 ↔ leN a b := by
  unfold cmpN leN
  split
  · constructor <;> intro _ <;> omega
  · split
    · constructor <;> intro _ <;> omega
    · constructor <;> intro _ <;> omega
theorem cmp_zero {a b : Nat × Nat} (ha : 0 < a.2) (hb : 0 < b.2) (ca : Nat.Coprime a.1 a.2) (cb : Nat.Coprime b.1 b.2) : cmpN a b = 0 ↔ a = b := by
  constructor
  · intro h
    have e : a.1 * b.2 = b.1 * a.2 := by
      unfold cmpN at h
      split at h
      · omega
      · split at h
        · omega
        · omega
    obtain ⟨x, y⟩ := frac_unique ca cb ha hb e
    exact Prod.ext x y
  · rintro rfl
    exact cmp_self a
theorem le_trans' {a b c : Nat × Nat} (hb : 0 < b.2) (h1 : leN a b) (h2 : leN b c) : leN a c := by
  unfold leN at *
  refine Nat.le_of_mul_le_mul_right ?_ hb
  calc a.1 * c.2 * b.2 = (a.1 * b.2) * c.2 := by ac_rfl
    _ ≤ (b.1 * a.2) * c.2 := Nat.mul_le_mul_right _ h1
    _ = (b.1 * c.2) * a.2 := by ac_rfl
    _ ≤ (c.1 * b.2) * a.2 := Nat.mul_le_mul_right _ h2
    _ = c.1 * a.2 * b.2 := by ac_rfl
theorem le_refl' (a : Nat × Nat) : leN a a := Nat.le_refl _
theorem add_mono {a b c d : Nat × Nat} (ha : 0 < a.2) (hb : 0 < b.2) (hc : 0 < c.2) (hd : 0 < d.2) (h1 : leN a b) (h2 : leN c d) : leN (addN a c) (addN b d) := by
  refine le_trans' (add_pos hb hc) ((add_le_iff ha hb hc).2 h1) ?_
  rw [add_comm b c, add_comm b d]
  exact (add_le_iff hc hd hb).2 h2
theorem sum_pos {xs : List (Nat × Nat)} (h : ∀ x ∈ xs, 0 < x.2) : 0 < (sumN xs).2 := (foldl_add xs (0, 1) (by decide) (by decide) h).2.1
theorem sum_cop {xs : List (Nat × Nat)} (h : ∀ x ∈ xs, 0 < x.2) : Nat.Coprime (sumN xs).1 (sumN xs).2 := (foldl_add xs (0, 1) (by decide) (by decide) h).2.2
theorem sum_cons {x : Nat × Nat} {xs : List (Nat × Nat)} (h : ∀ y ∈ x :: xs, 0 < y.2) : sumN (x :: xs) = addN x (sumN xs) := by
  have hx := h x (by simp)
  have hr : ∀ y ∈ xs, 0 < y.2 := fun y hy => h y (List.mem_cons_of_mem _ hy)
  have e : sumN (x :: xs) = addN (addN (0, 1) x) (sumN xs) := (foldl_add xs (addN (0, 1) x) (add_pos (by decide) hx) (add_cop (by decide) hx) hr).1
  rw [e]
  have h0 : addN (0, 1) x = redN x.1 x.2 := by unfold addN; simp
  rw [h0]
  exact add_rep (red_pos hx) (sum_pos hr) hx (red_same _ _)
theorem map_pos {α : Type} {f : α → Nat × Nat} {l : List α} (h : ∀ t ∈ l, 0 < (f t).2) : ∀ x ∈ l.map f, 0 < x.2 := by
  intro x hx
  obtain ⟨u, hu, rfl⟩ := List.mem_map.1 hx
  exact h u hu
/-- The form of the parts does not matter. -/
theorem sum_rep {α : Type} (f g : α → Nat × Nat) : ∀ (l : List α), (∀ t ∈ l, 0 < (f t).2 ∧ 0 < (g t).2 ∧ (f t).1 * (g t).2 = (g t).1 * (f t).2) → sumN (l.map f) = sumN (l.map g)
  | [], _ => rfl
  | t :: l, h => by
    have ht := h t (by simp)
    have pf := map_pos (f := f) (l := t :: l) fun u hu => (h u hu).1
    have pg := map_pos (f := g) (l := t :: l) fun u hu => (h u hu).2.1
    have sg : 0 < (sumN (l.map g)).2 := sum_pos (map_pos fun u hu => (h u (List.mem_cons_of_mem _ hu)).2.1)
    rw [List.map_cons] at pf pg
    rw [List.map_cons, List.map_cons, sum_cons pf, sum_cons pg, sum_rep f g l fun u hu => h u (List.mem_cons_of_mem _ hu)]
    exact add_rep ht.1 sg ht.2.1 ht.2.2
/-- Sums grow with their parts. -/
theorem sum_mono {α : Type} (f g : α → Nat × Nat) : ∀ (l : List α), (∀ t ∈ l, 0 < (f t).2 ∧ 0 < (g t).2 ∧ leN (f t) (g t)) → leN (sumN (l.map f)) (sumN (l.map g))
  | [], _ => le_refl' _
  | t :: l, h => by
    have ht := h t (by simp)
    have pf := map_pos (f := f) (l := t :: l) fun u hu => (h u hu).1
    have pg := map_pos (f := g) (l := t :: l) fun u hu => (h u hu).2.1
    have sf : 0 < (sumN (l.map f)).2 := sum_pos (map_pos fun u hu => (h u (List.mem_cons_of_mem _ hu)).1)
    have sg : 0 < (sumN (l.map g)).2 := sum_pos (map_pos fun u hu => (h u (List.mem_cons_of_mem _ hu)).2.1)
    rw [List.map_cons] at pf pg
    rw [List.map_cons, List.map_cons, sum_cons pf, sum_cons pg]
    exact add_mono ht.1 ht.2.1 sf sg ht.2.2 (sum_mono f g l fun u hu => h u (List.mem_cons_of_mem _ hu))
/-- A sum is nothing exactly if all parts are nothing. -/
theorem red_zero {n d : Nat} (h : 0 < d) : (redN n d).1 = 0 ↔ n = 0 := by
  have e := red_same n d
  have p := red_pos (n := n) h
  constructor
  · intro h0
    rw [h0, Nat.zero_mul] at e
    rcases Nat.mul_eq_zero.1 e.symm with h1 | h1
    · exact h1
    · omega
  · rintro rfl
    simp [redN]
theorem sum_zero : ∀ {xs : List (Nat × Nat)}, (∀ x ∈ xs, 0 < x.1 ∧ 0 < x.2) → ((sumN xs).1 = 0 ↔ xs = [])
  | [], _ => by simp [sumN]
  | x :: xs, h => by
    have hx := h x (by simp)
    have hr : ∀ y ∈ xs, 0 < y.2 := fun y hy => (h y (List.mem_cons_of_mem _ hy)).2
    rw [sum_cons (fun y hy => (h y hy).2)]
    unfold addN
    rw [red_zero (Nat.mul_pos hx.2 (sum_pos hr))]
    have : 0 < x.1 * (sumN xs).2 := Nat.mul_pos hx.1 (sum_pos hr)
    simp
    omega
/-- Over a common multiple of all: what all need until they begin together again. -/
theorem sum_common : ∀ {xs : List (Nat × Nat)} {n : Nat}, 0 < n → (∀ x ∈ xs, 0 < x.2 ∧ x.2 ∣ n) → sumN xs = redN (xs.map fun x => n / x.2 * x.1).sum n
  | [], n, hn, _ => by
    have : redN 0 n = (0, 1) := by
      unfold redN
      simp [Nat.div_self hn]
    simpa [sumN] using this.symm
  | x :: xs, n, hn, h => by
    have hx := h x (by simp)
    have hr : ∀ y ∈ xs, 0 < y.2 ∧ y.2 ∣ n := fun y hy => h y (List.mem_cons_of_mem _ hy)
    rw [sum_cons (fun y hy => (h y hy).1), sum_common hn hr, List.map_cons, List.sum_cons, add_comm, add_rep (red_pos hn) hx.1 hn (red_same _ _)]
    refine red_eq (Nat.mul_pos hn hx.1) hn ?_
    obtain ⟨k, hk⟩ := hx.2
    have : n / x.2 = k := Nat.div_eq_of_eq_mul_right hx.1 hk
    rw [this]
    generalize (List.map (fun x => n / x.2 * x.1) xs).sum = s
    rw [Nat.add_mul, Nat.add_mul]
    have e1 : s * x.2 * n = s * (n * x.2) := by ac_rfl
    have e2 : x.1 * n * n = k * x.1 * (n * x.2) := by
      calc x.1 * n * n = x.1 * n * (x.2 * k) := by rw [← hk]
        _ = k * x.1 * (n * x.2) := by ac_rfl
    rw [e1, e2, Nat.add_comm]
/-- Bounds: parts no greater than one, with small numbers. -/
theorem sum_bound : ∀ {xs : List (Nat × Nat)} {m : Nat}, (∀ x ∈ xs, 0 < x.2 ∧ x.2 ≤ m ∧ x.1 ≤ x.2) → (sumN xs).2 ≤ m ^ xs.length ∧ (sumN xs).1 ≤ xs.length * (sumN xs).2
  | [], m, _ => by simp [sumN]
  | x :: xs, m, h => by
    have hx := h x (by simp)
    have hr : ∀ y ∈ xs, 0 < y.2 ∧ y.2 ≤ m ∧ y.1 ≤ y.2 := fun y hy => h y (List.mem_cons_of_mem _ hy)
    obtain ⟨b1, b2⟩ := sum_bound hr
    have sp : 0 < (sumN xs).2 := sum_pos (fun y hy => (hr y hy).1)
    rw [sum_cons (fun y hy => (h y hy).1)]
    refine ⟨?_, ?_⟩
    · refine Nat.le_trans (red_le_den _ _) ?_
      rw [List.length_cons, Nat.pow_succ, Nat.mul_comm]
      exact Nat.mul_le_mul b1 hx.2.1
    · have e : (addN x (sumN xs)).1 * (x.2 * (sumN xs).2) = (x.1 * (sumN xs).2 + (sumN xs).1 * x.2) * (addN x (sumN xs)).2 := red_same _ _
      refine Nat.le_of_mul_le_mul_right ?_ (Nat.mul_pos hx.1 sp)
      rw [e, List.length_cons]
      have k1 : x.1 * (sumN xs).2 ≤ x.2 * (sumN xs).2 := Nat.mul_le_mul_right _ hx.2.2
      have k2 : (sumN xs).1 * x.2 ≤ xs.length * (sumN xs).2 * x.2 := Nat.mul_le_mul_right _ b2
      calc (x.1 * (sumN xs).2 + (sumN xs).1 * x.2) * (addN x (sumN xs)).2 ≤ (x.2 * (sumN xs).2 + xs.length * (sumN xs).2 * x.2) * (addN x (sumN xs)).2 := Nat.mul_le_mul_right _ (Nat.add_le_add k1 k2)
        _ = (xs.length + 1) * (addN x (sumN xs)).2 * (x.2 * (sumN xs).2) := by
          have : x.2 * (sumN xs).2 + xs.length * (sumN xs).2 * x.2 = (xs.length + 1) * (x.2 * (sumN xs).2) := by
            rw [Nat.add_mul, Nat.one_mul, Nat.add_comm]; congr 1; ac_rfl
          rw [this]; ac_rfl
end
section
/-- A share: in lowest terms, with numbers that are not too great. -/
structure Sh (n d : Nat) : Prop where
  pos : 1 ≤ d
  num : n ≤ 1000000000
  den : d ≤ 1000000000
  cop : Nat.gcd n d = 1
def mkB (n d : Int) : Bool := decide (0 ≤ n) && (decide (n ≤ 1000000000) && (decide (1 ≤ d) && decide (d ≤ 1000000000)))
def mkS (n d : Int) : Nat × Nat := if mkB n d then redN n.toNat d.toNat else (0, 0)
def shB (n d : Int) : Bool := mkB n d && (Nat.gcd n.toNat d.toNat == 1)
def addB (a b : Nat × Nat) : Bool := decide ((addN a b).1 ≤ 1000000000) && decide ((addN a b).2 ≤ 1000000000)
def plusB (n d m e : Int) : Bool := shB n d && (shB m e && addB (n.toNat, d.toNat) (m.toNat, e.toNat))
def plusS (n d m e : Int) : Nat × Nat := if plusB n d m e then addN (n.toNat, d.toNat) (m.toNat, e.toNat) else (0, 0)
def cmpS (n d m e : Int) : Int := if shB n d && shB m e then cmpN (n.toNat, d.toNat) (m.toNat, e.toNat) else 0
theorem mk_nat {n d : Int} (h : mkB n d = true) : ∃ a b : Nat, n = a ∧ d = b ∧ a ≤ 1000000000 ∧ 1 ≤ b ∧ b ≤ 1000000000 := by
  unfold mkB at h
  simp at h
  exact ⟨n.toNat, d.toNat, by omega, by omega, by omega, by omega, by omega⟩
theorem nat_mk {a b : Nat} (h1 : a ≤ 1000000000) (h2 : 1 ≤ b) (h3 : b ≤ 1000000000) : mkB a b = true := by
  unfold mkB
  simp
  omega
theorem mk_no {n d : Int} (h : mkB n d = false) : n < 0 ∨ 1000000000 < n ∨ d < 1 ∨ 1000000000 < d := by
  unfold mkB at h
  simp at h
  omega
theorem mkS_nat {a b : Nat} (h1 : a ≤ 1000000000) (h2 : 1 ≤ b) (h3 : b ≤ 1000000000) : mkS a b = redN a b := by
  unfold mkS
  rw [nat_mk h1 h2 h3]
  rfl
theorem mkS_no {n d : Int} (h : mkB n d = false) : mkS n d = (0, 0) := by unfold mkS; rw [h]; rfl
theorem sh_red {a b : Nat} (h1 : a ≤ 1000000000) (h2 : 1 ≤ b) (h3 : b ≤ 1000000000) : Sh (redN a b).1 (redN a b).2 :=
  ⟨red_pos h2, Nat.le_trans (red_le_num _ _) h1, Nat.le_trans (red_le_den _ _) h3, red_cop h2⟩
theorem sh_of {n d : Int} (h : shB n d = true) : ∃ a b : Nat, n = a ∧ d = b ∧ Sh a b := by
  unfold shB at h
  rw [Bool.and_eq_true] at h
  obtain ⟨a, b, rfl, rfl, h1, h2, h3⟩ := mk_nat h.1
  exact ⟨a, b, rfl, rfl, h2, h1, h3, by simpa using h.2⟩
theorem of_sh {a b : Nat} (h : Sh a b) : shB a b = true := by
  unfold shB
  rw [nat_mk h.num h.pos h.den]
  simp [h.cop]
theorem sh_redN {a b : Nat} (h : Sh a b) : redN a b = (a, b) := red_of_cop h.cop
theorem gcd_one {a b : Nat} (hb : 0 < b) (h : b / Nat.gcd a b = b) : Nat.gcd a b = 1 := by
  have hg : 0 < Nat.gcd a b := Nat.gcd_pos_of_pos_right a hb
  have h1 := Nat.div_mul_cancel (Nat.gcd_dvd_right a b)
  rw [h] at h1
  have : b * Nat.gcd a b = b * 1 := by omega
  exact Nat.eq_of_mul_eq_mul_left hb this
theorem plus_sh {a b c d : Nat} (h : Sh a b) (k : Sh c d) : plusB a b c d = addB (a, b) (c, d) ∧ plusS a b c d = if addB (a, b) (c, d) then addN (a, b) (c, d) else (0, 0) := by
  have e : plusB a b c d = addB (a, b) (c, d) := by unfold plusB; rw [of_sh h, of_sh k]; simp
  refine ⟨e, ?_⟩
  unfold plusS
  rw [e]
  simp
theorem plus_no {n d m e : Int} (h : plusB n d m e = false) : plusS n d m e = (0, 0) := by unfold plusS; rw [h]; rfl
theorem cmp_sh {a b c d : Nat} (h : Sh a b) (k : Sh c d) : cmpS a b c d = cmpN (a, b) (c, d) := by
  unfold cmpS; rw [of_sh h, of_sh k]; rfl
theorem cmp_left {n d : Int} (m e : Int) (h : shB n d = false) : cmpS n d m e = 0 := by unfold cmpS; rw [h]; rfl
theorem cmp_right {m e : Int} (n d : Int) (h : shB m e = false) : cmpS n d m e = 0 := by unfold cmpS; rw [h]; simp
theorem cmpS_zero {a b c d : Nat} (h : Sh a b) (k : Sh c d) : cmpS a b c d = 0 ↔ a = c ∧ b = d := by
  rw [cmp_sh h k, cmp_zero (a := (a, b)) (b := (c, d)) h.pos k.pos h.cop k.cop, Prod.mk.injEq]
end
section
open Go.RowKit
def GcdOf (a b : Nat) (w : World) (e : Ending) (w' : World) : Prop := e = .returned (.int .i64 (Nat.gcd a b)) ∧ Below w.heap.size w w'
set_option maxHeartbeats 1000000 in
theorem iGcd_big (w : World) (a b : Nat) (ha : a ≤ 4611686018427387904) (hb : b ≤ 4611686018427387904) :
    Calls Tryz.prog 158 #[.int .i64 a, .int .i64 b] w (GcdOf a b w) := by
  go_enter Tryz.func158, Tryz.ntmps158
  go_wp2
  go_loopw [0, 1] (fun u v wr => ∃ x y : Nat, x ≤ 4611686018427387904 ∧ y ≤ 4611686018427387904 ∧ u = .int .i64 x ∧ v = .int .i64 y ∧ Hid (Nat.gcd x y = Nat.gcd a b) ∧ Below w.heap.size w wr) (fun _ v _ => (intOf v).toNat)
  case atStart => exact ⟨a, b, ha, hb, rfl, rfl, by show _ = _; rfl, Below.refl _ _⟩
  case round =>
    obtain ⟨x, y, hx, hy, rfl, rfl, hg, hbl⟩ := hrel
    have HB := Lib.hid hbl
    clear hbl
    by_cases h0 : y = 0
    · subst h0
      go_wp2
      go_ret
      exact ⟨by have h := hg.out; rw [Nat.gcd_zero_right] at h; rw [← h]; rfl, HB.out⟩
    · have h0' : ((y : Int) != 0) = true := by simp; omega
      have h1 : 1 ≤ y := by omega
      have hm : x % y < y := Nat.mod_lt _ (by omega)
      have HG : Hid (Nat.gcd y (x % y) = Nat.gcd a b) := by show _ = _; rw [← hg.out, Nat.gcd_comm y, ← Nat.gcd_rec, Nat.gcd_comm]
      clear h0
      go_wp2
      go_quiet (fail)
      go_wp2
      go_roundw
      case rel => exact ⟨y, x % y, hy, by omega, rfl, by go_num, HG, bl_drewN HB.out _⟩
      case measure => simp [intOf]; omega
set_option maxHeartbeats 1000000 in
theorem sGcd_big (w : World) (a b : Nat) (ha : a ≤ 4611686018427387904) (hb : b ≤ 4611686018427387904) :
    Calls Tryz.prog 119 #[.int .i64 a, .int .i64 b] w fun e w' => e = .returned (.int .i64 (Nat.gcd a b)) ∧ w' = w := by
  go_enter Tryz.func119, Tryz.ntmps119
  go_wp2
  go_loop [0, 1] (fun u v => ∃ x y : Nat, x ≤ 4611686018427387904 ∧ y ≤ 4611686018427387904 ∧ u = .int .i64 x ∧ v = .int .i64 y ∧ Hid (Nat.gcd x y = Nat.gcd a b)) (fun _ v => (intOf v).toNat)
  case atStart => exact ⟨a, b, ha, hb, rfl, rfl, by show _ = _; rfl⟩
  case round =>
    obtain ⟨x, y, hx, hy, rfl, rfl, hg⟩ := hrel
    by_cases h0 : y = 0
    · subst h0
      go_wp2
      go_ret
      exact ⟨by have h := hg.out; rw [Nat.gcd_zero_right] at h; rw [← h]; rfl, rfl⟩
    · have h0' : ((y : Int) != 0) = true := by simp; omega
      have h1 : 1 ≤ y := by omega
      have hm : x % y < y := Nat.mod_lt _ (by omega)
      have HG : Hid (Nat.gcd y (x % y) = Nat.gcd a b) := by show _ = _; rw [← hg.out, Nat.gcd_comm y, ← Nat.gcd_rec, Nat.gcd_comm]
      clear h0
      go_wp2
      go_round
      case rel => exact ⟨y, x % y, hy, by omega, rfl, by go_num, HG⟩
      case measure => simp [intOf]; omega
end
section
open Go.RowKit Go.Extern.Stop Go.Stop Go.Extern
/-- The variable holds the address a of an error. -/
def EG (w : World) (a : Addr) : Prop := w.cell? ⟨0, 0, none⟩ = some (.iface 203 (.pointer (some a)))
theorem EG.lt {w : World} {a : Addr} (h : EG w a) : 0 < w.heap.size := World.block_lt_of_cell? w _ h
theorem EG.below {w w' : World} {a : Addr} (h : EG w a) (hb : Below w.heap.size w w') : EG w' a := (hb.cell (p := ⟨0, 0, none⟩) h.lt).trans h
theorem EG.drewN {w : World} {a : Addr} (h : EG w a) (k : Nat) : EG (w.drewN k) a := h
theorem EG.drew {w : World} {a : Addr} (h : EG w a) : EG w.drew a := h
theorem EG.alloc {w : World} {a : Addr} (h : EG w a) (o : Obj) : EG (w.alloc o) a := (World.cell?_alloc_lt w o _ h.lt).trans h
theorem EG.set {w : World} {a : Addr} (h : EG w a) {p : Addr} (hp : 0 ≠ p.block) (u : Value) : EG (w.setCell p u) a :=
  (World.cell?_setCell_other w _ _ _ (fun e => hp (by rw [e]))).trans h
theorem isTypeOf (v : Value) (w : World) : (Extern.ReflectliteType.typeOf #[.iface 203 v]).run Tryz.prog w = .ok (.iface 193 (.agg #[.pointer (some ⟨1, 203, none⟩)])) w := by kernel_rfl
/-- What the model runs for Comparable. -/
def cmpF (t : TypeId) : Sem Value := do Extern.Rtype.noPackHeld "Comparable" t; pure (.bool (← typeInfo t).comparable)
theorem isComparable (w : World) : (Extern.ReflectliteType.method cmpF #[.agg #[.pointer (some ⟨1, 203, none⟩)]]).run Tryz.prog w = .ok (.bool true) w := by kernel_rfl
theorem isMethodComparable (v : Value) (w : World) : (Go.method 340 193 v "Comparable").run Tryz.prog w = .ok (198, v) w := by kernel_rfl
theorem isComp : (Tryz.prog.info? 203).map (·.comparable) = some true := by kernel_rfl
theorem isSize : (Tryz.prog.info? 228).map (·.size) = some 1 := by kernel_rfl
/-- errors.Is(x, x), x a pointer to an errors.errorString. -/
theorem is_same (a : Addr) (w : World) :
    Calls Tryz.prog 162 #[.iface 203 (.pointer (some a)), .iface 203 (.pointer (some a))] w fun e w' => e = .returned (.bool true) ∧ w' = w := by
  obtain ⟨i, hi, hcmp⟩ := Option.map_eq_some_iff.1 isComp
  obtain ⟨j, hj, hjs⟩ := Option.map_eq_some_iff.1 isSize
  have h8 := @run_callFunc_extern Tryz.prog 166 _ Extern.ReflectliteType.typeOf Tryz.func166 (by kernel_rfl) (by kernel_rfl) (by kernel_rfl) (by kernel_rfl)
  have h32 := @run_callFunc_extern Tryz.prog 198 _ (Extern.ReflectliteType.method cmpF) Tryz.func198 (by kernel_rfl) (by kernel_rfl) (by kernel_rfl) (by kernel_rfl)
  have tT := isTypeOf
  have cT := isComparable
  have mR := isMethodComparable
  have heq := run_eql_iface_ptr_same (P := Tryz.prog) w a Tryz.underlying167 Tryz.underlying203 hi hcmp hj
  go_enter Tryz.func162, Tryz.ntmps162
  go_wp2
  refine wp_loop_rounds 1 ?_
  rw [rounds_succ]
  go_wp2
  go_ret
  exact ⟨rfl, rfl⟩
/-- errors.Is(nil, x). -/
theorem is_nil (b : Addr) (w : World) :
    Calls Tryz.prog 162 #[.nilIface, .iface 203 (.pointer (some b))] w fun e w' => e = .returned (.bool false) ∧ w' = w := by
  have hn := run_eql_iface_nil_left (P := Tryz.prog) w 203 (.pointer (some b)) Tryz.underlying167
  go_enter Tryz.func162, Tryz.ntmps162
  go_wp2
  go_ret
  exact ⟨rfl, rfl⟩
end
section
open Go.RowKit
theorem div_cast (a g : Nat) : ((a : Int) / (g : Int)) = ((a / g : Nat) : Int) := by simp
theorem red_pair {a b p q : Nat} (h : redN a b = (p, q)) : a / Nat.gcd a b = p ∧ b / Nat.gcd a b = q := by
  unfold redN at h
  exact ⟨(Prod.mk.inj h).1, (Prod.mk.inj h).2⟩
/-- What making or adding returns. -/
def MkRes (p q : Nat) (b : Bool) (w : World) (e : Ending) (w' : World) : Prop :=
  e = .returned (.tuple #[.agg #[.int .i64 (p : Int), .int .i64 (q : Int)], .bool b]) ∧ Below w.heap.size w w'
def BoolRes (b : Bool) (w : World) (e : Ending) (w' : World) : Prop := e = .returned (.bool b) ∧ Below w.heap.size w w'
set_option maxHeartbeats 1000000 in
/-- inLowestTerms, where the numbers are not too great. -/
theorem lowest_fits (w : World) (s t : Int) (a b p q : Nat) (hs : s = (a : Int)) (ht : t = (b : Int)) (ha : a ≤ 4611686018427387904) (hb0 : 1 ≤ b) (hb : b ≤ 4611686018427387904) (hr : redN a b = (p, q)) (h1 : p ≤ 1000000000) (h2 : q ≤ 1000000000) :
    Calls Tryz.prog 145 #[.int .i64 s, .int .i64 t] w fun e w' =>
      e = .returned (.tuple #[.agg #[.int .i64 (p : Int), .int .i64 (q : Int)], .nilIface]) ∧ Below w.heap.size w w' := by
  subst hs ht
  have g1 : 1 ≤ Nat.gcd a b := Nat.gcd_pos_of_pos_right a hb0
  obtain ⟨hx, hy⟩ := red_pair hr
  have qx : ((a : Int) / ((Nat.gcd a b : Nat) : Int)) = (p : Int) := by rw [div_cast, hx]
  have qy : ((b : Int) / ((Nat.gcd a b : Nat) : Int)) = (q : Int) := by rw [div_cast, hy]
  have HC := Lib.hid (fun W : World => iGcd_big W a b ha hb)
  clear hx hy hr
  go_enter Tryz.func145, Tryz.ntmps145
  go_wp2_with fail
  refine (HC.out _).mono ?_
  rintro e w1 ⟨rfl, hb1⟩
  have HB := Lib.hid (bl_trans (bl_alloc (Below.refl _ w) _) hb1)
  have bR := (Blk.new w 87 #[.int .i64 0, .int .i64 0]).below hb1 (by simp)
  have cR := bR.cell
  have fR := bR.frozen
  clear hb1 HC
  generalize Nat.gcd a b = g at *
  go_wp2
  (try go_quiet (fail))
  (try go_wp2)
  refine bodyPost_ret (v := .tuple #[.agg #[.int .i64 (p : Int), .int .i64 (q : Int)], .nilIface]) (by simp [results, Tryz.results145, go_sem, cR]) rfl ⟨rfl, (by repeat (first | exact HB.out | refine bl_drewN ?_ _ | refine Below.drew ?_ | refine bl_alloc ?_ _ | refine bl_set ?_ (by dsimp only; omega) _))⟩
set_option maxHeartbeats 1000000 in
/-- inLowestTerms, where a number is too great. -/
theorem lowest_great (w : World) (e0 : Addr) (he : EG w e0) (s t : Int) (a b p q : Nat) (hs : s = (a : Int)) (ht : t = (b : Int)) (ha : a ≤ 4611686018427387904) (hb0 : 1 ≤ b) (hb : b ≤ 4611686018427387904) (hr : redN a b = (p, q)) (h1 : 1000000000 < p ∨ 1000000000 < q) :
    Calls Tryz.prog 145 #[.int .i64 s, .int .i64 t] w fun e w' =>
      e = .returned (.tuple #[.agg #[.int .i64 0, .int .i64 0], .iface 203 (.pointer (some e0))]) ∧ Below w.heap.size w w' := by
  subst hs ht
  have g1 : 1 ≤ Nat.gcd a b := Nat.gcd_pos_of_pos_right a hb0
  obtain ⟨hx, hy⟩ := red_pair hr
  have qx : ((a : Int) / ((Nat.gcd a b : Nat) : Int)) = (p : Int) := by rw [div_cast, hx]
  have qy : ((b : Int) / ((Nat.gcd a b : Nat) : Int)) = (q : Int) := by rw [div_cast, hy]
  have HC := Lib.hid (fun W : World => iGcd_big W a b ha hb)
  have HE := Lib.hid he
  have pb : p ≤ 4611686018427387904 := by rw [← hx]; exact Nat.le_trans (Nat.div_le_self _ _) ha
  have qb : q ≤ 4611686018427387904 := by rw [← hy]; exact Nat.le_trans (Nat.div_le_self _ _) hb
  clear hx hy hr he
  go_enter Tryz.func145, Tryz.ntmps145
  go_wp2_with fail
  refine (HC.out _).mono ?_
  rintro e w1 ⟨rfl, hb1⟩
  have HB := Lib.hid (bl_trans (bl_alloc (Below.refl _ w) _) hb1)
  have bR := (Blk.new w 87 #[.int .i64 0, .int .i64 0]).below hb1 (by simp)
  have cR := fun k => (bR.drewN k).cell
  have fR := fun k => (bR.drewN k).frozen
  have hE0 : EG w1 e0 := HE.out.below HB.out
  have hE := fun k : Nat => (show (w1.drewN k).cell? ⟨0, 0, none⟩ = some (.iface 203 (.pointer (some e0))) from hE0)
  clear hb1 HC
  generalize Nat.gcd a b = g at *
  have h0 : 0 ≠ w.heap.size := by have := HE.out.lt; omega
  have hE2 := fun (k : Nat) (u v : Value) => (EG.set (EG.set (EG.drewN hE0 k) (p := ⟨w.heap.size, 0, none⟩) h0 u) (p := ⟨w.heap.size, 1, none⟩) h0 v : EG (((w1.drewN k).setCell ⟨w.heap.size, 0, none⟩ u).setCell ⟨w.heap.size, 1, none⟩ v) e0)
  unfold EG at hE2
  by_cases h3 : 1000000000 < p
  · have h4 : 1000000000 < p := h3
    go_wp2
    go_quiet (fail)
    go_wp2
    go_region
    all_goals go_wp2
    all_goals refine bodyPost_ret (v := .tuple #[.agg #[.int .i64 0, .int .i64 0], .iface 203 (.pointer (some e0))]) (by simp [results, Tryz.results145, go_sem, cR]) rfl ⟨rfl, (by repeat (first | exact HB.out | refine bl_drewN ?_ _ | refine Below.drew ?_ | refine bl_alloc ?_ _ | refine bl_set ?_ (by dsimp only; omega) _))⟩
  · have h4 : 1000000000 < q := by omega
    go_wp2
    go_quiet (fail)
    go_wp2
    go_region
    all_goals go_wp2
    all_goals refine bodyPost_ret (v := .tuple #[.agg #[.int .i64 0, .int .i64 0], .iface 203 (.pointer (some e0))]) (by simp [results, Tryz.results145, go_sem, cR]) rfl ⟨rfl, (by repeat (first | exact HB.out | refine bl_drewN ?_ _ | refine Below.drew ?_ | refine bl_alloc ?_ _ | refine bl_set ?_ (by dsimp only; omega) _))⟩
set_option maxHeartbeats 1000000 in
theorem iMake_is (w : World) (n d : Int) (p q : Nat) (b : Bool) (hp : mkS n d = (p, q)) (hb : mkB n d = b) :
    Calls Tryz.prog 159 #[.int .i64 n, .int .i64 d] w (MkRes p q b w) := by
  cases b
  · rw [mkS_no hb] at hp
    obtain ⟨rfl, rfl⟩ := Prod.mk.inj hp
    clear hp
    rcases mk_no hb with h | h | h | h
    all_goals clear hb
    all_goals go_enter Tryz.func159, Tryz.ntmps159
    all_goals go_wp2
    all_goals refine bodyPost_ret (v := .tuple #[.agg #[.int .i64 0, .int .i64 0], .bool false]) (by simp [results, Tryz.results159, go_sem]) rfl ⟨rfl, by repeat (first | exact Below.refl _ _ | refine bl_alloc ?_ _ | refine bl_set ?_ (by dsimp only; omega) _)⟩
  · obtain ⟨a, c, rfl, rfl, h1, h2, h3⟩ := mk_nat hb
    rw [mkS_nat h1 h2 h3] at hp
    have hs := sh_red h1 h2 h3
    rw [hp] at hs
    obtain ⟨_, hp1, hp2, _⟩ := hs
    dsimp only at hp1 hp2
    have HC := Lib.hid (fun W : World => lowest_fits W a c a c p q rfl rfl (by omega) h2 (by omega) hp hp1 hp2)
    clear hb hp
    go_enter Tryz.func159, Tryz.ntmps159
    go_wp2_with fail
    refine (HC.out _).mono ?_
    rintro e w1 ⟨rfl, hb1⟩
    have HB := Lib.hid (bl_trans (bl_alloc (Below.refl _ w) _) hb1)
    have bR := (Blk.new w 87 #[.int .i64 0, .int .i64 0]).below hb1 (by simp)
    have cR := fun o => (bR.alloc o).cell
    have fR := fun o => (bR.alloc o).frozen
    clear hb1 HC
    go_wp2
    go_region
    all_goals go_wp2
    all_goals refine bodyPost_ret (v := .tuple #[.agg #[.int .i64 (p : Int), .int .i64 (q : Int)], .bool true]) (by simp [results, Tryz.results159, go_sem, cR]) rfl ⟨rfl, (by repeat (first | exact HB.out | refine bl_drewN ?_ _ | refine Below.drew ?_ | refine bl_alloc ?_ _ | refine bl_set ?_ (by dsimp only; omega) _))⟩
set_option maxHeartbeats 1000000 in
theorem sMake_is (w : World) (n d : Int) (p q : Nat) (b : Bool) (hp : mkS n d = (p, q)) (hb : mkB n d = b) :
    Calls Tryz.prog 120 #[.int .i64 n, .int .i64 d] w (MkRes p q b w) := by
  cases b
  · rw [mkS_no hb] at hp
    obtain ⟨rfl, rfl⟩ := Prod.mk.inj hp
    clear hp
    rcases mk_no hb with h | h | h | h
    all_goals clear hb
    all_goals go_enter Tryz.func120, Tryz.ntmps120
    all_goals go_wp2
    all_goals refine bodyPost_ret (v := .tuple #[.agg #[.int .i64 0, .int .i64 0], .bool false]) (by simp [results, Tryz.results120, go_sem]) rfl ⟨rfl, by repeat (first | exact Below.refl _ _ | refine bl_alloc ?_ _ | refine bl_set ?_ (by dsimp only; omega) _)⟩
  · obtain ⟨a, c, rfl, rfl, h1, h2, h3⟩ := mk_nat hb
    rw [mkS_nat h1 h2 h3] at hp
    obtain ⟨hx, hy⟩ := red_pair hp
    have g1 : 1 ≤ Nat.gcd a c := Nat.gcd_pos_of_pos_right a h2
    have qx : ((a : Int) / ((Nat.gcd a c : Nat) : Int)) = (p : Int) := by rw [div_cast, hx]
    have qy : ((c : Int) / ((Nat.gcd a c : Nat) : Int)) = (q : Int) := by rw [div_cast, hy]
    have pb : p ≤ 1000000000 := by rw [← hx]; exact Nat.le_trans (Nat.div_le_self _ _) h1
    have qb : q ≤ 1000000000 := by rw [← hy]; exact Nat.le_trans (Nat.div_le_self _ _) h3
    have HC := Lib.hid (fun W : World => (by rw [Nat.gcd_comm a c]; exact sGcd_big W c a (by omega) (by omega) : Calls Tryz.prog 119 #[.int .i64 c, .int .i64 a] W fun e w' => e = .returned (.int .i64 (Nat.gcd a c)) ∧ w' = W))
    clear hb hp hx hy
    go_enter Tryz.func120, Tryz.ntmps120
    go_wp2_with fail
    refine (HC.out _).mono ?_
    rintro e w1 ⟨rfl, rfl⟩
    clear HC
    generalize Nat.gcd a c = g at *
    have HB := Lib.hid (Below.refl w.heap.size w)
    go_wp2
    go_region
    all_goals go_wp2
    all_goals refine bodyPost_ret (v := .tuple #[.agg #[.int .i64 (p : Int), .int .i64 (q : Int)], .bool true]) (by simp [results, Tryz.results120, go_sem]) rfl ⟨rfl, (by repeat (first | exact HB.out | refine bl_drewN ?_ _ | refine Below.drew ?_ | refine bl_alloc ?_ _ | refine bl_set ?_ (by dsimp only; omega) _))⟩
set_option maxHeartbeats 1000000 in
theorem iShare_is (w : World) (n d : Int) (b : Bool) (h : shB n d = b) :
    Calls Tryz.prog 160 #[.agg #[.int .i64 n, .int .i64 d]] w (BoolRes b w) := by
  cases hm : mkB n d
  · obtain rfl : b = false := by rw [← h]; unfold shB; rw [hm]; rfl
    have HC := Lib.hid (fun W : World => iMake_is W n d 0 0 false (mkS_no hm) hm)
    clear h hm
    go_enter Tryz.func160, Tryz.ntmps160
    go_wp2_with fail
    refine (HC.out _).mono ?_
    rintro e w1 ⟨rfl, hb1⟩
    have HB := Lib.hid (bl_trans (bl_alloc (Below.refl _ w) _) hb1)
    have bS : Blk w1 w.heap.size 87 #[.int .i64 n, .int .i64 d] := (Blk.new w _ _).below hb1 (by simp)
    have cS := fun o => (bS.alloc o).cell
    clear hb1 HC
    go_wp2
    (try go_quiet (fail))
    (try go_wp2)
    go_ret
    exact ⟨rfl, (by repeat (first | exact HB.out | refine bl_drewN ?_ _ | refine Below.drew ?_ | refine bl_alloc ?_ _ | refine bl_set ?_ (by dsimp only; omega) _))⟩
  · obtain ⟨a, c, rfl, rfl, h1, h2, h3⟩ := mk_nat hm
    obtain ⟨p, q, hp⟩ : ∃ p q, mkS (a : Int) (c : Int) = (p, q) := ⟨_, _, rfl⟩
    have HC := Lib.hid (fun W : World => iMake_is W a c p q true hp hm)
    rw [mkS_nat h1 h2 h3] at hp
    obtain ⟨hx, hy⟩ := red_pair hp
    have hb : b = (Nat.gcd a c == 1) := by rw [← h]; unfold shB; rw [hm]; simp
    clear h hm hp
    go_enter Tryz.func160, Tryz.ntmps160
    go_wp2_with fail
    refine (HC.out _).mono ?_
    rintro e w1 ⟨rfl, hb1⟩
    have HB := Lib.hid (bl_trans (bl_alloc (Below.refl _ w) _) hb1)
    have bS : Blk w1 w.heap.size 87 #[.int .i64 (a : Int), .int .i64 (c : Int)] := (Blk.new w _ _).below hb1 (by simp)
    have cS := fun o => (bS.alloc o).cell
    clear hb1 HC
    by_cases hg : Nat.gcd a c = 1
    · rw [hg, Nat.div_one] at hx hy
      subst hx hy
      obtain rfl : b = true := by rw [hb, hg]; rfl
      clear hg hb
      go_wp2
      (try go_quiet (fail))
      (try go_wp2)
      go_ret
      exact ⟨rfl, (by repeat (first | exact HB.out | refine bl_drewN ?_ _ | refine Below.drew ?_ | refine bl_alloc ?_ _ | refine bl_set ?_ (by dsimp only; omega) _))⟩
    · obtain rfl : b = false := by rw [hb]; simp [hg]
      have hq : ¬ q = c := fun e => hg (gcd_one (by omega) (by rw [hy, e]))
      have hq' : ((q : Int) == (c : Int)) = false := by simp; omega
      have hq2 : ¬ (q : Int) = (c : Int) := by omega
      clear hx hy hg hb hq
      by_cases hpa : p = a
      · subst hpa
        go_wp2
        (try go_quiet (fail))
        (try go_wp2)
        go_ret
        exact ⟨rfl, (by repeat (first | exact HB.out | refine bl_drewN ?_ _ | refine Below.drew ?_ | refine bl_alloc ?_ _ | refine bl_set ?_ (by dsimp only; omega) _))⟩
      · have hp' : ((p : Int) == (a : Int)) = false := by simp; omega
        have hp2 : ¬ (p : Int) = (a : Int) := by omega
        clear hpa
        go_wp2
        (try go_quiet (fail))
        (try go_wp2)
        go_ret
        exact ⟨rfl, (by repeat (first | exact HB.out | refine bl_drewN ?_ _ | refine Below.drew ?_ | refine bl_alloc ?_ _ | refine bl_set ?_ (by dsimp only; omega) _))⟩
set_option maxHeartbeats 1000000 in
theorem sShare_is (w : World) (n d : Int) (b : Bool) (h : shB n d = b) :
    Calls Tryz.prog 152 #[.agg #[.int .i64 n, .int .i64 d]] w (BoolRes b w) := by
  cases hm : mkB n d
  · obtain rfl : b = false := by rw [← h]; unfold shB; rw [hm]; rfl
    have HC := Lib.hid (fun W : World => sMake_is W n d 0 0 false (mkS_no hm) hm)
    clear h hm
    go_enter Tryz.func152, Tryz.ntmps152
    go_wp2_with fail
    refine (HC.out _).mono ?_
    rintro e w1 ⟨rfl, hb1⟩
    have HB := Lib.hid (bl_trans (bl_alloc (Below.refl _ w) _) hb1)
    have bS : Blk w1 w.heap.size 87 #[.int .i64 n, .int .i64 d] := (Blk.new w _ _).below hb1 (by simp)
    have cS := fun o => (bS.alloc o).cell
    clear hb1 HC
    go_wp2
    (try go_quiet (fail))
    (try go_wp2)
    go_ret
    exact ⟨rfl, (by repeat (first | exact HB.out | refine bl_drewN ?_ _ | refine Below.drew ?_ | refine bl_alloc ?_ _ | refine bl_set ?_ (by dsimp only; omega) _))⟩
  · obtain ⟨a, c, rfl, rfl, h1, h2, h3⟩ := mk_nat hm
    obtain ⟨p, q, hp⟩ : ∃ p q, mkS (a : Int) (c : Int) = (p, q) := ⟨_, _, rfl⟩
    have HC := Lib.hid (fun W : World => sMake_is W a c p q true hp hm)
    rw [mkS_nat h1 h2 h3] at hp
    obtain ⟨hx, hy⟩ := red_pair hp
    have hb : b = (Nat.gcd a c == 1) := by rw [← h]; unfold shB; rw [hm]; simp
    clear h hm hp
    go_enter Tryz.func152, Tryz.ntmps152
    go_wp2_with fail
    refine (HC.out _).mono ?_
    rintro e w1 ⟨rfl, hb1⟩
    have HB := Lib.hid (bl_trans (bl_alloc (Below.refl _ w) _) hb1)
    have bS : Blk w1 w.heap.size 87 #[.int .i64 (a : Int), .int .i64 (c : Int)] := (Blk.new w _ _).below hb1 (by simp)
    have cS := fun o => (bS.alloc o).cell
    clear hb1 HC
    by_cases hg : Nat.gcd a c = 1
    · rw [hg, Nat.div_one] at hx hy
      subst hx hy
      obtain rfl : b = true := by rw [hb, hg]; rfl
      clear hg hb
      go_wp2
      (try go_quiet (fail))
      (try go_wp2)
      go_ret
      exact ⟨rfl, (by repeat (first | exact HB.out | refine bl_drewN ?_ _ | refine Below.drew ?_ | refine bl_alloc ?_ _ | refine bl_set ?_ (by dsimp only; omega) _))⟩
    · obtain rfl : b = false := by rw [hb]; simp [hg]
      have hq : ¬ q = c := fun e => hg (gcd_one (by omega) (by rw [hy, e]))
      have hq' : ((q : Int) == (c : Int)) = false := by simp; omega
      have hq2 : ¬ (q : Int) = (c : Int) := by omega
      clear hx hy hg hb hq
      by_cases hpa : p = a
      · subst hpa
        go_wp2
        (try go_quiet (fail))
        (try go_wp2)
        go_ret
        exact ⟨rfl, (by repeat (first | exact HB.out | refine bl_drewN ?_ _ | refine Below.drew ?_ | refine bl_alloc ?_ _ | refine bl_set ?_ (by dsimp only; omega) _))⟩
      · have hp' : ((p : Int) == (a : Int)) = false := by simp; omega
        have hp2 : ¬ (p : Int) = (a : Int) := by omega
        clear hpa
        go_wp2
        (try go_quiet (fail))
        (try go_wp2)
        go_ret
        exact ⟨rfl, (by repeat (first | exact HB.out | refine bl_drewN ?_ _ | refine Below.drew ?_ | refine bl_alloc ?_ _ | refine bl_set ?_ (by dsimp only; omega) _))⟩
end
section
open Go.RowKit
set_option linter.unusedVariables false
/-- Further calls from a world with more blocks and draws. -/
theorem bl_from {w W W' : World} (h : Below w.heap.size w W) (k : Below W.heap.size W W') : Below w.heap.size w W' := bl_trans h k
theorem Blk.drew {w : World} {g : Nat} {t : TypeId} {cs : Array Value} (h : Blk w g t cs) : Blk w.drew g t cs := h
def IntRes' (z : Int) (w : World) (e : Ending) (w' : World) : Prop := e = .returned (.int .i64 z) ∧ Below w.heap.size w w'
theorem mul_cast (a b c : Nat) (h : a * b = c) : ((a : Int) * (b : Int)) = (c : Int) := by rw [← h]; simp
theorem mul_le9 {a b c : Nat} (h : a * b = c) (ha : a ≤ 1000000000) (hb : b ≤ 1000000000) : c ≤ 1000000000000000000 := by
  rw [← h]
  exact Nat.le_trans (Nat.mul_le_mul ha hb) (by decide)
/-- The numerators over the product of the denominators. -/
theorem cross_is (w : World) (a b x y l r : Nat) (hl : a * y = l) (hr : x * b = r) (l1 : l ≤ 1000000000000000000) (r1 : r ≤ 1000000000000000000) (a1 : a ≤ 1000000000) (b1 : b ≤ 1000000000) (x1 : x ≤ 1000000000) (y1 : y ≤ 1000000000) :
    Calls Tryz.prog 161 #[.agg #[.int .i64 (a : Int), .int .i64 (b : Int)], .agg #[.int .i64 (x : Int), .int .i64 (y : Int)]] w fun e w' =>
      e = .returned (.tuple #[.int .i64 (l : Int), .int .i64 (r : Int)]) ∧ Below w.heap.size w w' := by
  have ql := mul_cast a y l hl
  have qr := mul_cast x b r hr
  clear hl hr
  have HB := Lib.hid (Below.refl w.heap.size w)
  go_enter Tryz.func161, Tryz.ntmps161
  go_wp2
  (try go_quiet (fail))
  (try go_wp2)
  refine bodyPost_ret (v := .tuple #[.int .i64 (l : Int), .int .i64 (r : Int)]) (by simp [results, Tryz.results161, go_sem]) rfl ⟨rfl, (by repeat (first | exact HB.out | refine bl_drewN ?_ _ | refine Below.drew ?_ | refine bl_alloc ?_ _ | refine bl_set ?_ (by dsimp only; omega) _))⟩
theorem cmp_if {a b x y l r : Nat} (h : Sh a b) (k : Sh x y) (hl : a * y = l) (hr : x * b = r) : cmpS a b x y = if (l : Int) < (r : Int) then -1 else if (r : Int) < (l : Int) then 1 else 0 := by
  rw [cmp_sh h k]
  unfold cmpN
  dsimp only
  rw [hl, hr]
  simp
theorem sCmp_is (w : World) (n d m e : Int) (z : Int) (h : cmpS n d m e = z) :
    Calls Tryz.prog 123 #[.agg #[.int .i64 n, .int .i64 d], .agg #[.int .i64 m, .int .i64 e]] w (IntRes' z w) := by
  cases ha : shB n d
  · obtain rfl : z = 0 := by rw [← h]; exact cmp_left m e ha
    clear h
    have HC := Lib.hid (fun W : World => sShare_is W n d false ha)
    clear ha
    go_enter Tryz.func123, Tryz.ntmps123
    go_wp2_with fail
    refine (HC.out _).mono ?_
    rintro e w1 ⟨rfl, hb1⟩
    have HB := Lib.hid (bl_trans (bl_alloc (bl_alloc (Below.refl _ w) _) _) hb1)
    clear hb1 HC
    go_wp2
    go_ret
    exact ⟨rfl, (by repeat (first | exact HB.out | refine bl_drewN ?_ _ | refine Below.drew ?_ | refine bl_alloc ?_ _ | refine bl_set ?_ (by dsimp only; omega) _))⟩
  cases hc : shB m e
  · obtain rfl : z = 0 := by rw [← h]; exact cmp_right n d hc
    clear h
    have HC := Lib.hid (fun W : World => sShare_is W n d true ha)
    have HD := Lib.hid (fun W : World => sShare_is W m e false hc)
    clear ha hc
    go_enter Tryz.func123, Tryz.ntmps123
    go_wp2_with fail
    refine (HC.out _).mono ?_
    rintro e0 w1 ⟨rfl, hb1⟩
    have HB1 := Lib.hid (bl_trans (bl_alloc (bl_alloc (Below.refl _ w) _) _) hb1)
    have hs1 := hb1.size
    simp at hs1
    have b1 := Lib.hid (((Blk.new w 87 #[.int .i64 n, .int .i64 d]).alloc (.cells #[.int .i64 m, .int .i64 e] 87)) |>.below hb1 (by simp; omega))
    have b2 := Lib.hid ((Blk.new (w.alloc (.cells #[.int .i64 n, .int .i64 d] 87)) 87 #[.int .i64 m, .int .i64 e]) |>.below hb1 (by simp))
    have c1 := b1.out.cell
    have c2 := b2.out.cell
    simp only [World.size_alloc] at c2
    clear hb1 HC
    go_wp2_with fail
    refine (HD.out _).mono ?_
    rintro e0 w2 ⟨rfl, hb2⟩
    have HB := Lib.hid (bl_trans HB1.out hb2)
    clear hb2 HD HB1
    go_wp2
    go_ret
    exact ⟨rfl, (by repeat (first | exact HB.out | refine bl_drewN ?_ _ | refine Below.drew ?_ | refine bl_alloc ?_ _ | refine bl_set ?_ (by dsimp only; omega) _))⟩
  obtain ⟨a, b, rfl, rfl, hA⟩ := sh_of ha
  obtain ⟨x, y, rfl, rfl, hX⟩ := sh_of hc
  have HC := Lib.hid (fun W : World => sShare_is W a b true ha)
  have HD := Lib.hid (fun W : World => sShare_is W x y true hc)
  obtain ⟨a0, a1, a2, a3⟩ := hA
  obtain ⟨x0, x1, x2, x3⟩ := hX
  have HA := Lib.hid (show Sh a b from ⟨a0, a1, a2, a3⟩)
  have HX := Lib.hid (show Sh x y from ⟨x0, x1, x2, x3⟩)
  clear ha hc a3 x3
  obtain ⟨l, hl⟩ : ∃ l, a * y = l := ⟨_, rfl⟩
  obtain ⟨r, hr⟩ : ∃ r, x * b = r := ⟨_, rfl⟩
  have l1 := mul_le9 hl a1 x2
  have r1 := mul_le9 hr x1 a2
  have hz : (l < r ∧ z = -1) ∨ (¬ l < r ∧ r < l ∧ z = 1) ∨ (¬ l < r ∧ ¬ r < l ∧ z = 0) := by
    have h0 := h.symm.trans (cmp_if HA.out HX.out hl hr)
    by_cases k1 : l < r
    · exact .inl ⟨k1, by rw [h0, if_pos (by omega)]⟩
    · by_cases k2 : r < l
      · exact .inr (.inl ⟨k1, k2, by rw [h0, if_neg (by omega), if_pos (by omega)]⟩)
      · exact .inr (.inr ⟨k1, k2, by rw [h0, if_neg (by omega), if_neg (by omega)]⟩)
  have ql := mul_cast a y l hl
  have qr := mul_cast x b r hr
  clear hl hr h
  rcases hz with ⟨k1, rfl⟩ | ⟨k1, k2, rfl⟩ | ⟨k1, k2, rfl⟩
  · have k1i : (l : Int) < (r : Int) := by omega
    go_enter Tryz.func123, Tryz.ntmps123
    go_wp2_with fail
    refine (HC.out _).mono ?_
    rintro e0 w1 ⟨rfl, hb1⟩
    have HB1 := Lib.hid (bl_trans (bl_alloc (bl_alloc (Below.refl _ w) _) _) hb1)
    have hs1 := hb1.size
    simp at hs1
    have b1 := Lib.hid (((Blk.new w 87 #[.int .i64 (a : Int), .int .i64 (b : Int)]).alloc (.cells #[.int .i64 (x : Int), .int .i64 (y : Int)] 87)) |>.below hb1 (by simp; omega))
    have b2 := Lib.hid ((Blk.new (w.alloc (.cells #[.int .i64 (a : Int), .int .i64 (b : Int)] 87)) 87 #[.int .i64 (x : Int), .int .i64 (y : Int)]) |>.below hb1 (by simp))
    have b2' : Hid (Blk w1 (w.heap.size + 1) 87 #[.int .i64 (x : Int), .int .i64 (y : Int)]) := by have h := b2.out; simp only [World.size_alloc] at h; exact h
    have c1 := b1.out.cell
    have c2 := b2'.out.cell
    clear hb1 HC b2
    go_wp2_with fail
    refine (HD.out _).mono ?_
    rintro e0 w2 ⟨rfl, hb2⟩
    have HB2 := Lib.hid (bl_trans HB1.out hb2)
    have hs2 := hb2.size
    have d1 := Lib.hid (b1.out.below hb2 (by omega))
    have d2 := Lib.hid (b2'.out.below hb2 (by omega))
    clear hb2 HD HB1 c1 c2 b1 b2'
    have c1 := d1.out.cell
    have c2 := d2.out.cell
    have HB := HB2
    go_wp2
    (try go_quiet (fail))
    (try go_wp2)
    go_ret
    exact ⟨rfl, (by repeat (first | exact HB.out | refine bl_drewN ?_ _ | refine Below.drew ?_ | refine bl_alloc ?_ _ | refine bl_set ?_ (by dsimp only; omega) _))⟩
  · have k1i : ¬ (l : Int) < (r : Int) := by omega
    have k2i : (r : Int) < (l : Int) := by omega
    go_enter Tryz.func123, Tryz.ntmps123
    go_wp2_with fail
    refine (HC.out _).mono ?_
    rintro e0 w1 ⟨rfl, hb1⟩
    have HB1 := Lib.hid (bl_trans (bl_alloc (bl_alloc (Below.refl _ w) _) _) hb1)
    have hs1 := hb1.size
    simp at hs1
    have b1 := Lib.hid (((Blk.new w 87 #[.int .i64 (a : Int), .int .i64 (b : Int)]).alloc (.cells #[.int .i64 (x : Int), .int .i64 (y : Int)] 87)) |>.below hb1 (by simp; omega))
    have b2 := Lib.hid ((Blk.new (w.alloc (.cells #[.int .i64 (a : Int), .int .i64 (b : Int)] 87)) 87 #[.int .i64 (x : Int), .int .i64 (y : Int)]) |>.below hb1 (by simp))
    have b2' : Hid (Blk w1 (w.heap.size + 1) 87 #[.int .i64 (x : Int), .int .i64 (y : Int)]) := by have h := b2.out; simp only [World.size_alloc] at h; exact h
    have c1 := b1.out.cell
    have c2 := b2'.out.cell
    clear hb1 HC b2
    go_wp2_with fail
    refine (HD.out _).mono ?_
    rintro e0 w2 ⟨rfl, hb2⟩
    have HB2 := Lib.hid (bl_trans HB1.out hb2)
    have hs2 := hb2.size
    have d1 := Lib.hid (b1.out.below hb2 (by omega))
    have d2 := Lib.hid (b2'.out.below hb2 (by omega))
    clear hb2 HD HB1 c1 c2 b1 b2'
    have c1 := d1.out.cell
    have c2 := d2.out.cell
    have HB := HB2
    go_wp2
    (try go_quiet (fail))
    (try go_wp2)
    go_ret
    exact ⟨rfl, (by repeat (first | exact HB.out | refine bl_drewN ?_ _ | refine Below.drew ?_ | refine bl_alloc ?_ _ | refine bl_set ?_ (by dsimp only; omega) _))⟩
  · have k1i : ¬ (l : Int) < (r : Int) := by omega
    have k2i : ¬ (r : Int) < (l : Int) := by omega
    go_enter Tryz.func123, Tryz.ntmps123
    go_wp2_with fail
    refine (HC.out _).mono ?_
    rintro e0 w1 ⟨rfl, hb1⟩
    have HB1 := Lib.hid (bl_trans (bl_alloc (bl_alloc (Below.refl _ w) _) _) hb1)
    have hs1 := hb1.size
    simp at hs1
    have b1 := Lib.hid (((Blk.new w 87 #[.int .i64 (a : Int), .int .i64 (b : Int)]).alloc (.cells #[.int .i64 (x : Int), .int .i64 (y : Int)] 87)) |>.below hb1 (by simp; omega))
    have b2 := Lib.hid ((Blk.new (w.alloc (.cells #[.int .i64 (a : Int), .int .i64 (b : Int)] 87)) 87 #[.int .i64 (x : Int), .int .i64 (y : Int)]) |>.below hb1 (by simp))
    have b2' : Hid (Blk w1 (w.heap.size + 1) 87 #[.int .i64 (x : Int), .int .i64 (y : Int)]) := by have h := b2.out; simp only [World.size_alloc] at h; exact h
    have c1 := b1.out.cell
    have c2 := b2'.out.cell
    clear hb1 HC b2
    go_wp2_with fail
    refine (HD.out _).mono ?_
    rintro e0 w2 ⟨rfl, hb2⟩
    have HB2 := Lib.hid (bl_trans HB1.out hb2)
    have hs2 := hb2.size
    have d1 := Lib.hid (b1.out.below hb2 (by omega))
    have d2 := Lib.hid (b2'.out.below hb2 (by omega))
    clear hb2 HD HB1 c1 c2 b1 b2'
    have c1 := d1.out.cell
    have c2 := d2.out.cell
    have HB := HB2
    go_wp2
    (try go_quiet (fail))
    (try go_wp2)
    go_ret
    exact ⟨rfl, (by repeat (first | exact HB.out | refine bl_drewN ?_ _ | refine Below.drew ?_ | refine bl_alloc ?_ _ | refine bl_set ?_ (by dsimp only; omega) _))⟩
theorem iAdd_is (w : World) (e0 : Addr) (he : EG w e0) (n d m e : Int) (p q : Nat) (c : Bool) (hp : plusS n d m e = (p, q)) (hb : plusB n d m e = c) :
    Calls Tryz.prog 147 #[.agg #[.int .i64 n, .int .i64 d], .agg #[.int .i64 m, .int .i64 e]] w (MkRes p q c w) := by
  have HE := Lib.hid he
  clear he
  cases ha : shB n d
  · have hpb : plusB n d m e = false := by unfold plusB; rw [ha]; rfl
    obtain rfl : c = false := by rw [← hb]; exact hpb
    rw [plus_no hpb] at hp
    obtain ⟨rfl, rfl⟩ := Prod.mk.inj hp
    clear hp hb hpb
    have HC := Lib.hid (fun W : World => iShare_is W n d false ha)
    clear ha
    go_enter Tryz.func147, Tryz.ntmps147
    go_wp2_with fail
    refine (HC.out _).mono ?_
    rintro e w1 ⟨rfl, hb1⟩
    have HB := Lib.hid (bl_trans (bl_alloc (bl_alloc (bl_alloc (Below.refl _ w) _) _) _) hb1)
    have bR := Lib.hid ((Blk.new ((w.alloc (.cells #[.int .i64 n, .int .i64 d] 87)).alloc (.cells #[.int .i64 m, .int .i64 e] 87)) 87 #[.int .i64 0, .int .i64 0]).below hb1 (by simp))
    have bR' : Hid (Blk w1 (w.heap.size + 1 + 1) 87 #[.int .i64 0, .int .i64 0]) := by have h := bR.out; simp only [World.size_alloc] at h; exact h
    clear bR
    have cR0 := bR'.out.cell
    have fR0 := bR'.out.frozen
    have cR := fun k => (bR'.out.drewN k).cell
    have fR := fun k => (bR'.out.drewN k).frozen
    clear hb1 HC
    go_wp2
    (try go_region)
    all_goals (try go_wp2)
    all_goals refine bodyPost_ret (v := .tuple #[.agg #[.int .i64 0, .int .i64 0], .bool false]) (by simp [results, Tryz.results147, go_sem, cR0]) rfl ⟨rfl, (by repeat (first | exact HB.out | refine bl_drewN ?_ _ | refine Below.drew ?_ | refine bl_alloc ?_ _ | refine bl_set ?_ (by dsimp only; omega) _))⟩
  cases hc : shB m e
  · have hpb : plusB n d m e = false := by unfold plusB; rw [hc]; simp
    obtain rfl : c = false := by rw [← hb]; exact hpb
    rw [plus_no hpb] at hp
    obtain ⟨rfl, rfl⟩ := Prod.mk.inj hp
    clear hp hb hpb
    have HC := Lib.hid (fun W : World => iShare_is W n d true ha)
    have HD := Lib.hid (fun W : World => iShare_is W m e false hc)
    clear ha hc
    go_enter Tryz.func147, Tryz.ntmps147
    go_wp2_with fail
    refine (HC.out _).mono ?_
    rintro e0 w1 ⟨rfl, hb1⟩
    have HB1 := Lib.hid (bl_trans (bl_alloc (bl_alloc (bl_alloc (Below.refl _ w) _) _) _) hb1)
    have hs1 := hb1.size
    simp at hs1
    have b1 := Lib.hid (((Blk.new w 87 #[.int .i64 n, .int .i64 d]).alloc (.cells #[.int .i64 m, .int .i64 e] 87)).alloc (.cells #[.int .i64 0, .int .i64 0] 87) |>.below hb1 (by simp; omega))
    have b2 := Lib.hid ((Blk.new (w.alloc (.cells #[.int .i64 n, .int .i64 d] 87)) 87 #[.int .i64 m, .int .i64 e]).alloc (.cells #[.int .i64 0, .int .i64 0] 87) |>.below hb1 (by simp))
    have c1 := b1.out.cell
    have c2 := b2.out.cell
    simp only [World.size_alloc] at c2
    have bR := Lib.hid ((Blk.new ((w.alloc (.cells #[.int .i64 n, .int .i64 d] 87)).alloc (.cells #[.int .i64 m, .int .i64 e] 87)) 87 #[.int .i64 0, .int .i64 0]).below hb1 (by simp))
    have bR' : Hid (Blk w1 (w.heap.size + 1 + 1) 87 #[.int .i64 0, .int .i64 0]) := by have h := bR.out; simp only [World.size_alloc] at h; exact h
    clear bR
    clear hb1 HC
    go_wp2_with fail
    refine (HD.out _).mono ?_
    rintro e0 w2 ⟨rfl, hb2⟩
    have HB := Lib.hid (bl_trans HB1.out hb2)
    have bR' := Lib.hid (bR'.out.below hb2 (by omega))
    have cR0 := bR'.out.cell
    have fR0 := bR'.out.frozen
    have cR := fun k => (bR'.out.drewN k).cell
    have fR := fun k => (bR'.out.drewN k).frozen
    clear hb2 HD HB1
    go_wp2
    (try go_region)
    all_goals (try go_wp2)
    all_goals refine bodyPost_ret (v := .tuple #[.agg #[.int .i64 0, .int .i64 0], .bool false]) (by simp [results, Tryz.results147, go_sem, cR0]) rfl ⟨rfl, (by repeat (first | exact HB.out | refine bl_drewN ?_ _ | refine Below.drew ?_ | refine bl_alloc ?_ _ | refine bl_set ?_ (by dsimp only; omega) _))⟩
  obtain ⟨a, b, rfl, rfl, hA⟩ := sh_of ha
  obtain ⟨x, y, rfl, rfl, hX⟩ := sh_of hc
  have HC := Lib.hid (fun W : World => iShare_is W a b true ha)
  have HD := Lib.hid (fun W : World => iShare_is W x y true hc)
  obtain ⟨a0, a1, a2, a3⟩ := hA
  obtain ⟨x0, x1, x2, x3⟩ := hX
  have HA := Lib.hid (show Sh a b from ⟨a0, a1, a2, a3⟩)
  have HX := Lib.hid (show Sh x y from ⟨x0, x1, x2, x3⟩)
  clear ha hc a3 x3
  obtain ⟨hq1, hq2⟩ := plus_sh HA.out HX.out
  rw [hq1] at hb
  rw [hq2] at hp
  obtain ⟨l, hl⟩ : ∃ l, a * y = l := ⟨_, rfl⟩
  obtain ⟨r, hr⟩ : ∃ r, x * b = r := ⟨_, rfl⟩
  obtain ⟨k, hk⟩ : ∃ k, b * y = k := ⟨_, rfl⟩
  have l1 := mul_le9 hl a1 x2
  have r1 := mul_le9 hr x1 a2
  have k1 := mul_le9 hk a2 x2
  have k0 : 1 ≤ k := by rw [← hk]; exact Nat.mul_pos a0 x0
  have HK := Lib.hid (fun W : World => cross_is W a b x y l r hl hr l1 r1 a1 a2 x1 x2)
  have hadd : addN (a, b) (x, y) = redN (l + r) k := by unfold addN; dsimp only; rw [hl, hr, hk]
  have qk := mul_cast b y k hk
  rw [hadd] at hp
  unfold addB at hb
  rw [hadd] at hb
  clear hl hr hk hq1 hq2
  obtain ⟨u, v, huv⟩ : ∃ u v, redN (l + r) k = (u, v) := ⟨_, _, rfl⟩
  have hzb : addB (a, b) (x, y) = (decide (u ≤ 1000000000) && decide (v ≤ 1000000000)) := by unfold addB; rw [hadd, huv]
  rw [huv] at hb hp
  rw [hzb] at hp
  dsimp only at hb hp
  by_cases hz : u ≤ 1000000000 ∧ v ≤ 1000000000
  · obtain rfl : c = true := by rw [← hb]; simp [hz]
    rw [show (decide (u ≤ 1000000000) && decide (v ≤ 1000000000)) = true by simp [hz]] at hp
    obtain ⟨rfl, rfl⟩ := Prod.mk.inj (show (u, v) = (p, q) from hp)
    obtain ⟨z1, z2⟩ := hz
    have HL := Lib.hid (fun (W : World) (s t : Int) (h1 : s = ((l + r : Nat) : Int)) (h2 : t = (k : Int)) => lowest_fits W s t (l + r) k u v h1 h2 (by omega) k0 (by omega) huv z1 z2)
    clear hp hb hzb hadd huv
    go_enter Tryz.func147, Tryz.ntmps147
    go_wp2_with fail
    refine (HC.out _).mono ?_
    rintro e0 w1 ⟨rfl, hb1⟩
    have HB1 := Lib.hid (bl_trans (bl_alloc (bl_alloc (bl_alloc (Below.refl _ w) _) _) _) hb1)
    have hs1 := hb1.size
    simp at hs1
    have b1 := Lib.hid (((Blk.new w 87 #[.int .i64 (a : Int), .int .i64 (b : Int)]).alloc (.cells #[.int .i64 (x : Int), .int .i64 (y : Int)] 87)).alloc (.cells #[.int .i64 0, .int .i64 0] 87) |>.below hb1 (by simp; omega))
    have b2 := Lib.hid ((Blk.new (w.alloc (.cells #[.int .i64 (a : Int), .int .i64 (b : Int)] 87)) 87 #[.int .i64 (x : Int), .int .i64 (y : Int)]).alloc (.cells #[.int .i64 0, .int .i64 0] 87) |>.below hb1 (by simp))
    have b2' : Hid (Blk w1 (w.heap.size + 1) 87 #[.int .i64 (x : Int), .int .i64 (y : Int)]) := by have h := b2.out; simp only [World.size_alloc] at h; exact h
    have c1 := b1.out.cell
    have c2 := b2'.out.cell
    have bR := Lib.hid ((Blk.new ((w.alloc (.cells #[.int .i64 (a : Int), .int .i64 (b : Int)] 87)).alloc (.cells #[.int .i64 (x : Int), .int .i64 (y : Int)] 87)) 87 #[.int .i64 0, .int .i64 0]).below hb1 (by simp))
    have bR' : Hid (Blk w1 (w.heap.size + 1 + 1) 87 #[.int .i64 0, .int .i64 0]) := by have h := bR.out; simp only [World.size_alloc] at h; exact h
    clear bR
    clear hb1 HC b2
    go_wp2_with fail
    refine (HD.out _).mono ?_
    rintro e0 w2 ⟨rfl, hb2⟩
    have HB2 := Lib.hid (bl_trans HB1.out hb2)
    have hs2 := hb2.size
    have d1 := Lib.hid (b1.out.below hb2 (by omega))
    have d2 := Lib.hid (b2'.out.below hb2 (by omega))
    have bR2 := Lib.hid (bR'.out.below hb2 (by omega))
    clear bR'
    clear hb2 HD HB1 c1 c2 b1 b2'
    have c1 := d1.out.cell
    have c2 := d2.out.cell
    go_wp2_with fail
    refine (HK.out _).mono ?_
    rintro e1 w3 ⟨rfl, hb3⟩
    have HB3 := Lib.hid (bl_trans HB2.out hb3)
    have hs3 := hb3.size
    have f1 := Lib.hid (d1.out.below hb3 (by omega))
    have f2 := Lib.hid (d2.out.below hb3 (by omega))
    have bR3 := Lib.hid (bR2.out.below hb3 (by omega))
    clear hb3 HK HB2 c1 c2 d1 d2 bR2
    have c1 := f1.out.cell
    have c2 := f2.out.cell
    go_wp2_with fail
    refine (HL.out _ _ _ (by first | rfl | (simp; done) | omega) (by first | rfl | exact qk | omega)).mono ?_
    rintro e1 w4 ⟨rfl, hb4⟩
    have HB4 := Lib.hid (bl_trans HB3.out hb4)
    have hE : EG w4 e0 := HE.out.below HB4.out
    unfold EG at hE
    have hs4 := hb4.size
    have bR' := Lib.hid (bR3.out.below hb4 (by omega))
    have hEo : ∀ o, EG (w4.alloc o) e0 := fun o => EG.alloc hE o
    unfold EG at hEo
    have cR0 := bR'.out.cell
    have fR0 := bR'.out.frozen
    have cRo := fun o => (bR'.out.alloc o).cell
    have fRo := fun o => (bR'.out.alloc o).frozen
    have hlR : w.heap.size + 1 + 1 < w4.heap.size := bR'.out.lt
    have cF := fun (s t : Value) o => (Blk.alloc ((bR'.out.set_ 0 s).set_ 1 t) o).cell
    clear hb4 HL HB3 c1 c2 f1 f2 bR3
    go_wp2_with fail
    refine (is_nil e0 _).mono ?_
    rintro e1 w5 ⟨rfl, rfl⟩
    have HB := HB4
    go_wp2
    (try go_region)
    all_goals (try go_wp2)
    all_goals refine bodyPost_ret (v := .tuple #[.agg #[.int .i64 (u : Int), .int .i64 (v : Int)], .bool true]) (by simp [results, Tryz.results147, go_sem, cF]) rfl ⟨rfl, (by repeat (first | exact HB.out | refine bl_drewN ?_ _ | refine Below.drew ?_ | refine bl_alloc ?_ _ | refine bl_set ?_ (by dsimp only; omega) _))⟩
  · obtain rfl : c = false := by rw [← hb]; simp; omega
    rw [show (decide (u ≤ 1000000000) && decide (v ≤ 1000000000)) = false by simp; omega] at hp
    obtain ⟨rfl, rfl⟩ := Prod.mk.inj (show (0, 0) = (p, q) from hp)
    have HL := Lib.hid (fun (W : World) (he : EG W e0) (s t : Int) (h1 : s = ((l + r : Nat) : Int)) (h2 : t = (k : Int)) => lowest_great W e0 he s t (l + r) k u v h1 h2 (by omega) k0 (by omega) huv (by omega))
    clear hp hb hzb hadd huv hz
    go_enter Tryz.func147, Tryz.ntmps147
    go_wp2_with fail
    refine (HC.out _).mono ?_
    rintro e0 w1 ⟨rfl, hb1⟩
    have HB1 := Lib.hid (bl_trans (bl_alloc (bl_alloc (bl_alloc (Below.refl _ w) _) _) _) hb1)
    have hs1 := hb1.size
    simp at hs1
    have b1 := Lib.hid (((Blk.new w 87 #[.int .i64 (a : Int), .int .i64 (b : Int)]).alloc (.cells #[.int .i64 (x : Int), .int .i64 (y : Int)] 87)).alloc (.cells #[.int .i64 0, .int .i64 0] 87) |>.below hb1 (by simp; omega))
    have b2 := Lib.hid ((Blk.new (w.alloc (.cells #[.int .i64 (a : Int), .int .i64 (b : Int)] 87)) 87 #[.int .i64 (x : Int), .int .i64 (y : Int)]).alloc (.cells #[.int .i64 0, .int .i64 0] 87) |>.below hb1 (by simp))
    have b2' : Hid (Blk w1 (w.heap.size + 1) 87 #[.int .i64 (x : Int), .int .i64 (y : Int)]) := by have h := b2.out; simp only [World.size_alloc] at h; exact h
    have c1 := b1.out.cell
    have c2 := b2'.out.cell
    have bR := Lib.hid ((Blk.new ((w.alloc (.cells #[.int .i64 (a : Int), .int .i64 (b : Int)] 87)).alloc (.cells #[.int .i64 (x : Int), .int .i64 (y : Int)] 87)) 87 #[.int .i64 0, .int .i64 0]).below hb1 (by simp))
    have bR' : Hid (Blk w1 (w.heap.size + 1 + 1) 87 #[.int .i64 0, .int .i64 0]) := by have h := bR.out; simp only [World.size_alloc] at h; exact h
    clear bR
    clear hb1 HC b2
    go_wp2_with fail
    refine (HD.out _).mono ?_
    rintro e0 w2 ⟨rfl, hb2⟩
    have HB2 := Lib.hid (bl_trans HB1.out hb2)
    have hs2 := hb2.size
    have d1 := Lib.hid (b1.out.below hb2 (by omega))
    have d2 := Lib.hid (b2'.out.below hb2 (by omega))
    have bR2 := Lib.hid (bR'.out.below hb2 (by omega))
    clear bR'
    clear hb2 HD HB1 c1 c2 b1 b2'
    have c1 := d1.out.cell
    have c2 := d2.out.cell
    go_wp2_with fail
    refine (HK.out _).mono ?_
    rintro e1 w3 ⟨rfl, hb3⟩
    have HB3 := Lib.hid (bl_trans HB2.out hb3)
    have hs3 := hb3.size
    have f1 := Lib.hid (d1.out.below hb3 (by omega))
    have f2 := Lib.hid (d2.out.below hb3 (by omega))
    have bR3 := Lib.hid (bR2.out.below hb3 (by omega))
    clear hb3 HK HB2 c1 c2 d1 d2 bR2
    have c1 := f1.out.cell
    have c2 := f2.out.cell
    go_wp2_with fail
    refine (HL.out _ (HE.out.below HB3.out) _ _ (by first | rfl | (simp; done) | omega) (by first | rfl | exact qk | omega)).mono ?_
    rintro e1 w4 ⟨rfl, hb4⟩
    have HB4 := Lib.hid (bl_trans HB3.out hb4)
    have hE : EG w4 e0 := HE.out.below HB4.out
    unfold EG at hE
    have hs4 := hb4.size
    have bR' := Lib.hid (bR3.out.below hb4 (by omega))
    have hEo : ∀ o, EG (w4.alloc o) e0 := fun o => EG.alloc hE o
    unfold EG at hEo
    have cR0 := bR'.out.cell
    have fR0 := bR'.out.frozen
    have cRo := fun o => (bR'.out.alloc o).cell
    have fRo := fun o => (bR'.out.alloc o).frozen
    have hlR : w.heap.size + 1 + 1 < w4.heap.size := bR'.out.lt
    have cF := fun (s t : Value) o => (Blk.alloc ((bR'.out.set_ 0 s).set_ 1 t) o).cell
    clear hb4 HL HB3 c1 c2 f1 f2 bR3
    go_wp2_with fail
    refine (is_same e0 _).mono ?_
    rintro e1 w5 ⟨rfl, rfl⟩
    have HB := HB4
    go_wp2
    (try go_region)
    all_goals (try go_wp2)
    all_goals refine bodyPost_ret (v := .tuple #[.agg #[.int .i64 0, .int .i64 0], .bool false]) (by simp [results, Tryz.results147, go_sem, cF]) rfl ⟨rfl, (by repeat (first | exact HB.out | refine bl_drewN ?_ _ | refine Below.drew ?_ | refine bl_alloc ?_ _ | refine bl_set ?_ (by dsimp only; omega) _))⟩
end
section
open Go.RowKit
set_option linter.unusedVariables false
set_option maxHeartbeats 1000000 in
theorem l2_is (w : World) (a b x y p q : Nat) (c : Bool) (hA : Sh a b) (hX : Sh x y) (hp : plusS a b x y = (p, q)) (hb : plusB a b x y = c) :
    Calls Tryz.prog 121 #[.agg #[.int .i64 (a : Int), .int .i64 (b : Int)], .agg #[.int .i64 (x : Int), .int .i64 (y : Int)]] w (MkRes p q c w) := by
  obtain ⟨hq1, hq2⟩ := plus_sh hA hX
  rw [hq1] at hb
  rw [hq2] at hp
  obtain ⟨g, hg⟩ : ∃ g, Nat.gcd b y = g := ⟨_, rfl⟩
  have g1 : 1 ≤ g := by rw [← hg]; exact Nat.gcd_pos_of_pos_left _ hA.pos
  obtain ⟨bg, hbg⟩ : ∃ k, b / g = k := ⟨_, rfl⟩
  obtain ⟨yg, hyg⟩ : ∃ k, y / g = k := ⟨_, rfl⟩
  have bg1 : bg ≤ 1000000000 := by rw [← hbg]; exact Nat.le_trans (Nat.div_le_self _ _) hA.den
  have yg1 : yg ≤ 1000000000 := by rw [← hyg]; exact Nat.le_trans (Nat.div_le_self _ _) hX.den
  have bg0 : 1 ≤ bg := by rw [← hbg, ← hg]; exact Nat.div_pos (Nat.le_of_dvd hA.pos (Nat.gcd_dvd_left b y)) (Nat.gcd_pos_of_pos_left _ hA.pos)
  obtain ⟨k, hk⟩ : ∃ k, bg * y = k := ⟨_, rfl⟩
  obtain ⟨l, hl⟩ : ∃ l, a * yg = l := ⟨_, rfl⟩
  obtain ⟨r, hr⟩ : ∃ r, x * bg = r := ⟨_, rfl⟩
  have k1 := mul_le9 hk bg1 hX.den
  have l1 := mul_le9 hl hA.num yg1
  have r1 := mul_le9 hr hX.num bg1
  have k0 : 1 ≤ k := by rw [← hk]; exact Nat.mul_pos bg0 hX.pos
  have hadd : addN (a, b) (x, y) = redN (l + r) k := by
    have := add_ref (a := (a, b)) (b := (x, y)) hA.pos hX.pos
    dsimp only at this
    rw [hg, hbg, hyg, hk, hl, hr] at this
    exact this.symm
  obtain ⟨h, hh⟩ : ∃ h, Nat.gcd (l + r) k = h := ⟨_, rfl⟩
  have h1 : 1 ≤ h := by rw [← hh]; exact Nat.gcd_pos_of_pos_right _ k0
  obtain ⟨u, v, huv⟩ : ∃ u v, redN (l + r) k = (u, v) := ⟨_, _, rfl⟩
  obtain ⟨hu, hv⟩ := red_pair huv
  rw [hh] at hu hv
  have hv0 : 0 < v := by have := red_pos (n := l + r) (d := k) k0; rw [huv] at this; exact this
  have hcop : Nat.gcd u v = 1 := by have := red_cop (n := l + r) (d := k) k0; rw [huv] at this; exact this
  have hzb : addB (a, b) (x, y) = (decide (u ≤ 1000000000) && decide (v ≤ 1000000000)) := by unfold addB; rw [hadd, huv]
  have hmb : mkB (u : Int) (v : Int) = c := by
    rw [← hb, hzb]
    unfold mkB
    have e1 : decide ((0 : Int) ≤ (u : Int)) = true := by simp
    have e2 : decide ((1 : Int) ≤ (v : Int)) = true := by simp; omega
    rw [e1, e2, Bool.true_and, Bool.true_and]
    congr 1 <;> (apply decide_eq_decide.2; omega)
  have hms : mkS (u : Int) (v : Int) = (p, q) := by
    rw [← hp, hb]
    cases c
    · exact mkS_no hmb
    · unfold mkS
      rw [hmb]
      show redN (Int.toNat u) (Int.toNat v) = if true = true then _ else _
      rw [if_pos rfl, hadd, huv, Int.toNat_natCast, Int.toNat_natCast]
      exact red_of_cop hcop
  have qbg : ((b : Int) / (g : Int)) = (bg : Int) := by rw [div_cast, hbg]
  have qyg : ((y : Int) / (g : Int)) = (yg : Int) := by rw [div_cast, hyg]
  have qk := mul_cast bg y k hk
  have ql := mul_cast a yg l hl
  have qr := mul_cast x bg r hr
  have qu : (((l : Int) + (r : Int)) / (h : Int)) = (u : Int) := by rw [← hu]; simp
  have qv : ((k : Int) / (h : Int)) = (v : Int) := by rw [div_cast, hv]
  have u1 : u ≤ 2000000000000000000 := by rw [← hu]; exact Nat.le_trans (Nat.div_le_self _ _) (by omega)
  have v1 : v ≤ 1000000000000000000 := by rw [← hv]; exact Nat.le_trans (Nat.div_le_self _ _) k1
  have kv : IntKind.i64.wrap (v : Int) = (v : Int) := IntWalk.i64_in _ (by omega)
  have ku : IntKind.i64.wrap (u : Int) = (u : Int) := IntWalk.i64_in _ (by clear kv; omega)
  have hnn : 0 ≤ (l : Int) + (r : Int) := by omega
  have qt : Int.tdiv ((l : Int) + (r : Int)) (h : Int) = (u : Int) := by rw [Int.tdiv_eq_ediv_of_nonneg hnn]; exact qu
  have hz1 : ¬ (h : Int) = 0 := by omega
  have hz2 : ((h : Int) == 0) = false := by simp; omega
  have HG1 := Lib.hid (fun W : World => (by rw [← hg]; exact sGcd_big W b y (by have := hA.den; omega) (by have := hX.den; omega) : Calls Tryz.prog 119 #[.int .i64 b, .int .i64 y] W fun e w' => e = .returned (.int .i64 g) ∧ w' = W))
  have HG2 := Lib.hid (fun (W : World) (s t : Int) (h1 : s = (k : Int)) (h2 : t = ((l + r : Nat) : Int)) => (by subst h1 h2; rw [← hh, Nat.gcd_comm]; exact (sGcd_big W k (l + r) (by omega) (by omega)).mono (fun e w' hh => ⟨hh.1, by rw [hh.2]; exact Below.refl _ _⟩) : Calls Tryz.prog 119 #[.int .i64 s, .int .i64 t] W fun e w' => e = .returned (.int .i64 h) ∧ Below W.heap.size W w'))
  have HM := Lib.hid (fun W : World => sMake_is W u v p q c hms hmb)
  obtain ⟨a0, a1, a2, _⟩ := hA
  obtain ⟨x0, x1, x2, _⟩ := hX
  have bR0 : Hid (Blk (((w.alloc (.cells #[.int .i64 (a : Int), .int .i64 (b : Int)] 87)).alloc (.cells #[.int .i64 (x : Int), .int .i64 (y : Int)] 87)).alloc (.cells #[.int .i64 0, .int .i64 0] 87)) (w.heap.size + 1 + 1) 87 #[.int .i64 0, .int .i64 0]) := by
    have h := Blk.new ((w.alloc (.cells #[.int .i64 (a : Int), .int .i64 (b : Int)] 87)).alloc (.cells #[.int .i64 (x : Int), .int .i64 (y : Int)] 87)) 87 #[.int .i64 0, .int .i64 0]
    simp only [World.size_alloc] at h
    exact h
  clear hms hmb hzb hcop hu hv huv hadd hh hk hl hr hbg hyg hg hp hb hq1 hq2
  go_enter Tryz.func121, Tryz.ntmps121
  go_wp2_with fail
  refine (HG1.out _).mono ?_
  rintro e w1 ⟨rfl, rfl⟩
  clear HG1
  go_wp2
  go_quiet (fail)
  go_wp2
  go_quiet (fail)
  go_wp2_with fail
  refine (HG2.out _ _ _ (by first | rfl | (simp; done) | omega) (by first | rfl | (simp; done) | omega)).mono ?_
  rintro e w3 ⟨rfl, hb3⟩
  have HB3 := Lib.hid (show Below w.heap.size w w3 from bl_from (by repeat (first | exact Below.refl w.heap.size w | refine bl_drewN ?_ _ | refine Below.drew ?_ | refine bl_alloc ?_ _)) hb3)
  have bR3 := Lib.hid (Blk.below (by exact bR0.out) hb3 (by exact bR0.out.lt))
  clear HG2 hb3 bR0
  go_wp2
  go_region_with (go_at_call 120; refine (HM.out _).mono ?_; rintro e w2 ⟨rfl, hb⟩; have hb3' : Below w3.heap.size w3 w2 := ⟨hb.os, hb.tape, hb.output, hb.size, hb.block⟩; have HB2 := Lib.hid (bl_trans HB3.out hb3'); have bR := bR3.out.below hb3' bR3.out.lt; have cR := bR.cell; have fR := bR.frozen; clear hb hb3' bR)
  all_goals go_wp2
  all_goals refine bodyPost_ret (v := .tuple #[.agg #[.int .i64 (p : Int), .int .i64 (q : Int)], .bool c]) (by simp [results, Tryz.results121, go_sem, cR]) rfl ⟨rfl, (by repeat (first | exact HB2.out | refine bl_drewN ?_ _ | refine Below.drew ?_ | refine bl_alloc ?_ _ | refine bl_set ?_ (by dsimp only; omega) _))⟩
end
section
/-- The part of one task; the share of all tasks of a kind; the share of the critical ones with their high needs. -/
def part (t : Tk) : Nat × Nat := redN t.lo.toNat t.ev.toNat
def lowL (ts : List Tk) (c : Bool) : Nat × Nat := sumN ((ts.filter fun t => t.cr == c).map part)
def lowOf (ts : List Tk) (c : Bool) : Nat × Nat := if setB ts then lowL ts c else (0, 0)
def highOf (ts : List Tk) : Nat × Nat := if setB ts then lowL (critL ts) true else (0, 0)
theorem ok_nums {t : Tk} (h : t.ok = true) : 1 ≤ t.lo ∧ t.lo ≤ t.hi ∧ t.hi ≤ t.ev ∧ t.ev ≤ 20 := by
  unfold Tk.ok validB at h
  simp at h
  omega
theorem part_facts {t : Tk} (h : t.ok = true) : 0 < (part t).2 ∧ (part t).2 ≤ 20 ∧ (part t).1 ≤ (part t).2 ∧ 0 < (part t).1 := by
  obtain ⟨a, b, c, d⟩ := ok_nums h
  have h1 : 0 < t.ev.toNat := by omega
  refine ⟨red_pos h1, Nat.le_trans (red_le_den _ _) (by omega), ?_, ?_⟩
  · unfold part redN
    exact Nat.div_le_div_right (by omega)
  · have := red_zero (n := t.lo.toNat) h1
    unfold part
    omega
theorem parts_facts {ts : List Tk} (c : Bool) (h : ∀ t ∈ ts, t.ok = true) : ∀ x ∈ (ts.filter fun t => t.cr == c).map part, 0 < x.2 ∧ x.2 ≤ 20 ∧ x.1 ≤ x.2 := by
  intro x hx
  obtain ⟨t, ht, rfl⟩ := List.mem_map.1 hx
  obtain ⟨p1, p2, p3, _⟩ := part_facts (h t (List.mem_filter.1 ht).1)
  exact ⟨p1, p2, p3⟩
theorem lowL_sh {ts : List Tk} (c : Bool) (hl : ts.length ≤ 5) (h : ∀ t ∈ ts, t.ok = true) : Sh (lowL ts c).1 (lowL ts c).2 ∧ (lowL ts c).1 ≤ 16000000 ∧ (lowL ts c).2 ≤ 3200000 := by
  have hp := parts_facts c h
  have p1 : 0 < (lowL ts c).2 := sum_pos fun x hx => (hp x hx).1
  have p2 : Nat.Coprime (lowL ts c).1 (lowL ts c).2 := sum_cop fun x hx => (hp x hx).1
  obtain ⟨b1, b2⟩ := sum_bound hp
  have hn : ((ts.filter fun t => t.cr == c).map part).length ≤ 5 := by
    rw [List.length_map]; exact Nat.le_trans (List.length_filter_le _ _) hl
  have c1 : (lowL ts c).2 ≤ 3200000 := Nat.le_trans b1 (Nat.le_trans (Nat.pow_le_pow_right (by omega) hn) (by decide))
  have c2 : (lowL ts c).1 ≤ 5 * (lowL ts c).2 := Nat.le_trans b2 (Nat.mul_le_mul_right _ hn)
  exact ⟨⟨p1, by omega, by omega, p2⟩, by omega, c1⟩
theorem setB_all {ts : List Tk} (h : setB ts = true) : ts.length ≤ 5 ∧ ∀ t ∈ ts, t.ok = true := by
  unfold setB at h
  simp at h
  exact h
theorem lowOf_sh {ts : List Tk} (c : Bool) (h : setB ts = true) : Sh (lowOf ts c).1 (lowOf ts c).2 ∧ (lowOf ts c).1 ≤ 16000000 ∧ (lowOf ts c).2 ≤ 3200000 := by
  obtain ⟨a, b⟩ := setB_all h
  unfold lowOf
  rw [if_pos h]
  exact lowL_sh c a b
theorem lowOf_bad {ts : List Tk} (c : Bool) (h : setB ts = false) : lowOf ts c = (0, 0) := by unfold lowOf; rw [h]; rfl
theorem highOf_bad {ts : List Tk} (h : setB ts = false) : highOf ts = (0, 0) := by unfold highOf; rw [h]; rfl
theorem crit_ok {ts : List Tk} (h : ∀ t ∈ ts, t.ok = true) : ∀ t ∈ critL ts, t.ok = true := by
  intro t ht
  obtain ⟨u, hu, _, rfl⟩ := critL_mem ht
  exact ok_crit (h u hu)
theorem highOf_low {ts us : List Tk} (hs : setB ts = true) (hu : us = critOf ts) : lowOf us true = highOf ts := by
  have hu' : us = critL ts := by rw [hu]; simp [critOf, hs]
  unfold lowOf highOf
  rw [(crit_facts hs hu).1, hs, hu']
theorem highOf_sh {ts : List Tk} (h : setB ts = true) : Sh (highOf ts).1 (highOf ts).2 ∧ (highOf ts).1 ≤ 16000000 ∧ (highOf ts).2 ≤ 3200000 := by
  rw [← highOf_low h rfl]
  exact lowOf_sh true (crit_facts h rfl).1
theorem lowL_yes {ts : List Tk} {c : Bool} {k : Nat} {t : Tk} (h : ts[k]? = some t) (hc : t.cr = c) : lowL (ts.take (k + 1)) c = addN (lowL (ts.take k) c) (part t) := by
  obtain ⟨hk, rfl⟩ := List.getElem?_eq_some_iff.1 h
  unfold lowL sumN
  rw [List.take_succ_eq_append_getElem hk, List.filter_append, List.filter_cons]
  simp [hc, List.foldl_append]
theorem lowL_no {ts : List Tk} {c : Bool} {k : Nat} {t : Tk} (h : ts[k]? = some t) (hc : ¬ t.cr = c) : lowL (ts.take (k + 1)) c = lowL (ts.take k) c := by
  obtain ⟨hk, rfl⟩ := List.getElem?_eq_some_iff.1 h
  unfold lowL
  rw [List.take_succ_eq_append_getElem hk, List.filter_append, List.filter_cons]
  simp [hc]
theorem lowL_take_sh {ts : List Tk} (c : Bool) (k : Nat) (h : setB ts = true) : Sh (lowL (ts.take k) c).1 (lowL (ts.take k) c).2 ∧ (lowL (ts.take k) c).1 ≤ 16000000 ∧ (lowL (ts.take k) c).2 ≤ 3200000 := by
  obtain ⟨a, b⟩ := setB_all h
  exact lowL_sh c (by rw [List.length_take]; omega) fun t ht => b t (List.mem_of_mem_take ht)
/-- One round of the sum. -/
theorem low_step {ts : List Tk} {c : Bool} {k : Nat} {t : Tk} {u v : Nat} (hs : setB ts = true) (ht : ts[k]? = some t) (hc : t.cr = c) (huv : lowL (ts.take k) c = (u, v)) :
    ∃ x y u' v' : Nat, mkS t.lo t.ev = (x, y) ∧ mkB t.lo t.ev = true ∧ plusB u v x y = true ∧ plusS u v x y = (u', v') ∧ lowL (ts.take (k + 1)) c = (u', v') ∧ Sh u v ∧ Sh x y := by
  obtain ⟨a, b⟩ := setB_all hs
  have hok := b t (List.mem_of_getElem? ht)
  obtain ⟨n1, n2, n3, n4⟩ := ok_nums hok
  have hm : mkB t.lo t.ev = true := by unfold mkB; simp; omega
  have hp : mkS t.lo t.ev = part t := by unfold mkS; rw [hm]; rfl
  have s1 := (lowL_take_sh c k hs).1
  have s2 := lowL_take_sh c (k + 1) hs
  rw [lowL_yes ht hc] at s2
  have s3 : Sh (part t).1 (part t).2 := by
    have e : part t = redN t.lo.toNat t.ev.toNat := rfl
    rw [e]
    exact sh_red (by omega) (by omega) (by omega)
  rw [huv] at s1 s2
  dsimp only at s1
  obtain ⟨e1, e2⟩ := plus_sh s1 s3
  have hb : addB (u, v) ((part t).1, (part t).2) = true := by
    unfold addB
    simp
    exact ⟨s2.1.num, s2.1.den⟩
  refine ⟨(part t).1, (part t).2, (addN (u, v) (part t)).1, (addN (u, v) (part t)).2, hp, hm, e1.trans hb, ?_, ?_, s1, s3⟩
  · rw [e2, hb]; rfl
  · rw [lowL_yes ht hc, huv]
/-- What the laws say. -/
theorem crit_parts (ts : List Tk) : lowL (critL ts) true = sumN ((ts.filter fun t => t.cr == true).map fun t => redN t.hi.toNat t.ev.toNat) := by
  unfold lowL critL
  congr 1
  induction ts with
  | nil => rfl
  | cons t ts ih =>
    cases hc : t.cr
    · simp only [List.filter_cons, hc]
      simpa using ih
    · simp only [List.filter_cons, hc]
      simp only [if_true, List.filter_cons, List.map_cons]
      simp only [hc, beq_self_eq_true, if_true, List.map_cons]
      rw [ih]
      rfl
theorem low_le_high {ts : List Tk} (h : setB ts = true) : leN (lowOf ts true) (highOf ts) := by
  obtain ⟨_, b⟩ := setB_all h
  unfold lowOf highOf
  rw [if_pos h, if_pos h, crit_parts]
  unfold lowL
  refine sum_mono part _ _ fun t ht => ?_
  obtain ⟨n1, n2, n3, n4⟩ := ok_nums (b t (List.mem_filter.1 ht).1)
  have h1 : 0 < t.ev.toNat := by omega
  refine ⟨red_pos h1, red_pos h1, ?_⟩
  unfold part redN leN
  have e1 := red_same t.lo.toNat t.ev.toNat
  have e2 := red_same t.hi.toNat t.ev.toNat
  unfold redN at e1 e2
  dsimp only at e1 e2 ⊢
  refine Nat.le_of_mul_le_mul_right ?_ (Nat.mul_pos h1 h1)
  calc _ = (t.lo.toNat / t.lo.toNat.gcd t.ev.toNat * t.ev.toNat) * (t.ev.toNat / t.hi.toNat.gcd t.ev.toNat * t.ev.toNat) := by ac_rfl
    _ = (t.lo.toNat * (t.ev.toNat / t.lo.toNat.gcd t.ev.toNat)) * (t.ev.toNat / t.hi.toNat.gcd t.ev.toNat * t.ev.toNat) := by rw [e1]
    _ ≤ (t.hi.toNat * (t.ev.toNat / t.lo.toNat.gcd t.ev.toNat)) * (t.ev.toNat / t.hi.toNat.gcd t.ev.toNat * t.ev.toNat) := Nat.mul_le_mul_right _ (Nat.mul_le_mul_right _ (by omega))
    _ = (t.hi.toNat * (t.ev.toNat / t.hi.toNat.gcd t.ev.toNat)) * ((t.ev.toNat / t.lo.toNat.gcd t.ev.toNat) * t.ev.toNat) := by ac_rfl
    _ = (t.hi.toNat / t.hi.toNat.gcd t.ev.toNat * t.ev.toNat) * ((t.ev.toNat / t.lo.toNat.gcd t.ev.toNat) * t.ev.toNat) := by rw [e2]
    _ = _ := by ac_rfl
/-- What the critical tasks need until all begin together again. -/
def needs (n : Nat) (ts : List Tk) : Nat := ((ts.filter Tk.cr).map fun t => n / t.ev.toNat * t.hi.toNat).sum
theorem needs_share {ts : List Tk} {n : Nat} (hn : 0 < n) (h : ∀ t ∈ ts, t.ok = true) (hd : ∀ t ∈ ts, t.ev.toNat ∣ n) : lowL (critL ts) true = redN (needs n ts) n := by
  rw [crit_parts]
  have e0 : (ts.filter fun t => t.cr == true) = ts.filter Tk.cr := by congr 1; funext t; cases t.cr <;> rfl
  rw [e0]
  have hf : ∀ t ∈ ts.filter Tk.cr, 0 < t.ev.toNat := fun t ht => by have := ok_nums (h t (List.mem_filter.1 ht).1); omega
  have e1 : sumN ((ts.filter Tk.cr).map fun t => redN t.hi.toNat t.ev.toNat) = sumN ((ts.filter Tk.cr).map fun t => (t.hi.toNat, t.ev.toNat)) :=
    sum_rep _ _ _ fun t ht => ⟨red_pos (hf t ht), hf t ht, red_same _ _⟩
  rw [e1, sum_common hn]
  · unfold needs
    rw [List.map_map]
    rfl
  · intro x hx
    obtain ⟨t, ht, rfl⟩ := List.mem_map.1 hx
    exact ⟨hf t ht, hd t (List.mem_filter.1 ht).1⟩
end
section
def leB (x y : Nat × Nat) : Bool := decide (x.1 * y.2 ≤ y.1 * x.2)
theorem leB_iff {x y : Nat × Nat} : leB x y = true ↔ leN x y := by unfold leB leN; simp
theorem cmp_leB (x y : Nat × Nat) : decide (cmpN x y ≤ 0) = leB x y := by
  rw [Bool.eq_iff_iff, decide_eq_true_iff, cmp_le, leB_iff]
theorem red_dvd (n d : Nat) : (redN n d).2 ∣ d := Nat.div_dvd_of_dvd (Nat.gcd_dvd_right n d)
theorem one_sh : Sh 1 1 := ⟨by decide, by decide, by decide, by decide⟩
/-- The factor, the factor times what the other tasks need, as fractions. -/
def facN (a b : Nat × Nat) : Nat × Nat := redN (b.1 * a.2) (b.2 * (a.2 - a.1))
def mulN (x a : Nat × Nat) : Nat × Nat := redN (x.1 * a.1) (x.2 * a.2)
/-- Two kinds of tasks: a the one's share, b and h those of the other. -/
structure VB (a b h : Nat × Nat) (na nc : Nat) : Prop where
  le : na * nc ≤ 3200000
  pa : 0 < na
  pc : 0 < nc
  da : a.2 ∣ na
  db : b.2 ∣ nc
  dh : h.2 ∣ nc
  a2 : 0 < a.2
  b2 : 0 < b.2
  h2 : 0 < h.2
  a1 : a.1 ≤ 5 * a.2
  b1 : b.1 ≤ 5 * b.2
  h1 : h.1 ≤ 5 * h.2
theorem sum_small {a b : Nat × Nat} {na nc : Nat} (le : na * nc ≤ 3200000) (pa : 0 < na) (pc : 0 < nc) (da : a.2 ∣ na) (db : b.2 ∣ nc) (a2 : 0 < a.2) (b2 : 0 < b.2) (a1 : a.1 ≤ 5 * a.2) (b1 : b.1 ≤ 5 * b.2) :
    addB a b = true ∧ Sh (addN a b).1 (addN a b).2 ∧ (addN a b).2 ≤ 3200000 := by
  have h1 := Nat.le_of_dvd pa da
  have h2 := Nat.le_of_dvd pc db
  have h3 : a.2 * b.2 ≤ 3200000 := Nat.le_trans (Nat.mul_le_mul h1 h2) le
  have e2 : (addN a b).2 ≤ a.2 * b.2 := red_le_den _ _
  have e1 : (addN a b).1 ≤ a.1 * b.2 + b.1 * a.2 := red_le_num _ _
  have f1 : a.1 * b.2 ≤ 5 * (a.2 * b.2) := by rw [← Nat.mul_assoc]; exact Nat.mul_le_mul_right _ a1
  have f2 : b.1 * a.2 ≤ 5 * (a.2 * b.2) := by rw [Nat.mul_comm a.2, ← Nat.mul_assoc]; exact Nat.mul_le_mul_right _ b1
  refine ⟨?_, ⟨add_pos a2 b2, by omega, by omega, add_cop a2 b2⟩, by omega⟩
  unfold addB
  simp
  omega
theorem VB.ab {a b h : Nat × Nat} {na nc : Nat} (H : VB a b h na nc) : addB a b = true ∧ Sh (addN a b).1 (addN a b).2 ∧ (addN a b).2 ≤ 3200000 :=
  sum_small H.le H.pa H.pc H.da H.db H.a2 H.b2 H.a1 H.b1
theorem VB.ah {a b h : Nat × Nat} {na nc : Nat} (H : VB a b h na nc) : addB a h = true ∧ Sh (addN a h).1 (addN a h).2 ∧ (addN a h).2 ≤ 3200000 :=
  sum_small H.le H.pa H.pc H.da H.dh H.a2 H.h2 H.a1 H.h1
theorem sum_le_one {a b : Nat × Nat} (a2 : 0 < a.2) (b2 : 0 < b.2) (h : leN (addN a b) (1, 1)) : a.1 * b.2 + b.1 * a.2 ≤ a.2 * b.2 := by
  have e := red_same (a.1 * b.2 + b.1 * a.2) (a.2 * b.2)
  unfold leN at h
  rw [Nat.mul_one, Nat.one_mul] at h
  have hp : 0 < (addN a b).2 := add_pos a2 b2
  have : (a.1 * b.2 + b.1 * a.2) * (addN a b).2 ≤ (a.2 * b.2) * (addN a b).2 := by
    unfold addN at h ⊢
    rw [← e, Nat.mul_comm (a.2 * b.2)]
    exact Nat.mul_le_mul_right _ h
  exact Nat.le_of_mul_le_mul_right this hp
theorem sum_le_one' {a b : Nat × Nat} (a2 : 0 < a.2) (b2 : 0 < b.2) (h : a.1 * b.2 + b.1 * a.2 ≤ a.2 * b.2) : leN (addN a b) (1, 1) := by
  have e := red_same (a.1 * b.2 + b.1 * a.2) (a.2 * b.2)
  unfold leN
  rw [Nat.mul_one, Nat.one_mul]
  have : (addN a b).1 * (a.2 * b.2) ≤ (addN a b).2 * (a.2 * b.2) := by
    unfold addN
    rw [e, Nat.mul_comm]
    exact Nat.mul_le_mul_left _ h
  exact Nat.le_of_mul_le_mul_right this (Nat.mul_pos a2 b2)
/-- What is below one, and not one, leaves something. -/
theorem lt_of_ne {a : Nat × Nat} (hc : Nat.Coprime a.1 a.2) (h : leN a (1, 1)) (hn : a ≠ (1, 1)) : a.1 < a.2 := by
  unfold leN at h
  rw [Nat.mul_one, Nat.one_mul] at h
  rcases Nat.lt_or_ge a.1 a.2 with h1 | h1
  · exact h1
  · exfalso
    have e : a.1 = a.2 := by omega
    have hg : Nat.gcd a.1 a.2 = 1 := hc
    rw [e, Nat.gcd_self] at hg
    exact hn (Prod.ext (by rw [e]; exact hg) hg)
/-- The factor. -/
theorem fac_facts {a b h : Nat × Nat} {na nc : Nat} (H : VB a b h na nc) (hs : leN (addN a b) (1, 1)) (hlt : a.1 < a.2) :
    b.1 * a.2 ≤ b.2 * (a.2 - a.1) ∧ 0 < b.2 * (a.2 - a.1) ∧ b.2 * (a.2 - a.1) ≤ 3200000 ∧ Sh (facN a b).1 (facN a b).2 ∧ (facN a b).1 ≤ (facN a b).2 ∧ (facN a b).2 ≤ 3200000 := by
  have k := sum_le_one H.a2 H.b2 hs
  have k1 : b.1 * a.2 ≤ b.2 * (a.2 - a.1) := by
    rw [Nat.mul_sub]
    have : b.2 * a.1 = a.1 * b.2 := Nat.mul_comm _ _
    have : b.2 * a.2 = a.2 * b.2 := Nat.mul_comm _ _
    omega
  have k2 : 0 < b.2 * (a.2 - a.1) := Nat.mul_pos H.b2 (by omega)
  have k3 : b.2 * (a.2 - a.1) ≤ 3200000 := by
    have h1 := Nat.le_of_dvd H.pa H.da
    have h2 := Nat.le_of_dvd H.pc H.db
    refine Nat.le_trans ?_ H.le
    rw [Nat.mul_comm na]
    exact Nat.mul_le_mul h2 (by omega)
  have d1 : (facN a b).2 ≤ 3200000 := Nat.le_trans (red_le_den _ _) k3
  have n1 : (facN a b).1 ≤ 3200000 := Nat.le_trans (red_le_num _ _) (by omega)
  refine ⟨k1, k2, k3, ⟨red_pos k2, by omega, by omega, red_cop k2⟩, ?_, d1⟩
  unfold facN redN
  exact Nat.div_le_div_right k1
theorem mul_fac {a b h : Nat × Nat} {na nc : Nat} (H : VB a b h na nc) (hs : leN (addN a b) (1, 1)) (hlt : a.1 < a.2) :
    mulN (facN a b) a = redN (b.1 * a.1) (b.2 * (a.2 - a.1)) := by
  obtain ⟨k1, k2, k3, k4, k5, k6⟩ := fac_facts H hs hlt
  unfold mulN
  refine red_eq (Nat.mul_pos k4.pos H.a2) k2 ?_
  have e := red_same (b.1 * a.2) (b.2 * (a.2 - a.1))
  unfold facN
  calc _ = ((redN (b.1 * a.2) (b.2 * (a.2 - a.1))).1 * (b.2 * (a.2 - a.1))) * a.1 := by ac_rfl
    _ = (b.1 * a.2 * (redN (b.1 * a.2) (b.2 * (a.2 - a.1))).2) * a.1 := by rw [e]
    _ = _ := by ac_rfl
theorem mul_facts {a b h : Nat × Nat} {na nc : Nat} (H : VB a b h na nc) (hs : leN (addN a b) (1, 1)) (hlt : a.1 < a.2) :
    (facN a b).1 * a.1 ≤ 10240000000000 ∧ 0 < (facN a b).2 * a.2 ∧ (facN a b).2 * a.2 ≤ 10240000000000 ∧ Sh (mulN (facN a b) a).1 (mulN (facN a b) a).2 ∧ (mulN (facN a b) a).1 ≤ 3200000 ∧ (mulN (facN a b) a).2 ≤ 3200000 := by
  obtain ⟨k1, k2, k3, k4, k5, k6⟩ := fac_facts H hs hlt
  have h1 : a.2 ≤ 3200000 := Nat.le_trans (Nat.le_of_dvd H.pa H.da) (Nat.le_trans (Nat.le_mul_of_pos_right _ H.pc) H.le)
  have m1 : (facN a b).1 * a.1 ≤ 3200000 * 3200000 := Nat.mul_le_mul (by omega) (by omega)
  have m2 : (facN a b).2 * a.2 ≤ 3200000 * 3200000 := Nat.mul_le_mul k6 h1
  have e := mul_fac H hs hlt
  have d1 : (mulN (facN a b) a).2 ≤ 3200000 := by rw [e]; exact Nat.le_trans (red_le_den _ _) k3
  have n0 : b.1 * a.1 ≤ b.1 * a.2 := Nat.mul_le_mul_left _ (by omega)
  have n1 : (mulN (facN a b) a).1 ≤ 3200000 := by rw [e]; exact Nat.le_trans (red_le_num _ _) (by omega)
  refine ⟨m1, Nat.mul_pos k4.pos H.a2, m2, ⟨?_, by omega, by omega, ?_⟩, n1, d1⟩
  · rw [e]; exact red_pos k2
  · rw [e]; exact red_cop k2
/-- The factor times a, and h together. -/
theorem mul_sum {a b h : Nat × Nat} {na nc : Nat} (H : VB a b h na nc) (hs : leN (addN a b) (1, 1)) (hlt : a.1 < a.2) :
    addB (mulN (facN a b) a) h = true ∧ Sh (addN (mulN (facN a b) a) h).1 (addN (mulN (facN a b) a) h).2 := by
  obtain ⟨k1, k2, k3, k4, k5, k6⟩ := fac_facts H hs hlt
  obtain ⟨m1, m2, m3, m4, m5, m6⟩ := mul_facts H hs hlt
  obtain ⟨u, hu⟩ := H.db
  obtain ⟨v, hv⟩ := H.dh
  obtain ⟨d, hd⟩ : ∃ d, nc * (a.2 - a.1) = d := ⟨_, rfl⟩
  have hd0 : 0 < d := by rw [← hd]; exact Nat.mul_pos H.pc (by omega)
  have hd1 : d ≤ 3200000 := by
    rw [← hd]
    refine Nat.le_trans ?_ H.le
    rw [Nat.mul_comm na]
    have := Nat.le_of_dvd H.pa H.da
    exact Nat.mul_le_mul_left _ (by omega)
  have hdu : d = b.2 * (a.2 - a.1) * u := by rw [← hd, hu]; ac_rfl
  have hdv : d = h.2 * (v * (a.2 - a.1)) := by rw [← hd, hv]; ac_rfl
  have e := mul_fac H hs hlt
  have hrep : (mulN (facN a b) a).1 * d = (b.1 * a.1 * u) * (mulN (facN a b) a).2 := by
    rw [e, hdu]
    have e2 := red_same (b.1 * a.1) (b.2 * (a.2 - a.1))
    calc _ = ((redN (b.1 * a.1) (b.2 * (a.2 - a.1))).1 * (b.2 * (a.2 - a.1))) * u := by ac_rfl
      _ = (b.1 * a.1 * (redN (b.1 * a.1) (b.2 * (a.2 - a.1))).2) * u := by rw [e2]
      _ = _ := by ac_rfl
  have e3 := add_rep m4.pos H.h2 hd0 hrep
  have e4 : redN (b.1 * a.1 * u * h.2 + h.1 * d) (d * h.2) = redN (b.1 * a.1 * u + h.1 * (v * (a.2 - a.1))) d := by
    refine red_eq (Nat.mul_pos hd0 H.h2) hd0 ?_
    have : h.1 * d = h.1 * (v * (a.2 - a.1)) * h.2 := by rw [hdv]; ac_rfl
    rw [this, ← Nat.add_mul]
    ac_rfl
  have n1 : b.1 * a.1 * u ≤ d := by
    rw [hdu]
    exact Nat.mul_le_mul_right _ (Nat.le_trans (Nat.mul_le_mul_left _ (by omega)) k1)
  have n2 : h.1 * (v * (a.2 - a.1)) ≤ 5 * d := by
    rw [hdv]
    exact Nat.le_trans (Nat.mul_le_mul_right _ H.h1) (Nat.le_of_eq (Nat.mul_assoc _ _ _))
  have s2 : (addN (mulN (facN a b) a) h).2 ≤ d := by rw [e3, e4]; exact red_le_den _ _
  have s1 : (addN (mulN (facN a b) a) h).1 ≤ b.1 * a.1 * u + h.1 * (v * (a.2 - a.1)) := by rw [e3, e4]; exact red_le_num _ _
  refine ⟨?_, ⟨add_pos m4.pos H.h2, by omega, by omega, add_cop m4.pos H.h2⟩⟩
  unfold addB
  simp
  omega
/-- The shares of a list of valid tasks are such. -/
def prodE (ts : List Tk) : Nat := ts.foldr (fun t n => t.ev.toNat * n) 1
theorem prodE_pos : ∀ {ts : List Tk}, (∀ t ∈ ts, t.ok = true) → 0 < prodE ts
  | [], _ => by decide
  | t :: ts, h => by
    obtain ⟨_, _, _, _⟩ := ok_nums (h t (by simp))
    exact Nat.mul_pos (by omega) (prodE_pos fun u hu => h u (List.mem_cons_of_mem _ hu))
theorem prodE_dvd : ∀ {ts : List Tk} {t : Tk}, t ∈ ts → t.ev.toNat ∣ prodE ts
  | [], _, h => by cases h
  | u :: ts, t, h => by
    rcases List.mem_cons.1 h with rfl | h
    · exact Nat.dvd_mul_right _ _
    · exact Nat.dvd_trans (prodE_dvd h) (Nat.dvd_mul_left _ _)
theorem prodE_le : ∀ {ts : List Tk}, (∀ t ∈ ts, t.ok = true) → prodE (ts.filter fun t => t.cr == false) * prodE (ts.filter fun t => t.cr == true) ≤ 20 ^ ts.length
  | [], _ => by decide
  | t :: ts, h => by
    obtain ⟨_, _, _, _⟩ := ok_nums (h t (by simp))
    have ih := prodE_le (ts := ts) fun u hu => h u (List.mem_cons_of_mem _ hu)
    have hev : t.ev.toNat ≤ 20 := by omega
    rw [List.length_cons, Nat.pow_succ, Nat.mul_comm (20 ^ ts.length)]
    cases hc : t.cr
    · simp only [List.filter_cons, hc]
      simp only [beq_self_eq_true, if_true]
      show t.ev.toNat * prodE (ts.filter fun t => t.cr == false) * prodE (ts.filter fun t => t.cr == true) ≤ _
      rw [Nat.mul_assoc]
      exact Nat.mul_le_mul hev ih
    · simp only [List.filter_cons, hc]
      simp only [beq_self_eq_true, if_true]
      show prodE (ts.filter fun t => t.cr == false) * (t.ev.toNat * prodE (ts.filter fun t => t.cr == true)) ≤ _
      rw [Nat.mul_left_comm]
      exact Nat.mul_le_mul hev ih
theorem sum_dvd {l : List Tk} {f : Tk → Nat} (h : ∀ t ∈ l, t.ok = true) : (sumN (l.map fun t => redN (f t) t.ev.toNat)).2 ∣ prodE l := by
  rw [sum_common (prodE_pos h)]
  · exact red_dvd _ _
  · intro x hx
    obtain ⟨t, ht, rfl⟩ := List.mem_map.1 hx
    obtain ⟨_, _, _, _⟩ := ok_nums (h t ht)
    exact ⟨red_pos (by omega), Nat.dvd_trans (red_dvd _ _) (prodE_dvd ht)⟩
theorem lowL_num {ts : List Tk} (c : Bool) (hl : ts.length ≤ 5) (h : ∀ t ∈ ts, t.ok = true) : (lowL ts c).1 ≤ 5 * (lowL ts c).2 := by
  obtain ⟨_, b2⟩ := sum_bound (parts_facts c h)
  refine Nat.le_trans b2 (Nat.mul_le_mul_right _ ?_)
  rw [List.length_map]; exact Nat.le_trans (List.length_filter_le _ _) hl
theorem vb_of {ts : List Tk} (h : setB ts = true) : VB (lowOf ts false) (lowOf ts true) (highOf ts) (prodE (ts.filter fun t => t.cr == false)) (prodE (ts.filter fun t => t.cr == true)) := by
  obtain ⟨hl, hok⟩ := setB_all h
  have e1 : ∀ c, lowOf ts c = lowL ts c := fun c => by unfold lowOf; rw [if_pos h]
  have e2 : highOf ts = lowL (critL ts) true := by unfold highOf; rw [if_pos h]
  have hf : ∀ c, ∀ t ∈ ts.filter (fun t => t.cr == c), t.ok = true := fun c t ht => hok t (List.mem_filter.1 ht).1
  refine ⟨?_, prodE_pos (hf false), prodE_pos (hf true), ?_, ?_, ?_, (lowOf_sh false h).1.pos, (lowOf_sh true h).1.pos, (highOf_sh h).1.pos, ?_, ?_, ?_⟩
  · exact Nat.le_trans (prodE_le hok) (Nat.le_trans (Nat.pow_le_pow_right (by decide) hl) (by decide))
  · rw [e1]; exact sum_dvd (hf false)
  · rw [e1]; exact sum_dvd (hf true)
  · rw [e2, crit_parts]; exact sum_dvd (f := fun t => t.hi.toNat) (hf true)
  · rw [e1]; exact lowL_num _ hl hok
  · rw [e1]; exact lowL_num _ hl hok
  · rw [e2]; exact lowL_num _ (Nat.le_trans (critL_len ts) hl) (crit_ok hok)
end
section
def impB (ts : List Tk) : Bool := setB ts && ts.all fun t => decide (t.du = t.ev)
def plainV (ts : List Tk) : Bool := impB ts && leB (addN (lowOf ts false) (highOf ts)) (1, 1)
def facB (ts : List Tk) : Bool := impB ts && (plainV ts || (leB (addN (lowOf ts false) (lowOf ts true)) (1, 1) && !decide (lowOf ts false = (1, 1))))
def facV (ts : List Tk) : Nat × Nat := if facB ts then (if plainV ts then (1, 1) else facN (lowOf ts false) (lowOf ts true)) else (0, 0)
def virtV (ts : List Tk) : Bool := facB ts && (plainV ts || leB (addN (mulN (facV ts) (lowOf ts false)) (highOf ts)) (1, 1))
theorem imp_set {ts : List Tk} (h : impB ts = true) : setB ts = true := by unfold impB at h; simp at h; exact h.1
theorem imp_all {ts : List Tk} (h : impB ts = true) : ∀ t ∈ ts, t.du = t.ev := by unfold impB at h; simp at h; exact h.2
theorem imp_of {ts : List Tk} (h : setB ts = true) (k : ∀ t ∈ ts, t.du = t.ev) : impB ts = true := by unfold impB; simp; exact ⟨h, k⟩
theorem plain_imp {ts : List Tk} (h : plainV ts = true) : impB ts = true := by unfold plainV at h; simp at h; exact h.1
theorem plain_le {ts : List Tk} (h : plainV ts = true) : leN (addN (lowOf ts false) (highOf ts)) (1, 1) := by unfold plainV at h; simp at h; exact leB_iff.1 h.2
theorem fac_imp {ts : List Tk} (h : facB ts = true) : impB ts = true := by unfold facB at h; simp at h; exact h.1
theorem fac_plain {ts : List Tk} (h : plainV ts = true) : facB ts = true := by unfold facB; rw [plain_imp h, h]; rfl
theorem facV_plain {ts : List Tk} (h : plainV ts = true) : facV ts = (1, 1) := by unfold facV; rw [fac_plain h, h]; rfl
theorem facV_no {ts : List Tk} (h : facB ts = false) : facV ts = (0, 0) := by unfold facV; rw [h]; rfl
theorem facV_some {ts : List Tk} (h : facB ts = true) (hp : plainV ts = false) : facV ts = facN (lowOf ts false) (lowOf ts true) := by unfold facV; rw [h, hp]; rfl
/-- Where tasks do not hold plainly, the two conditions. -/
theorem fac_two {ts : List Tk} (h : facB ts = true) (hp : plainV ts = false) : leN (addN (lowOf ts false) (lowOf ts true)) (1, 1) ∧ lowOf ts false ≠ (1, 1) := by
  unfold facB at h
  rw [hp] at h
  simp at h
  exact ⟨leB_iff.1 h.2.1, h.2.2⟩
theorem fac_lt {ts : List Tk} (h : facB ts = true) (hp : plainV ts = false) : (lowOf ts false).1 < (lowOf ts false).2 := by
  obtain ⟨h1, h2⟩ := fac_two h hp
  have hs := imp_set (fac_imp h)
  have V := vb_of hs
  exact lt_of_ne (lowOf_sh false hs).1.cop (le_trans' (add_pos V.a2 V.b2) (le_add V.a2 V.b2) h1) h2
theorem facV_sh {ts : List Tk} (h : facB ts = true) : Sh (facV ts).1 (facV ts).2 ∧ (facV ts).1 ≤ (facV ts).2 ∧ (facV ts).2 ≤ 3200000 := by
  cases hp : plainV ts
  · obtain ⟨h1, h2⟩ := fac_two h hp
    rw [facV_some h hp]
    have V := vb_of (imp_set (fac_imp h))
    obtain ⟨_, _, _, k4, k5, k6⟩ := fac_facts V h1 (fac_lt h hp)
    exact ⟨k4, k5, k6⟩
  · rw [facV_plain hp]
    exact ⟨one_sh, Nat.le_refl _, by decide⟩
end
section
theorem plain_pack {ts : List Tk} (h : setB ts = true) {p q u v : Nat} (hp : lowOf ts false = (p, q)) (hu : highOf ts = (u, v)) :
    ∃ (x y : Nat) (z : Int), Sh p q ∧ Sh u v ∧ Sh x y ∧ addN (p, q) (u, v) = (x, y) ∧ plusS p q u v = (x, y) ∧ plusB p q u v = true ∧ cmpS x y 1 1 = z ∧ leB (addN (lowOf ts false) (highOf ts)) (1, 1) = decide (z ≤ 0) := by
  have V := (vb_of h).ah
  have s1 := (lowOf_sh false h).1
  have s2 := (highOf_sh h).1
  rw [hp, hu] at V ⊢
  rw [hp] at s1
  rw [hu] at s2
  dsimp only at s1 s2
  obtain ⟨e1, e2⟩ := plus_sh s1 s2
  refine ⟨(addN (p, q) (u, v)).1, (addN (p, q) (u, v)).2, _, s1, s2, V.2.1, rfl, ?_, e1.trans V.1, rfl, ?_⟩
  · rw [e2, V.1]; rfl
  · have := cmp_sh V.2.1 one_sh
    rw [← cmp_leB]
    exact congrArg (fun z : Int => decide (z ≤ 0)) this.symm
theorem low_pack {ts : List Tk} (h : setB ts = true) {p q u v : Nat} (hp : lowOf ts false = (p, q)) (hu : lowOf ts true = (u, v)) :
    ∃ (x y : Nat) (z : Int), Sh p q ∧ Sh u v ∧ Sh x y ∧ addN (p, q) (u, v) = (x, y) ∧ plusS p q u v = (x, y) ∧ plusB p q u v = true ∧ cmpS x y 1 1 = z ∧ leB (addN (lowOf ts false) (lowOf ts true)) (1, 1) = decide (z ≤ 0) := by
  have V := (vb_of h).ab
  have s1 := (lowOf_sh false h).1
  have s2 := (lowOf_sh true h).1
  rw [hp, hu] at V ⊢
  rw [hp] at s1
  rw [hu] at s2
  dsimp only at s1 s2
  obtain ⟨e1, e2⟩ := plus_sh s1 s2
  refine ⟨(addN (p, q) (u, v)).1, (addN (p, q) (u, v)).2, _, s1, s2, V.2.1, rfl, ?_, e1.trans V.1, rfl, ?_⟩
  · rw [e2, V.1]; rfl
  · have := cmp_sh V.2.1 one_sh
    rw [← cmp_leB]
    exact congrArg (fun z : Int => decide (z ≤ 0)) this.symm
/-- Whether the others need all there is. -/
theorem one_pack {ts : List Tk} (h : setB ts = true) {p q : Nat} (hp : lowOf ts false = (p, q)) :
    ∃ z : Int, cmpS p q 1 1 = z ∧ decide (lowOf ts false = (1, 1)) = decide (z = 0) := by
  have s1 := (lowOf_sh false h).1
  rw [hp] at s1 ⊢
  refine ⟨_, rfl, ?_⟩
  rw [Bool.eq_iff_iff, decide_eq_true_iff, decide_eq_true_iff]
  have e : cmpS (p : Int) (q : Int) 1 1 = 0 ↔ p = 1 ∧ q = 1 := cmpS_zero (a := p) (b := q) (c := 1) (d := 1) s1 one_sh
  rw [e]
  exact ⟨fun x => by injection x with a b; exact ⟨a, b⟩, fun x => by rw [x.1, x.2]⟩
/-- The factor where tasks do not hold plainly. -/
theorem fac_pack {ts : List Tk} (h : facB ts = true) (hp : plainV ts = false) {p q u v : Nat} (ha : lowOf ts false = (p, q)) (hb : lowOf ts true = (u, v)) :
    ∃ (N D g X Y : Nat), u * q = N ∧ v * (q - p) = D ∧ p < q ∧ Nat.gcd D N = g ∧ 1 ≤ g ∧ N / g = X ∧ D / g = Y ∧ N ≤ 3200000 ∧ 1 ≤ D ∧ D ≤ 3200000 ∧ mkS X Y = (X, Y) ∧ mkB X Y = true ∧ facV ts = (X, Y) ∧ Sh X Y ∧ X ≤ 3200000 ∧ Y ≤ 3200000 := by
  obtain ⟨h1, h2⟩ := fac_two h hp
  have V := vb_of (imp_set (fac_imp h))
  have hlt := fac_lt h hp
  obtain ⟨k1, k2, k3, k4, k5, k6⟩ := fac_facts V h1 hlt
  have e0 := facV_some h hp
  rw [ha, hb] at k1 k2 k3 k4 k5 k6 e0
  rw [ha] at hlt
  dsimp only at k1 k2 k3 hlt
  have eX : (facN (p, q) (u, v)).1 = u * q / Nat.gcd (v * (q - p)) (u * q) := by unfold facN redN; rw [Nat.gcd_comm]
  have eY : (facN (p, q) (u, v)).2 = v * (q - p) / Nat.gcd (v * (q - p)) (u * q) := by unfold facN redN; rw [Nat.gcd_comm]
  rw [eX, eY] at k4 k5
  rw [eY] at k6
  have em : mkB ((u * q / Nat.gcd (v * (q - p)) (u * q) : Nat) : Int) ((v * (q - p) / Nat.gcd (v * (q - p)) (u * q) : Nat) : Int) = true := nat_mk k4.num k4.pos k4.den
  refine ⟨_, _, _, _, _, rfl, rfl, hlt, rfl, Nat.gcd_pos_of_pos_left _ k2, rfl, rfl, by omega, k2, k3, ?_, em, ?_, k4, by omega, k6⟩
  · rw [mkS_nat k4.num k4.pos k4.den]; exact sh_redN k4
  · rw [e0, ← eX, ← eY]
/-- The factor times what the others need, and the high needs, together. -/
theorem virt_pack {ts : List Tk} (h : facB ts = true) (hp : plainV ts = false) {p q X Y s t : Nat} (ha : lowOf ts false = (p, q)) (hf : facV ts = (X, Y)) (hh : highOf ts = (s, t)) :
    ∃ (N D g P Q x y : Nat) (z : Int), X * p = N ∧ Y * q = D ∧ Nat.gcd D N = g ∧ 1 ≤ g ∧ N / g = P ∧ D / g = Q ∧ N ≤ 10240000000000 ∧ 1 ≤ D ∧ D ≤ 10240000000000 ∧ mkS P Q = (P, Q) ∧ mkB P Q = true ∧ Sh P Q ∧ Sh s t ∧ P ≤ 3200000 ∧ Q ≤ 3200000 ∧ plusS P Q s t = (x, y) ∧ plusB P Q s t = true ∧ Sh x y ∧ cmpS x y 1 1 = z ∧ virtV ts = decide (z ≤ 0) ∧ mulN (X, Y) (p, q) = (P, Q) ∧ addN (P, Q) (s, t) = (x, y) := by
  obtain ⟨h1, h2⟩ := fac_two h hp
  have hs := imp_set (fac_imp h)
  have V := vb_of hs
  have hlt := fac_lt h hp
  obtain ⟨m1, m2, m3, m4, m5, m6⟩ := mul_facts V h1 hlt
  obtain ⟨a1, a2⟩ := mul_sum V h1 hlt
  have s2 := (highOf_sh hs).1
  have ev : virtV ts = leB (addN (mulN (facV ts) (lowOf ts false)) (highOf ts)) (1, 1) := by unfold virtV; rw [h, hp]; rfl
  rw [← facV_some h hp] at m1 m2 m3 m4 m5 m6 a1 a2
  rw [ha, hf] at m1 m2 m3 m4 m5 m6 a1 a2 ev
  rw [hh] at s2 a1 a2 ev
  dsimp only at m1 m2 m3 s2
  have eX : (mulN (X, Y) (p, q)).1 = X * p / Nat.gcd (Y * q) (X * p) := by unfold mulN redN; rw [Nat.gcd_comm]
  have eY : (mulN (X, Y) (p, q)).2 = Y * q / Nat.gcd (Y * q) (X * p) := by unfold mulN redN; rw [Nat.gcd_comm]
  have e : mulN (X, Y) (p, q) = (X * p / Nat.gcd (Y * q) (X * p), Y * q / Nat.gcd (Y * q) (X * p)) := Prod.ext eX eY
  rw [e] at m4 m5 m6 a1 a2 ev
  dsimp only at m4 m5 m6
  obtain ⟨f1, f2⟩ := plus_sh m4 s2
  refine ⟨_, _, _, _, _, _, _, _, rfl, rfl, rfl, Nat.gcd_pos_of_pos_left _ m2, rfl, rfl, m1, m2, m3, ?_, nat_mk m4.num m4.pos m4.den, m4, s2, m5, m6, ?_, f1.trans a1, a2, rfl, ?_, e, rfl⟩
  · rw [mkS_nat m4.num m4.pos m4.den]; exact sh_redN m4
  · rw [f2, a1]; rfl
  · rw [ev, ← cmp_leB]
    exact congrArg (fun z : Int => decide (z ≤ 0)) (cmp_sh a2 one_sh).symm
end
section
open Go.RowKit
set_option linter.unusedVariables false
def ShRes (p q : Nat) (w : World) (e : Ending) (w' : World) : Prop := e = .returned (.agg #[.int .i64 (p : Int), .int .i64 (q : Int)]) ∧ Below w.heap.size w w'
set_option maxHeartbeats 1000000 in
theorem plus2_is (w : World) (e0 : Addr) (he : EG w e0) (u v x y p q : Nat) (hp : plusS u v x y = (p, q)) (hpb : plusB u v x y = true) :
    Calls Tryz.prog 113 #[.agg #[.int .i64 (u : Int), .int .i64 (v : Int)], .agg #[.int .i64 (x : Int), .int .i64 (y : Int)]] w (ShRes p q w) := by
  have HE := Lib.hid he
  have HP := Lib.hid (And.intro hp hpb)
  clear hp hpb he
  go_enter Tryz.func113, Tryz.ntmps113
  go_wp2_with fail
  (try (go_quiet (fail); go_wp2_with fail))
  refine (iAdd_is _ e0 (by repeat (first | exact HE.out | refine EG.drewN ?_ _ | refine EG.drew ?_ | refine EG.alloc ?_ _)) u v x y p q true HP.out.1 HP.out.2).mono ?_
  rintro e w2 ⟨rfl, hb⟩
  have HB2 := Lib.hid (show Below w.heap.size w w2 from bl_trans (by repeat (first | exact Below.refl w.heap.size w | refine bl_drewN ?_ _ | refine Below.drew ?_ | refine bl_alloc ?_ _)) hb)
  have bR2 := Lib.hid (show Blk w2 (w.heap.size + 1 + 1) 87 #[.int .i64 0, .int .i64 0] from Blk.below (by have h := Blk.new ((w.alloc (.cells #[.int .i64 (u : Int), .int .i64 (v : Int)] 87)).alloc (.cells #[.int .i64 (x : Int), .int .i64 (y : Int)] 87)) 87 #[.int .i64 0, .int .i64 0]; simp only [World.size_alloc] at h; repeat (first | with_reducible exact h | refine Blk.drewN ?_ _ | refine Blk.drew ?_)) hb (by simp))
  clear hb
  have cR0 := bR2.out.cell
  have fR0 := bR2.out.frozen
  have cR := fun o => (bR2.out.alloc o).cell
  have fR := fun o => (bR2.out.alloc o).frozen
  have cF := fun (s t : Value) o => (((bR2.out.alloc o).set_ 0 s).set_ 1 t).cell
  go_wp2
  (try go_region)
  all_goals (try go_wp2)
  all_goals refine bodyPost_ret (v := .agg #[.int .i64 (p : Int), .int .i64 (q : Int)]) (by simp [results, Tryz.results113, go_sem, cF]) rfl ⟨rfl, (by repeat (first | with_reducible exact HB2.out | refine bl_drewN ?_ _ | refine Below.drew ?_ | refine bl_alloc ?_ _ | refine bl_set ?_ (by dsimp only; omega) _))⟩
set_option maxHeartbeats 1000000 in
theorem plus_is (w : World) (e0 : Addr) (he : EG w e0) (u v : Nat) (lo hi du ev : Int) (cr : Bool) (x y p q : Nat) (hm : mkS lo ev = (x, y)) (hb : mkB lo ev = true) (hp : plusS u v x y = (p, q)) (hpb : plusB u v x y = true) :
    Calls Tryz.prog 146 #[.agg #[.int .i64 (u : Int), .int .i64 (v : Int)], .agg #[.int .i64 lo, .int .i64 hi, .int .i64 du, .int .i64 ev, .bool cr]] w (ShRes p q w) := by
  have HE := Lib.hid he
  have HM := Lib.hid (And.intro hm hb)
  have HP := Lib.hid (And.intro hp hpb)
  clear hm hb hp hpb he
  go_enter Tryz.func146, Tryz.ntmps146
  go_wp2_with fail
  (try (go_quiet (fail); go_wp2_with fail))
  refine (iMake_is _ lo ev x y true HM.out.1 HM.out.2).mono ?_
  rintro e w1 ⟨rfl, hb⟩
  have HB1 := Lib.hid (show Below w.heap.size w w1 from bl_trans (by repeat (first | exact Below.refl w.heap.size w | refine bl_drewN ?_ _ | refine Below.drew ?_ | refine bl_alloc ?_ _)) hb)
  have bS1 := Lib.hid (show Blk w1 w.heap.size 87 #[.int .i64 (u : Int), .int .i64 (v : Int)] from Blk.below (by repeat (first | with_reducible exact Blk.new w 87 #[.int .i64 (u : Int), .int .i64 (v : Int)] | refine Blk.drewN ?_ _ | refine Blk.drew ?_ | refine Blk.alloc ?_ _)) hb (by simp; omega))
  have bR1 := Lib.hid (show Blk w1 (w.heap.size + 1 + 1) 87 #[.int .i64 0, .int .i64 0] from Blk.below (by have h := Blk.new ((w.alloc (.cells #[.int .i64 (u : Int), .int .i64 (v : Int)] 87)).alloc (.cells #[.int .i64 lo, .int .i64 hi, .int .i64 du, .int .i64 ev, .bool cr] 43)) 87 #[.int .i64 0, .int .i64 0]; simp only [World.size_alloc] at h; repeat (first | with_reducible exact h | refine Blk.drewN ?_ _ | refine Blk.drew ?_)) hb (by simp))
  clear hb
  have cS0 := bS1.out.cell
  have cS := fun o => (bS1.out.alloc o).cell
  go_wp2_with fail
  (try (go_quiet (fail); go_wp2_with fail))
  refine (plus2_is _ e0 (by repeat (first | exact HE.out.below HB1.out | refine EG.drewN ?_ _ | refine EG.drew ?_ | refine EG.alloc ?_ _)) u v x y p q HP.out.1 HP.out.2).mono ?_
  rintro e w2 ⟨rfl, hb⟩
  have HB2 := Lib.hid (show Below w.heap.size w w2 from bl_trans (by repeat (first | with_reducible exact HB1.out | refine bl_drewN ?_ _ | refine Below.drew ?_ | refine bl_alloc ?_ _)) hb)
  have bR2 := Lib.hid (show Blk w2 (w.heap.size + 1 + 1) 87 #[.int .i64 0, .int .i64 0] from Blk.below (by repeat (first | with_reducible exact bR1.out | refine Blk.drewN ?_ _ | refine Blk.drew ?_ | refine Blk.alloc ?_ _)) hb (by have := bR1.out.lt; first | exact this | (simp; omega)))
  clear hb cS0 cS bS1 bR1 HB1
  have cR0 := bR2.out.cell
  have fR0 := bR2.out.frozen
  have cF := fun (s t : Value) => ((bR2.out.set_ 0 s).set_ 1 t).cell
  go_wp2
  (try go_region)
  all_goals (try go_wp2)
  all_goals refine bodyPost_ret (v := .agg #[.int .i64 (p : Int), .int .i64 (q : Int)]) (by simp [results, Tryz.results146, go_sem, cF]) rfl ⟨rfl, (by repeat (first | with_reducible exact HB2.out | refine bl_drewN ?_ _ | refine Below.drew ?_ | refine bl_alloc ?_ _ | refine bl_set ?_ (by dsimp only; omega) _))⟩
set_option maxHeartbeats 1000000 in
theorem iLow_is (w : World) (A : Option Addr) (n c : Nat) (ts : List Tk) (cr : Bool) (h : Tks w w.heap.size A n ts) (hn : n ≤ 1048576) (e0 : Addr) (he : EG w e0) (p q : Nat) (hpq : lowOf ts cr = (p, q)) :
    Calls Tryz.prog 112 #[.slice A n c, .bool cr] w (ShRes p q w) := by
  have H := Lib.hid h
  have HL := Lib.hid h.len
  have HE := Lib.hid he
  clear h he
  cases hs : setB ts
  · obtain ⟨rfl, rfl⟩ := Prod.mk.inj ((lowOf_bad cr hs).symm.trans hpq)
    clear hpq
    go_enter Tryz.func112, Tryz.ntmps112
    go_wp2_with fail
    refine (iSetValid_any _ A n c ts ((H.out.below (by repeat (first | exact Below.refl w.heap.size w | refine bl_alloc ?_ _))).more (by simp)) hn).mono ?_
    rintro e w1 ⟨rfl, hb⟩
    have HB1 := Lib.hid (show Below w.heap.size w w1 from bl_trans (by repeat (first | exact Below.refl w.heap.size w | refine bl_alloc ?_ _)) hb)
    have bR1 := Lib.hid (Blk.below (Blk.new w 87 #[.int .i64 0, .int .i64 0]) hb (by simp))
    have cR := bR1.out.cell
    have fR := bR1.out.frozen
    clear hb
    go_wp2
    refine bodyPost_ret (v := .agg #[.int .i64 0, .int .i64 0]) (by simp [results, Tryz.results112, go_sem, cR]) rfl ⟨rfl, (by repeat (first | with_reducible exact HB1.out | refine bl_drewN ?_ _ | refine Below.drew ?_ | refine bl_alloc ?_ _ | refine bl_set ?_ (by dsimp only; omega) _))⟩
  have h5 : n ≤ 5 := by have := setB_len hs; rw [HL.out] at this; exact this
  have HS := Lib.hid hs
  have hpq' : lowL ts cr = (p, q) := by rw [← hpq]; unfold lowOf; rw [hs]; rfl
  have HPQ := Lib.hid hpq'
  clear hpq hpq' hs
  go_enter Tryz.func112, Tryz.ntmps112
  go_wp2_with fail
  refine (iSetValid_any _ A n c ts ((H.out.below (by repeat (first | exact Below.refl w.heap.size w | refine bl_alloc ?_ _))).more (by simp)) hn).mono ?_
  rintro e w1 ⟨rfl, hb⟩
  rw [HS.out]
  have HB1 := Lib.hid (show Below w.heap.size w w1 from bl_trans (by repeat (first | exact Below.refl w.heap.size w | refine bl_alloc ?_ _)) hb)
  have bR1 := Lib.hid (Blk.below (Blk.new w 87 #[.int .i64 0, .int .i64 0]) hb (by simp))
  have hlt1 := bR1.out.lt
  clear hb
  go_wp2
  go_loopw [15] (fun i wr => ∃ k u v : Nat, k ≤ n ∧ i = .int .i64 k ∧ Hid (lowL (ts.take k) cr = (u, v)) ∧ Hid (Blk wr w1.heap.size 87 #[.int .i64 (u : Int), .int .i64 (v : Int)]) ∧ Hid (Blk wr w.heap.size 87 #[.int .i64 0, .int .i64 0]) ∧ Hid (Below w.heap.size w wr)) (fun i _ => n - (intOf i).toNat)
  case atStart => exact ⟨0, 0, 1, Nat.zero_le _, rfl, by show _ = _; rfl, Blk.new w1 87 _, bR1.out.alloc _, bl_alloc HB1.out _⟩
  case round =>
    obtain ⟨k, u, v, hk, rfl, huv, bU, bR, HB⟩ := hrel
    have hltU := bU.out.lt
    by_cases hlt : k < n
    · obtain ⟨t, ht⟩ : ∃ t, ts[k]? = some t := ⟨ts[k]'(by rw [HL.out]; exact hlt), List.getElem?_eq_getElem _⟩
      obtain ⟨b, o, rfl, hbl, c0, c1, c2, c3, c4⟩ := (H.out.below HB.out).at_ k t ht
      by_cases hc : t.cr = cr
      · obtain ⟨x, y, u', v', g1, g2, g3, g4, g5, _, _⟩ := low_step HS.out ht hc huv.out
        have HG := Lib.hid (And.intro g1 (And.intro g2 (And.intro g4 g3)))
        have HT := Lib.hid g5
        clear ht g1 g2 g3 g4 g5
        obtain ⟨lo, hi, du, ev, cr'⟩ := t
        dsimp only at c0 c1 c2 c3 c4 hc HG
        subst hc
        have cU := fun o => (bU.out.alloc o).cell
        have hcb : (cr' == cr') = true := by simp
        go_wp2_with fail
        refine (plus_is _ e0 (by repeat (first | exact HE.out.below HB.out | refine EG.drewN ?_ _ | refine EG.drew ?_ | refine EG.alloc ?_ _)) u v lo hi du ev cr' x y u' v' HG.out.1 HG.out.2.1 HG.out.2.2.1 HG.out.2.2.2).mono ?_
        rintro e w2 ⟨rfl, hb⟩
        have HB2 := Lib.hid (show Below w.heap.size w w2 from bl_trans (by repeat (first | with_reducible exact HB.out | refine bl_drewN ?_ _ | refine Below.drew ?_ | refine bl_alloc ?_ _)) hb)
        have bU2 := Lib.hid (show Blk w2 w1.heap.size 87 #[.int .i64 (u : Int), .int .i64 (v : Int)] from Blk.below (by repeat (first | with_reducible exact bU.out | refine Blk.drewN ?_ _ | refine Blk.drew ?_ | refine Blk.alloc ?_ _)) hb (by have := bU.out.lt; first | exact this | (simp; omega)))
        have bR2 := Lib.hid (show Blk w2 w.heap.size 87 #[.int .i64 0, .int .i64 0] from Blk.below (by repeat (first | with_reducible exact bR.out | refine Blk.drewN ?_ _ | refine Blk.drew ?_ | refine Blk.alloc ?_ _)) hb (by have := bR.out.lt; first | exact this | (simp; omega)))
        clear hb cU
        have cU2 := bU2.out.cell
        have fU2 := bU2.out.frozen
        have hs2 := HB2.out.size
        go_wp2
        go_roundw
        case rel => exact ⟨k + 1, u', v', by omega, by go_num, HT, (bU2.out.set_ 0 (.int .i64 (u' : Int))).set_ 1 (.int .i64 (v' : Int)), (bR2.out.far (by dsimp only; omega) _).far (by dsimp only; omega) _, bl_set (bl_set HB2.out (by dsimp only; omega) _) (by dsimp only; omega) _⟩
        case measure => simp [intOf]; omega
      · have hno := (lowL_no ht hc).trans huv.out
        have HT := Lib.hid hno
        clear ht hno
        obtain ⟨lo, hi, du, ev, cr'⟩ := t
        dsimp only at c0 c1 c2 c3 c4 hc
        have hcb : (cr' == cr) = false := by simpa using hc
        go_wp2
        go_roundw
        case rel => exact ⟨k + 1, u, v, by omega, by go_num, HT, bU.out.alloc _, bR.out.alloc _, bl_alloc HB.out _⟩
        case measure => simp [intOf]; omega
    · obtain rfl : k = n := by omega
      have hpq : (u, v) = (p, q) := by rw [← huv.out, ← HPQ.out, List.take_of_length_le (by rw [HL.out]; omega)]
      obtain ⟨rfl, rfl⟩ := Prod.mk.inj hpq
      clear hpq
      have cU := bU.out.cell
      have cR := bR.out.cell
      have fR := bR.out.frozen
      have cF := fun (s t : Value) => ((bR.out.set_ 0 s).set_ 1 t).cell
      go_wp2
      refine bodyPost_ret (v := .agg #[.int .i64 (u : Int), .int .i64 (v : Int)]) (by simp [results, Tryz.results112, go_sem, cF]) rfl ⟨rfl, (by repeat (first | with_reducible exact HB.out | refine bl_drewN ?_ _ | refine Below.drew ?_ | refine bl_alloc ?_ _ | refine bl_set ?_ (by dsimp only; omega) _))⟩
set_option maxHeartbeats 1000000 in
theorem iHigh_is (w : World) (A : Option Addr) (n c : Nat) (ts : List Tk) (h : Tks w w.heap.size A n ts) (hn : n ≤ 1048576) (e0 : Addr) (he : EG w e0) (p q : Nat) (hpq : highOf ts = (p, q)) :
    Calls Tryz.prog 114 #[.slice A n c] w (ShRes p q w) := by
  have H := Lib.hid h
  have HL := Lib.hid h.len
  have HE := Lib.hid he
  clear h he
  cases hs : setB ts
  · obtain ⟨rfl, rfl⟩ := Prod.mk.inj ((highOf_bad hs).symm.trans hpq)
    clear hpq
    go_enter Tryz.func114, Tryz.ntmps114
    go_wp2_with fail
    refine (iSetValid_any _ A n c ts ((H.out.below (by repeat (first | exact Below.refl w.heap.size w | refine bl_alloc ?_ _))).more (by simp)) hn).mono ?_
    rintro e w1 ⟨rfl, hb⟩
    have HB1 := Lib.hid (show Below w.heap.size w w1 from bl_trans (by repeat (first | exact Below.refl w.heap.size w | refine bl_alloc ?_ _)) hb)
    have bR1 := Lib.hid (Blk.below (Blk.new w 87 #[.int .i64 0, .int .i64 0]) hb (by simp))
    have cR := bR1.out.cell
    have fR := bR1.out.frozen
    clear hb
    go_wp2
    refine bodyPost_ret (v := .agg #[.int .i64 0, .int .i64 0]) (by simp [results, Tryz.results114, go_sem, cR]) rfl ⟨rfl, (by repeat (first | with_reducible exact HB1.out | refine bl_drewN ?_ _ | refine Below.drew ?_ | refine bl_alloc ?_ _ | refine bl_set ?_ (by dsimp only; omega) _))⟩
  have h5 : n ≤ 5 := by have := setB_len hs; rw [HL.out] at this; exact this
  have HS := Lib.hid hs
  obtain ⟨us, hus⟩ : ∃ us, us = critOf ts := ⟨_, rfl⟩
  have hpq' : lowOf us true = (p, q) := by rw [← hpq]; exact highOf_low hs hus
  have hul : us.length ≤ 5 := by have := critOf_len ts; rw [← hus, HL.out] at this; omega
  have HPQ := Lib.hid hpq'
  have HU := Lib.hid hus
  clear hpq hpq' hs hus
  go_enter Tryz.func114, Tryz.ntmps114
  go_wp2_with fail
  refine (iSetValid_any _ A n c ts ((H.out.below (by repeat (first | exact Below.refl w.heap.size w | refine bl_alloc ?_ _))).more (by simp)) hn).mono ?_
  rintro e w1 ⟨rfl, hb⟩
  rw [HS.out]
  have HB1 := Lib.hid (show Below w.heap.size w w1 from bl_trans (by repeat (first | exact Below.refl w.heap.size w | refine bl_alloc ?_ _)) hb)
  have bR1 := Lib.hid (show Blk w1 w.heap.size 87 #[.int .i64 0, .int .i64 0] from Blk.below (Blk.new w 87 #[.int .i64 0, .int .i64 0]) hb (by simp))
  clear hb
  go_wp2_with fail
  refine (iCriticalOf_is w1 A n c ts us HU.out ((H.out.below HB1.out).more HB1.out.size) hn).mono ?_
  rintro e w2 ⟨A2, c2, rfl, ho, hb⟩
  have HB2 := Lib.hid (bl_trans HB1.out hb)
  have HO := Lib.hid ho.reads.2
  have bR2 := Lib.hid (bR1.out.below hb bR1.out.lt)
  clear hb ho
  go_wp2_with fail
  refine (iLow_is w2 A2 _ c2 us true HO.out (by omega) e0 (by repeat (first | exact HE.out.below HB2.out | refine EG.drewN ?_ _ | refine EG.drew ?_ | refine EG.alloc ?_ _)) p q HPQ.out).mono ?_
  rintro e w3 ⟨rfl, hb⟩
  have HB3 := Lib.hid (bl_trans HB2.out hb)
  have bR3 := Lib.hid (bR2.out.below hb bR2.out.lt)
  have cR := bR3.out.cell
  have fR := bR3.out.frozen
  have cF := fun (s t : Value) => ((bR3.out.set_ 0 s).set_ 1 t).cell
  clear hb
  go_wp2
  refine bodyPost_ret (v := .agg #[.int .i64 (p : Int), .int .i64 (q : Int)]) (by simp [results, Tryz.results114, go_sem, cF]) rfl ⟨rfl, (by repeat (first | with_reducible exact HB3.out | refine bl_drewN ?_ _ | refine Below.drew ?_ | refine bl_alloc ?_ _ | refine bl_set ?_ (by dsimp only; omega) _))⟩
end
section
open Go.RowKit
set_option linter.unusedVariables false
set_option maxHeartbeats 600000 in
theorem sLow_is (w : World) (A : Option Addr) (n c : Nat) (ts : List Tk) (cr : Bool) (h : Tks w w.heap.size A n ts) (hn : n ≤ 1048576) (p q : Nat) (hpq : lowOf ts cr = (p, q)) :
    Calls Tryz.prog 118 #[.slice A n c, .bool cr] w (ShRes p q w) := by
  have H := Lib.hid h
  have HL := Lib.hid h.len
  clear h
  cases hs : setB ts
  · obtain ⟨rfl, rfl⟩ := Prod.mk.inj ((lowOf_bad cr hs).symm.trans hpq)
    clear hpq
    go_enter Tryz.func118, Tryz.ntmps118
    go_wp2_with fail
    refine (sSetValid_any _ A n c ts ((H.out.below (by repeat (first | exact Below.refl w.heap.size w | with_reducible refine bl_alloc ?_ _))).more (by simp; omega)) hn).mono ?_
    rintro e w1 ⟨rfl, hb⟩
    have HB1 := Lib.hid (show Below w.heap.size w w1 from bl_trans (by repeat (first | exact Below.refl w.heap.size w | with_reducible refine bl_alloc ?_ _)) hb)
    have bR1 := Lib.hid (show Blk w1 w.heap.size 87 #[.int .i64 0, .int .i64 0] from Blk.below ((Blk.new w 87 #[.int .i64 0, .int .i64 0]).alloc _) hb (by simp; omega))
    have cR := bR1.out.cell
    have fR := bR1.out.frozen
    clear hb
    go_wp2
    refine bodyPost_ret (v := .agg #[.int .i64 0, .int .i64 0]) (by simp [results, Tryz.results118, go_sem, cR]) rfl ⟨rfl, (by repeat (first | with_reducible exact HB1.out | refine bl_drewN ?_ _ | refine Below.drew ?_ | refine bl_alloc ?_ _ | refine bl_set ?_ (by dsimp only; omega) _))⟩
  have h5 : n ≤ 5 := by have := setB_len hs; rw [HL.out] at this; exact this
  have HS := Lib.hid hs
  have hpq' : lowL ts cr = (p, q) := by rw [← hpq]; unfold lowOf; rw [hs]; rfl
  have HPQ := Lib.hid hpq'
  clear hpq hpq' hs
  go_enter Tryz.func118, Tryz.ntmps118
  go_wp2_with fail
  refine (sSetValid_any _ A n c ts ((H.out.below (by repeat (first | exact Below.refl w.heap.size w | with_reducible refine bl_alloc ?_ _))).more (by simp; omega)) hn).mono ?_
  rintro e w1 ⟨rfl, hb⟩
  rw [HS.out]
  have HB1 := Lib.hid (show Below w.heap.size w w1 from bl_trans (by repeat (first | exact Below.refl w.heap.size w | with_reducible refine bl_alloc ?_ _)) hb)
  have bR1 := Lib.hid (show Blk w1 w.heap.size 87 #[.int .i64 0, .int .i64 0] from Blk.below ((Blk.new w 87 #[.int .i64 0, .int .i64 0]).alloc _) hb (by simp; omega))
  have bU1 := Lib.hid (show Blk w1 (w.heap.size + 1) 87 #[.int .i64 0, .int .i64 1] from Blk.below (by have h := Blk.new (w.alloc (.cells #[.int .i64 0, .int .i64 0] 87)) 87 #[.int .i64 0, .int .i64 1]; simp only [World.size_alloc] at h; exact h) hb (by simp))
  clear hb
  go_wp2
  go_loopw [6] (fun i wr => ∃ k u v : Nat, k ≤ n ∧ i = .int .i64 k ∧ Hid (lowL (ts.take k) cr = (u, v)) ∧ Hid (Blk wr (w.heap.size + 1) 87 #[.int .i64 (u : Int), .int .i64 (v : Int)]) ∧ Hid (Blk wr w.heap.size 87 #[.int .i64 0, .int .i64 0]) ∧ Hid (Below w.heap.size w wr)) (fun i _ => n - (intOf i).toNat)
  case atStart => exact ⟨0, 0, 1, Nat.zero_le _, rfl, by show _ = _; rfl, bU1, bR1, HB1⟩
  case round =>
    obtain ⟨k, u, v, hk, rfl, huv, bU, bR, HB⟩ := hrel
    have hltU := bU.out.lt
    by_cases hlt : k < n
    · obtain ⟨t, ht⟩ : ∃ t, ts[k]? = some t := ⟨ts[k]'(by rw [HL.out]; exact hlt), List.getElem?_eq_getElem _⟩
      obtain ⟨b, o, rfl, hbl, c0, c1, c2, c3, c4⟩ := (H.out.below HB.out).at_ k t ht
      have i1 : (0 : Int) ≤ (k : Int) := by omega
      have i2 : (k : Int) < (n : Int) := by omega
      by_cases hc : t.cr = cr
      · obtain ⟨x, y, u', v', g1, g2, g3, g4, g5, hU, hX⟩ := low_step HS.out ht hc huv.out
        have HG := Lib.hid (And.intro g1 (And.intro g2 (And.intro g4 g3)))
        have HSh := Lib.hid (And.intro hU hX)
        have HT := Lib.hid g5
        clear ht g1 g2 g3 g4 g5 hU hX
        obtain ⟨lo, hi, du, ev, cr'⟩ := t
        dsimp only at c0 c1 c2 c3 c4 hc HG
        subst hc
        have hbl' := Nat.lt_of_lt_of_le hbl HB.out.size
        have d0 := fun oo => (World.cell?_alloc_lt wr oo ⟨b, o + k * 5, none⟩ hbl').trans c0
        have d3 := fun oo => (World.cell?_alloc_lt wr oo ⟨b, o + k * 5 + 3, none⟩ hbl').trans c3
        have hcb : (cr' == cr') = true := by simp
        go_wp2_with fail
        go_region_with (go_at_call 120; refine (sMake_is _ lo ev x y true HG.out.1 HG.out.2.1).mono ?_; rintro e w2 ⟨rfl, hb⟩; have f0 : w2.cell? ⟨b, o + k * 5, none⟩ = some (.int .i64 lo) := (hb.cell (p := ⟨b, o + k * 5, none⟩) (by first | exact hbl' | (simp; omega))).trans (by first | exact c0 | exact d0 _); have f3 : w2.cell? ⟨b, o + k * 5 + 3, none⟩ = some (.int .i64 ev) := (hb.cell (p := ⟨b, o + k * 5 + 3, none⟩) (by first | exact hbl' | (simp; omega))).trans (by first | exact c3 | exact d3 _); have hbl2 : b < w2.heap.size := Nat.lt_of_lt_of_le hbl' (by have := hb.size; first | exact this | (simp at this; omega)); have g0 := fun oo => (World.cell?_alloc_lt w2 oo ⟨b, o + k * 5, none⟩ hbl2).trans f0; have g3 := fun oo => (World.cell?_alloc_lt w2 oo ⟨b, o + k * 5 + 3, none⟩ hbl2).trans f3; have HB2 := Lib.hid (show Below w.heap.size w w2 from bl_trans (by repeat (first | with_reducible exact HB.out | with_reducible refine bl_drewN ?_ _ | with_reducible refine Below.drew ?_ | with_reducible refine bl_alloc ?_ _)) hb); have bU2 := Lib.hid (show Blk w2 (w.heap.size + 1) 87 #[.int .i64 (u : Int), .int .i64 (v : Int)] from Blk.below (by repeat (first | with_reducible exact bU.out | with_reducible refine Blk.drewN ?_ _ | with_reducible refine Blk.drew ?_ | with_reducible refine Blk.alloc ?_ _)) hb (by have := bU.out.lt; first | exact this | (simp; omega))); have bR2 := Lib.hid (show Blk w2 w.heap.size 87 #[.int .i64 0, .int .i64 0] from Blk.below (by repeat (first | with_reducible exact bR.out | with_reducible refine Blk.drewN ?_ _ | with_reducible refine Blk.drew ?_ | with_reducible refine Blk.alloc ?_ _)) hb (by have := bR.out.lt; first | exact this | (simp; omega))); first | (have bC := Lib.hid (show Blk w2 wr.heap.size 87 #[.int .i64 0, .int .i64 0] from Blk.below (Blk.drew (Blk.new wr 87 #[.int .i64 0, .int .i64 0])) hb (Blk.new wr 87 #[.int .i64 0, .int .i64 0]).lt); have cC := bC.out.cell; have fC := bC.out.frozen) | (have bC := Lib.hid (show Blk w2 wr.heap.size 87 #[.int .i64 0, .int .i64 0] from Blk.below (Blk.new wr 87 #[.int .i64 0, .int .i64 0]) hb (Blk.new wr 87 #[.int .i64 0, .int .i64 0]).lt); have cC := bC.out.cell; have fC := bC.out.frozen) | skip; clear hb)
        all_goals first
          | (have bSX := Lib.hid (show Blk ((w2.setCell ⟨wr.heap.size, 0, none⟩ (.int .i64 (x : Int))).setCell ⟨wr.heap.size, 1, none⟩ (.int .i64 (y : Int))) wr.heap.size 87 #[.int .i64 (x : Int), .int .i64 (y : Int)] from (bC.out.set_ 0 _).set_ 1 _)
             have hne1 : w.heap.size + 1 ≠ wr.heap.size := by omega
             have hne0 : w.heap.size ≠ wr.heap.size := by omega
             have bUX := Lib.hid (show Blk ((w2.setCell ⟨wr.heap.size, 0, none⟩ (.int .i64 (x : Int))).setCell ⟨wr.heap.size, 1, none⟩ (.int .i64 (y : Int))) (w.heap.size + 1) 87 #[.int .i64 (u : Int), .int .i64 (v : Int)] from (bU2.out.far hne1 _).far hne1 _)
             have bRX := Lib.hid (show Blk ((w2.setCell ⟨wr.heap.size, 0, none⟩ (.int .i64 (x : Int))).setCell ⟨wr.heap.size, 1, none⟩ (.int .i64 (y : Int))) w.heap.size 87 #[.int .i64 0, .int .i64 0] from (bR2.out.far hne0 _).far hne0 _)
             have HBX := Lib.hid (show Below w.heap.size w ((w2.setCell ⟨wr.heap.size, 0, none⟩ (.int .i64 (x : Int))).setCell ⟨wr.heap.size, 1, none⟩ (.int .i64 (y : Int))) from bl_set (bl_set HB2.out (by dsimp only; omega) _) (by dsimp only; omega) _)
             clear cC fC bC
             generalize ((w2.setCell ⟨wr.heap.size, 0, none⟩ (.int .i64 (x : Int))).setCell ⟨wr.heap.size, 1, none⟩ (.int .i64 (y : Int))) = X at *)
          | (have bSX := Lib.hid (show Blk (w2.alloc (.cells #[.int .i64 (x : Int), .int .i64 (y : Int)] 87)) w2.heap.size 87 #[.int .i64 (x : Int), .int .i64 (y : Int)] from Blk.new w2 87 _)
             have bUX := Lib.hid (show Blk (w2.alloc (.cells #[.int .i64 (x : Int), .int .i64 (y : Int)] 87)) (w.heap.size + 1) 87 #[.int .i64 (u : Int), .int .i64 (v : Int)] from bU2.out.alloc _)
             have bRX := Lib.hid (show Blk (w2.alloc (.cells #[.int .i64 (x : Int), .int .i64 (y : Int)] 87)) w.heap.size 87 #[.int .i64 0, .int .i64 0] from bR2.out.alloc _)
             have HBX := Lib.hid (show Below w.heap.size w (w2.alloc (.cells #[.int .i64 (x : Int), .int .i64 (y : Int)] 87)) from bl_alloc HB2.out _)
             generalize (w2.alloc (.cells #[.int .i64 (x : Int), .int .i64 (y : Int)] 87)) = X at *)
        all_goals clear c0 c1 c2 c3 c4 d0 d3 HB2 bU2 bR2
        all_goals have cUX := bUX.out.cell
        all_goals have cSX := bSX.out.cell
        all_goals go_wp2_with fail
        all_goals (try (go_quiet (fail); go_wp2_with fail))
        all_goals refine (l2_is _ u v x y u' v' true HSh.out.1 HSh.out.2 HG.out.2.2.1 HG.out.2.2.2).mono ?_
        all_goals rintro e w3 ⟨rfl, hb⟩
        all_goals have HB3 := Lib.hid (show Below w.heap.size w w3 from bl_trans (by repeat (first | with_reducible exact HBX.out | with_reducible refine bl_drewN ?_ _ | with_reducible refine Below.drew ?_ | with_reducible refine bl_alloc ?_ _)) hb)
        all_goals have bU3 := Lib.hid (show Blk w3 (w.heap.size + 1) 87 #[.int .i64 (u : Int), .int .i64 (v : Int)] from Blk.below (by repeat (first | with_reducible exact bUX.out | with_reducible refine Blk.drewN ?_ _ | with_reducible refine Blk.drew ?_ | with_reducible refine Blk.alloc ?_ _)) hb (by have := bUX.out.lt; first | exact this | (simp; omega)))
        all_goals have bR3 := Lib.hid (show Blk w3 w.heap.size 87 #[.int .i64 0, .int .i64 0] from Blk.below (by repeat (first | with_reducible exact bRX.out | with_reducible refine Blk.drewN ?_ _ | with_reducible refine Blk.drew ?_ | with_reducible refine Blk.alloc ?_ _)) hb (by have := bRX.out.lt; first | exact this | (simp; omega)))
        all_goals clear hb cUX cSX
        all_goals have cU3 := bU3.out.cell
        all_goals have fU3 := bU3.out.frozen
        all_goals go_wp2
        all_goals (go_roundw; (case rel => exact ⟨k + 1, u', v', by omega, by go_num, HT, (bU3.out.set_ 0 (.int .i64 (u' : Int))).set_ 1 (.int .i64 (v' : Int)), (bR3.out.far (by dsimp only; omega) _).far (by dsimp only; omega) _, bl_set (bl_set HB3.out (by dsimp only; omega) _) (by dsimp only; omega) _⟩); (case measure => (simp [intOf]; omega)))
      · have hno := (lowL_no ht hc).trans huv.out
        have HT := Lib.hid hno
        clear ht hno
        obtain ⟨lo, hi, du, ev, cr'⟩ := t
        dsimp only at c0 c1 c2 c3 c4 hc
        have hcb : (cr' == cr) = false := by simpa using hc
        go_wp2
        go_roundw
        case rel => exact ⟨k + 1, u, v, by omega, by go_num, HT, bU, bR, HB⟩
        case measure => simp [intOf]; omega
    · obtain rfl : k = n := by omega
      have hpq : (u, v) = (p, q) := by rw [← huv.out, ← HPQ.out, List.take_of_length_le (by rw [HL.out]; omega)]
      obtain ⟨rfl, rfl⟩ := Prod.mk.inj hpq
      clear hpq
      have cU := bU.out.cell
      have cR := bR.out.cell
      have fR := bR.out.frozen
      have cF := fun (s t : Value) => ((bR.out.set_ 0 s).set_ 1 t).cell
      go_wp2
      refine bodyPost_ret (v := .agg #[.int .i64 (u : Int), .int .i64 (v : Int)]) (by simp [results, Tryz.results118, go_sem, cF]) rfl ⟨rfl, (by repeat (first | with_reducible exact HB.out | refine bl_drewN ?_ _ | refine Below.drew ?_ | refine bl_alloc ?_ _ | refine bl_set ?_ (by dsimp only; omega) _))⟩
end
section
open Go.RowKit
set_option linter.unusedVariables false
set_option maxHeartbeats 1000000 in
theorem sHigh_is (w : World) (A : Option Addr) (n c : Nat) (ts : List Tk) (h : Tks w w.heap.size A n ts) (hn : n ≤ 1048576) (p q : Nat) (hpq : highOf ts = (p, q)) :
    Calls Tryz.prog 122 #[.slice A n c] w (ShRes p q w) := by
  have H := Lib.hid h
  have HL := Lib.hid h.len
  clear h
  cases hs : setB ts
  · obtain ⟨rfl, rfl⟩ := Prod.mk.inj ((highOf_bad hs).symm.trans hpq)
    clear hpq
    go_enter Tryz.func122, Tryz.ntmps122
    go_wp2_with fail
    refine (sSetValid_any _ A n c ts ((H.out.below (by repeat (first | exact Below.refl w.heap.size w | refine bl_alloc ?_ _))).more (by simp)) hn).mono ?_
    rintro e w1 ⟨rfl, hb⟩
    have HB1 := Lib.hid (show Below w.heap.size w w1 from bl_trans (by repeat (first | exact Below.refl w.heap.size w | refine bl_alloc ?_ _)) hb)
    have bR1 := Lib.hid (Blk.below (Blk.new w 87 #[.int .i64 0, .int .i64 0]) hb (by simp))
    have cR := bR1.out.cell
    have fR := bR1.out.frozen
    clear hb
    go_wp2
    refine bodyPost_ret (v := .agg #[.int .i64 0, .int .i64 0]) (by simp [results, Tryz.results122, go_sem, cR]) rfl ⟨rfl, (by repeat (first | with_reducible exact HB1.out | refine bl_drewN ?_ _ | refine Below.drew ?_ | refine bl_alloc ?_ _ | refine bl_set ?_ (by dsimp only; omega) _))⟩
  have h5 : n ≤ 5 := by have := setB_len hs; rw [HL.out] at this; exact this
  have HS := Lib.hid hs
  obtain ⟨us, hus⟩ : ∃ us, us = critOf ts := ⟨_, rfl⟩
  have hpq' : lowOf us true = (p, q) := by rw [← hpq]; exact highOf_low hs hus
  have hul : us.length ≤ 5 := by have := critOf_len ts; rw [← hus, HL.out] at this; omega
  have HPQ := Lib.hid hpq'
  have HU := Lib.hid hus
  clear hpq hpq' hs hus
  go_enter Tryz.func122, Tryz.ntmps122
  go_wp2_with fail
  refine (sSetValid_any _ A n c ts ((H.out.below (by repeat (first | exact Below.refl w.heap.size w | refine bl_alloc ?_ _))).more (by simp)) hn).mono ?_
  rintro e w1 ⟨rfl, hb⟩
  rw [HS.out]
  have HB1 := Lib.hid (show Below w.heap.size w w1 from bl_trans (by repeat (first | exact Below.refl w.heap.size w | refine bl_alloc ?_ _)) hb)
  have bR1 := Lib.hid (show Blk w1 w.heap.size 87 #[.int .i64 0, .int .i64 0] from Blk.below (Blk.new w 87 #[.int .i64 0, .int .i64 0]) hb (by simp))
  clear hb
  go_wp2_with fail
  refine (sCriticalOf_is w1 A n c ts us HU.out ((H.out.below HB1.out).more HB1.out.size) hn).mono ?_
  rintro e w2 ⟨A2, c2, rfl, ho, hb⟩
  have HB2 := Lib.hid (bl_trans HB1.out hb)
  have HO := Lib.hid ho.reads.2
  have bR2 := Lib.hid (bR1.out.below hb bR1.out.lt)
  clear hb ho
  go_wp2_with fail
  refine (sLow_is w2 A2 _ c2 us true HO.out (by omega) p q HPQ.out).mono ?_
  rintro e w3 ⟨rfl, hb⟩
  have HB3 := Lib.hid (bl_trans HB2.out hb)
  have bR3 := Lib.hid (bR2.out.below hb bR2.out.lt)
  have cR := bR3.out.cell
  have fR := bR3.out.frozen
  have cF := fun (s t : Value) => ((bR3.out.set_ 0 s).set_ 1 t).cell
  clear hb
  go_wp2
  refine bodyPost_ret (v := .agg #[.int .i64 (p : Int), .int .i64 (q : Int)]) (by simp [results, Tryz.results122, go_sem, cF]) rfl ⟨rfl, (by repeat (first | with_reducible exact HB3.out | refine bl_drewN ?_ _ | refine Below.drew ?_ | refine bl_alloc ?_ _ | refine bl_set ?_ (by dsimp only; omega) _))⟩
end
section
open Go.RowKit
theorem Blk.two {w : World} {a : Nat} {t : TypeId} {x y : Value} (h : Blk w a t #[x, y]) : w.cell? ⟨a, 0, none⟩ = some x ∧ w.cell? ⟨a, 1, none⟩ = some y := ⟨h.cell 0, h.cell 1⟩
theorem two_alloc1 {w : World} {a : Nat} {x y : Value} (h : w.cell? ⟨a, 0, none⟩ = some x ∧ w.cell? ⟨a, 1, none⟩ = some y) (o : Obj) : (w.alloc o).cell? ⟨a, 0, none⟩ = some x ∧ (w.alloc o).cell? ⟨a, 1, none⟩ = some y :=
  ⟨(World.cell?_alloc_lt w o _ (World.block_lt_of_cell? w _ h.1)).trans h.1, (World.cell?_alloc_lt w o _ (World.block_lt_of_cell? w _ h.2)).trans h.2⟩
end
section
open Go.RowKit
set_option linter.unusedVariables false
theorem imp_bad {ts : List Tk} (h : setB ts = false) : impB ts = false := by unfold impB; rw [h]; rfl
theorem imp_not {ts : List Tk} {k : Nat} {t : Tk} (ht : ts[k]? = some t) (h : t.du ≠ t.ev) : impB ts = false := by
  cases hi : impB ts
  · rfl
  · exact absurd (imp_all hi t (List.mem_of_getElem? ht)) h
theorem imp_step {ts : List Tk} {k : Nat} {t : Tk} (ht : ts[k]? = some t) (he : t.du = t.ev) (h : ∀ u ∈ ts.take k, u.du = u.ev) : ∀ u ∈ ts.take (k + 1), u.du = u.ev := by
  obtain ⟨hk, rfl⟩ := List.getElem?_eq_some_iff.1 ht
  rw [List.take_succ_eq_append_getElem hk]
  intro u hu
  rcases List.mem_append.1 hu with hu | hu
  · exact h u hu
  · rw [List.mem_singleton.1 hu]; exact he
set_option maxHeartbeats 1000000 in
theorem sImp_is (w : World) (A : Option Addr) (n c : Nat) (ts : List Tk) (h : Tks w w.heap.size A n ts) (hn : n ≤ 1048576) (b : Bool) (hb : impB ts = b) :
    Calls Tryz.prog 141 #[.slice A n c] w (BoolRes b w) := by
  have H := Lib.hid h
  have HL := Lib.hid h.len
  clear h
  cases hs : setB ts
  · obtain rfl : b = false := by rw [← hb]; exact imp_bad hs
    have hn0 : 0 < n := by
      rw [← HL.out]
      rcases ts with _ | ⟨t, ts⟩
      · simp [setB] at hs
      · simp
    have HS := Lib.hid hs
    clear hb hs
    go_enter Tryz.func141, Tryz.ntmps141
    go_wp2
    go_loopw [3] (fun i wr => i = .int .i64 0 ∧ Hid (Below w.heap.size w wr)) (fun i _ => 0)
    case atStart => exact ⟨rfl, Lib.hid (Below.refl _ _)⟩
    case round =>
      obtain ⟨rfl, HB⟩ := hrel
      have i2 : (0 : Int) < (n : Int) := by omega
      go_wp2_with fail
      refine (sSetValid_any _ A n c ts ((H.out.below HB.out).more HB.out.size) hn).mono ?_
      rintro e w1 ⟨rfl, hb1⟩
      rw [HS.out]
      have HB1 := Lib.hid (bl_trans HB.out hb1)
      clear hb1
      go_wp2_with fail
      refine (sSetValid_any _ A n c ts ((H.out.below HB1.out).more HB1.out.size) hn).mono ?_
      rintro e w2 ⟨rfl, hb2⟩
      rw [HS.out]
      have HB2 := Lib.hid (bl_trans HB1.out hb2)
      clear hb2
      go_wp2
      refine bodyPost_ret (v := .bool false) (by simp [results, Tryz.results141, go_sem]) rfl ⟨rfl, HB2.out⟩
  have HS := Lib.hid hs
  have HI := Lib.hid hb
  clear hb hs
  go_enter Tryz.func141, Tryz.ntmps141
  go_wp2
  go_loopw [3] (fun i wr => ∃ k : Nat, k ≤ n ∧ i = .int .i64 k ∧ Hid (∀ u ∈ ts.take k, u.du = u.ev) ∧ Hid (Below w.heap.size w wr)) (fun i _ => n - (intOf i).toNat)
  case atStart => exact ⟨0, Nat.zero_le _, rfl, Lib.hid (by intro u hu; simp at hu), Lib.hid (Below.refl _ _)⟩
  case round =>
    obtain ⟨k, hk, rfl, hall, HB⟩ := hrel
    by_cases hlt : k < n
    · obtain ⟨t, ht⟩ : ∃ t, ts[k]? = some t := ⟨ts[k]'(by rw [HL.out]; exact hlt), List.getElem?_eq_getElem _⟩
      have i1 : (0 : Int) ≤ (k : Int) := by omega
      have i2 : (k : Int) < (n : Int) := by omega
      go_wp2_with fail
      refine (sSetValid_any _ A n c ts ((H.out.below HB.out).more HB.out.size) hn).mono ?_
      rintro e w1 ⟨rfl, hb1⟩
      rw [HS.out]
      have HB1 := Lib.hid (bl_trans HB.out hb1)
      clear hb1 HB
      obtain ⟨b0, o, rfl, hbl, c0, c1, c2, c3, c4⟩ := (H.out.below HB1.out).at_ k t ht
      have hno := fun hne => imp_not ht (t := t) hne
      have hyes := fun he => imp_step ht (t := t) he hall.out
      clear ht hall
      obtain ⟨lo, hi, du, ev, cr⟩ := t
      dsimp only at c0 c1 c2 c3 c4 hno hyes
      by_cases he : du = ev
      · subst he
        have hY := Lib.hid (hyes rfl)
        clear hyes hno
        have hd : (du != du) = false := by simp
        go_wp2_with fail
        go_quiet (fail)
        go_wp2
        go_roundw
        case rel => exact ⟨k + 1, by omega, by go_num, hY, Lib.hid (bl_drewN HB1.out _)⟩
        case measure => simp [intOf]; omega
      · have hN := Lib.hid (hno he)
        clear hyes hno
        have hd : (du != ev) = true := by simp; exact he
        obtain rfl : b = false := by rw [← HI.out]; exact hN.out
        go_wp2_with fail
        go_quiet (fail)
        go_wp2
        refine bodyPost_ret (v := .bool false) (by simp [results, Tryz.results141, go_sem]) rfl ⟨rfl, bl_drewN HB1.out _⟩
    · obtain rfl : k = n := by omega
      have i2 : ¬ (k : Int) < (k : Int) := by omega
      have hT : impB ts = true := imp_of HS.out (by have := hall.out; rw [List.take_of_length_le (by rw [HL.out]; omega)] at this; exact this)
      obtain rfl : b = true := by rw [← HI.out]; exact hT
      clear hT
      go_wp2_with fail
      refine (sSetValid_any _ A k c ts ((H.out.below HB.out).more HB.out.size) hn).mono ?_
      rintro e w2 ⟨rfl, hb2⟩
      rw [HS.out]
      have HB2 := Lib.hid (bl_trans HB.out hb2)
      clear hb2
      go_wp2
      refine bodyPost_ret (v := .bool true) (by simp [results, Tryz.results141, go_sem]) rfl ⟨rfl, HB2.out⟩
end
section
open Go.RowKit
set_option linter.unusedVariables false
set_option maxHeartbeats 400000 in
theorem sOne_is (w : World) : Calls Tryz.prog 97 #[] w (ShRes 1 1 w) := by
  go_enter Tryz.func97, Tryz.ntmps97
  go_wp2
  refine bodyPost_ret (v := .agg #[.int .i64 1, .int .i64 1]) (by simp [results, Tryz.results97, go_sem]) rfl ⟨rfl, (by repeat (first | exact Below.refl _ _ | refine bl_drewN ?_ _ | refine Below.drew ?_ | refine bl_alloc ?_ _ | refine bl_set ?_ (by dsimp only; omega) _))⟩
set_option maxHeartbeats 1000000 in
theorem sPlain_is (w0 : World) (A : Option Addr) (n c : Nat) (ts : List Tk) (h : Tks w0 w0.heap.size A n ts) (hn : n ≤ 1048576) (b : Bool) (hb : plainV ts = b) :
    Calls Tryz.prog 117 #[.slice A n c] w0 (BoolRes b w0) := by
  have HTt := Lib.hid h
  have HL := Lib.hid h.len
  have HB0 := Lib.hid (Below.refl w0.heap.size w0)
  have HDt0 := Lib.hid (Below.refl w0.heap.size w0)
  clear h
  cases hi : impB ts
  · obtain rfl : b = false := by rw [← hb]; unfold plainV; rw [hi]; rfl
    clear hb
    go_enter Tryz.func117, Tryz.ntmps117
    go_wp2_with fail
    (try (go_quiet (fail); go_wp2_with fail))
    refine (sImp_is _ A n c ts ((HTt.out.below (by repeat (first | with_reducible exact HDt0.out | with_reducible refine Below.drew ?_ | with_reducible refine bl_drewN ?_ _ | with_reducible refine bl_alloc ?_ _) : Below w0.heap.size w0 _)).more (Below.size (by repeat (first | with_reducible exact HDt0.out | with_reducible refine Below.drew ?_ | with_reducible refine bl_drewN ?_ _ | with_reducible refine bl_alloc ?_ _) : Below w0.heap.size w0 _))) hn false hi).mono ?_
    rintro e w1 ⟨rfl, hb⟩
    have hs1 := hb.size
    have HB1 := Lib.hid (show Below w0.heap.size w0 w1 from bl_trans (by repeat (first | with_reducible exact HB0.out | with_reducible refine bl_drewN ?_ _ | with_reducible refine Below.drew ?_ | with_reducible refine bl_alloc ?_ _)) hb)
    have HDt1 := Lib.hid (show Below w0.heap.size w0 w1 from bl_trans (by repeat (first | with_reducible exact HDt0.out | with_reducible refine Below.drew ?_ | with_reducible refine bl_drewN ?_ _ | with_reducible refine bl_alloc ?_ _)) hb)
    clear hb HB0 HDt0
    go_wp2
    (try (go_quiet (fail); go_wp2))
    refine bodyPost_ret (v := .bool false) (by simp [results, Tryz.results117, go_sem]) rfl ⟨rfl, (by repeat (first | with_reducible exact HB1.out | refine bl_drewN ?_ _ | refine Below.drew ?_ | refine bl_alloc ?_ _ | refine bl_set ?_ (by dsimp only; omega) _))⟩
  have hs := imp_set hi
  obtain ⟨p, q, hpq⟩ : ∃ p q, lowOf ts false = (p, q) := ⟨_, _, rfl⟩
  obtain ⟨u, v, huv⟩ : ∃ p q, highOf ts = (p, q) := ⟨_, _, rfl⟩
  obtain ⟨x, y, z, s1, s2, s3, _, e1, e2, e3, e4⟩ := plain_pack hs hpq huv
  have hz : decide (z ≤ 0) = b := by rw [← hb, ← e4]; unfold plainV; rw [hi]; rfl
  have HI := Lib.hid hi
  have HP := Lib.hid hpq
  have HU := Lib.hid huv
  have HA := Lib.hid (And.intro s1 (And.intro s2 (And.intro e1 e2)))
  have HZ := Lib.hid e3
  clear hb hi hs hpq huv s1 s2 s3 e1 e2 e3 e4
  go_enter Tryz.func117, Tryz.ntmps117
  go_wp2_with fail
  (try (go_quiet (fail); go_wp2_with fail))
  refine (sImp_is _ A n c ts ((HTt.out.below (by repeat (first | with_reducible exact HDt0.out | with_reducible refine Below.drew ?_ | with_reducible refine bl_drewN ?_ _ | with_reducible refine bl_alloc ?_ _) : Below w0.heap.size w0 _)).more (Below.size (by repeat (first | with_reducible exact HDt0.out | with_reducible refine Below.drew ?_ | with_reducible refine bl_drewN ?_ _ | with_reducible refine bl_alloc ?_ _) : Below w0.heap.size w0 _))) hn true HI.out).mono ?_
  rintro e w1 ⟨rfl, hb⟩
  have hs1 := hb.size
  have HB1 := Lib.hid (show Below w0.heap.size w0 w1 from bl_trans (by repeat (first | with_reducible exact HB0.out | with_reducible refine bl_drewN ?_ _ | with_reducible refine Below.drew ?_ | with_reducible refine bl_alloc ?_ _)) hb)
  have HDt1 := Lib.hid (show Below w0.heap.size w0 w1 from bl_trans (by repeat (first | with_reducible exact HDt0.out | with_reducible refine Below.drew ?_ | with_reducible refine bl_drewN ?_ _ | with_reducible refine bl_alloc ?_ _)) hb)
  clear hb HB0 HDt0
  go_wp2_with fail
  (try (go_quiet (fail); go_wp2_with fail))
  refine (sLow_is _ A n c ts false ((HTt.out.below (by repeat (first | with_reducible exact HDt1.out | with_reducible refine Below.drew ?_ | with_reducible refine bl_drewN ?_ _ | with_reducible refine bl_alloc ?_ _) : Below w0.heap.size w0 _)).more (Below.size (by repeat (first | with_reducible exact HDt1.out | with_reducible refine Below.drew ?_ | with_reducible refine bl_drewN ?_ _ | with_reducible refine bl_alloc ?_ _) : Below w0.heap.size w0 _))) (by omega) p q HP.out).mono ?_
  rintro e w2 ⟨rfl, hb⟩
  have hs2 := hb.size
  have HB2 := Lib.hid (show Below w0.heap.size w0 w2 from bl_trans (by repeat (first | with_reducible exact HB1.out | with_reducible refine bl_drewN ?_ _ | with_reducible refine Below.drew ?_ | with_reducible refine bl_alloc ?_ _)) hb)
  have HDt2 := Lib.hid (show Below w0.heap.size w0 w2 from bl_trans (by repeat (first | with_reducible exact HDt1.out | with_reducible refine Below.drew ?_ | with_reducible refine bl_drewN ?_ _ | with_reducible refine bl_alloc ?_ _)) hb)
  clear hb HB1 HDt1
  go_wp2_with fail
  (try (go_quiet (fail); go_wp2_with fail))
  refine (sHigh_is _ A n c ts ((HTt.out.below (by repeat (first | with_reducible exact HDt2.out | with_reducible refine Below.drew ?_ | with_reducible refine bl_drewN ?_ _ | with_reducible refine bl_alloc ?_ _) : Below w0.heap.size w0 _)).more (Below.size (by repeat (first | with_reducible exact HDt2.out | with_reducible refine Below.drew ?_ | with_reducible refine bl_drewN ?_ _ | with_reducible refine bl_alloc ?_ _) : Below w0.heap.size w0 _))) (by omega) u v HU.out).mono ?_
  rintro e w3 ⟨rfl, hb⟩
  have hs3 := hb.size
  have HB3 := Lib.hid (show Below w0.heap.size w0 w3 from bl_trans (by repeat (first | with_reducible exact HB2.out | with_reducible refine bl_drewN ?_ _ | with_reducible refine Below.drew ?_ | with_reducible refine bl_alloc ?_ _)) hb)
  have HDt3 := Lib.hid (show Below w0.heap.size w0 w3 from bl_trans (by repeat (first | with_reducible exact HDt2.out | with_reducible refine Below.drew ?_ | with_reducible refine bl_drewN ?_ _ | with_reducible refine bl_alloc ?_ _)) hb)
  clear hb HB2 HDt2
  go_wp2_with fail
  (try (go_quiet (fail); go_wp2_with fail))
  refine (l2_is _ p q u v x y true HA.out.1 HA.out.2.1 HA.out.2.2.1 HA.out.2.2.2).mono ?_
  rintro e w4 ⟨rfl, hb⟩
  have hs4 := hb.size
  have HB4 := Lib.hid (show Below w0.heap.size w0 w4 from bl_trans (by repeat (first | with_reducible exact HB3.out | with_reducible refine bl_drewN ?_ _ | with_reducible refine Below.drew ?_ | with_reducible refine bl_alloc ?_ _)) hb)
  have HDt4 := Lib.hid (show Below w0.heap.size w0 w4 from bl_trans (by repeat (first | with_reducible exact HDt3.out | with_reducible refine Below.drew ?_ | with_reducible refine bl_drewN ?_ _ | with_reducible refine bl_alloc ?_ _)) hb)
  clear hb HB3 HDt3
  have hS4 := (Blk.two (show Blk (w4.alloc (.cells #[.int .i64 (x : Int), .int .i64 (y : Int)] 87)) (w4.heap.size) 87 #[.int .i64 (x : Int), .int .i64 (y : Int)] from by have hh := Blk.new w4 87 #[.int .i64 (x : Int), .int .i64 (y : Int)]; (try simp only [World.size_alloc] at hh); repeat (first | exact hh | with_reducible refine Blk.alloc ?_ _)))
  go_wp2_with fail
  go_region_held3 (fun W => (W.cell? ⟨w4.heap.size, 0, none⟩ = some (.int .i64 (x : Int)) ∧ W.cell? ⟨w4.heap.size, 1, none⟩ = some (.int .i64 (y : Int)))) (first | exact hS4 | exact hS5 | exact hS6)
    ((first
      | (go_at_call 97; refine (sOne_is _).mono ?_; rintro e w5 ⟨rfl, hb⟩; have hs5 := hb.size; have HB5 := Lib.hid (show Below w0.heap.size w0 w5 from bl_trans (by repeat (first | with_reducible exact HB4.out | with_reducible refine bl_drewN ?_ _ | with_reducible refine Below.drew ?_ | with_reducible refine bl_alloc ?_ _)) hb); have bs5 := Lib.hid (show Blk w5 (w4.heap.size) 87 #[.int .i64 (x : Int), .int .i64 (y : Int)] from Blk.below (by have hh := Blk.new w4 87 #[.int .i64 (x : Int), .int .i64 (y : Int)]; (try simp only [World.size_alloc] at hh); repeat (first | exact hh | with_reducible refine Blk.drewN ?_ _ | with_reducible refine Blk.drew ?_ | with_reducible refine Blk.alloc ?_ _)) hb (by first | omega | (simp; done) | (simp; omega))); have cs := bs5.out.cell; have HDt5 := Lib.hid (show Below w0.heap.size w0 w5 from bl_trans (by repeat (first | with_reducible exact HDt4.out | with_reducible refine Below.drew ?_ | with_reducible refine bl_drewN ?_ _ | with_reducible refine bl_alloc ?_ _)) hb); have hS5 := Blk.two bs5.out; clear hb)
      | (go_at_call 123; refine (sCmp_is _ x y 1 1 z HZ.out).mono ?_; rintro e w6 ⟨rfl, hb⟩; have hs6 := hb.size; have HB6 := Lib.hid (show Below w0.heap.size w0 w6 from bl_trans (by repeat (first | with_reducible exact HB5.out | with_reducible refine bl_drewN ?_ _ | with_reducible refine Below.drew ?_ | with_reducible refine bl_alloc ?_ _)) hb); have bs6 := Lib.hid (show Blk w6 (w4.heap.size) 87 #[.int .i64 (x : Int), .int .i64 (y : Int)] from Blk.below (by repeat (first | with_reducible exact bs5.out | with_reducible refine Blk.drewN ?_ _ | with_reducible refine Blk.drew ?_ | with_reducible refine Blk.alloc ?_ _)) hb (by have := bs5.out.lt; first | exact this | omega | (simp; omega))); have cs := bs6.out.cell; have HDt6 := Lib.hid (show Below w0.heap.size w0 w6 from bl_trans (by repeat (first | with_reducible exact HDt5.out | with_reducible refine Below.drew ?_ | with_reducible refine bl_drewN ?_ _ | with_reducible refine bl_alloc ?_ _)) hb); have hS6 := Blk.two bs6.out; clear hb)))
  have hks6 := bs6.out.lt
  have cs := bs6.out.cell
  go_wp2
  (try (go_quiet (fail); go_wp2))
  refine bodyPost_ret (v := .bool b) (by simp [results, Tryz.results117, go_sem]) rfl ⟨rfl, (by repeat (first | with_reducible exact HB6.out | refine bl_drewN ?_ _ | refine Below.drew ?_ | refine bl_alloc ?_ _ | refine bl_set ?_ (by dsimp only; omega) _))⟩
end
end Go.Proofs.YtgponahmkjohiabGreatDoor
