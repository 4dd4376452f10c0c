/- Texts of this seat in one file: Gcd, Share, ShareB, ShareC, Err, Mk, Add, L2, SAdd, ShareT. -/
import Derived.Test.YtobkbbgllapcoabDoorM1
import Derived.LoopTactic
import Derived.Deep.QuietTactic
import Derived.BigQuiet
import Derived.LaidEql
import Derived.Stop.Asserts
import Derived.RowKitTokens
import Derived.RegionTactic
import Derived.ChangeAlike
import Derived.Deep.RegionWith
namespace Go.Proofs.YtobkbbgllapcoabDoor

section
/- Contracts of the greatest common divisors, in the program (64 bits) and in the reference, for numbers of 62 bits. -/
open Go.RowKit

def GcdOf (a b : Nat) (w : World) (e : Ending) (w' : World) : Prop := e = .returned (.int .i64 (Nat.gcd a b)) ∧ Below w.heap.size w w'

set_option maxHeartbeats 1000000 in
theorem iGcd_big (w : World) (a b : Nat) (ha : a ≤ 4611686018427387904) (hb : b ≤ 4611686018427387904) :
    Calls Tryd.prog 43 #[.int .i64 a, .int .i64 b] w (GcdOf a b w) := by
  go_enter Tryd.func43, Tryd.ntmps43
  go_wp2
  go_loopw [0, 1] (fun u v wr => ∃ x y : Nat, x ≤ 4611686018427387904 ∧ y ≤ 4611686018427387904 ∧ u = .int .i64 x ∧ v = .int .i64 y ∧ Hid (Nat.gcd x y = Nat.gcd a b) ∧ Below w.heap.size w wr) (fun _ v _ => (intOf v).toNat)
  case atStart => exact ⟨a, b, ha, hb, rfl, rfl, by show _ = _; rfl, Below.refl _ _⟩
  case round =>
    obtain ⟨x, y, hx, hy, rfl, rfl, hg, hbl⟩ := hrel
    have HB := Lib.hid hbl
    clear hbl
    by_cases h0 : y = 0
    · subst h0
      go_wp2
      go_ret
      exact ⟨by have h := hg.out; rw [Nat.gcd_zero_right] at h; rw [← h]; rfl, HB.out⟩
    · have h0' : ((y : Int) != 0) = true := by simp; omega
      have h1 : 1 ≤ y := by omega
      have hm : x % y < y := Nat.mod_lt _ (by omega)
      have HG : Hid (Nat.gcd y (x % y) = Nat.gcd a b) := by show _ = _; rw [← hg.out, Nat.gcd_comm y, ← Nat.gcd_rec, Nat.gcd_comm]
      clear h0
      go_wp2
      go_quiet (fail)
      go_wp2
      go_roundw
      case rel => exact ⟨y, x % y, hy, by omega, rfl, by go_num, HG, bl_drewN HB.out _⟩
      case measure => simp [intOf]; omega

set_option maxHeartbeats 1000000 in
theorem sGcd_big (w : World) (a b : Nat) (ha : a ≤ 4611686018427387904) (hb : b ≤ 4611686018427387904) :
    Calls Tryd.prog 50 #[.int .i64 a, .int .i64 b] w fun e w' => e = .returned (.int .i64 (Nat.gcd a b)) ∧ w' = w := by
  go_enter Tryd.func50, Tryd.ntmps50
  go_wp2
  go_loop [0, 1] (fun u v => ∃ x y : Nat, x ≤ 4611686018427387904 ∧ y ≤ 4611686018427387904 ∧ u = .int .i64 x ∧ v = .int .i64 y ∧ Hid (Nat.gcd x y = Nat.gcd a b)) (fun _ v => (intOf v).toNat)
  case atStart => exact ⟨a, b, ha, hb, rfl, rfl, by show _ = _; rfl⟩
  case round =>
    obtain ⟨x, y, hx, hy, rfl, rfl, hg⟩ := hrel
    by_cases h0 : y = 0
    · subst h0
      go_wp2
      go_ret
      exact ⟨by have h := hg.out; rw [Nat.gcd_zero_right] at h; rw [← h]; rfl, rfl⟩
    · have h0' : ((y : Int) != 0) = true := by simp; omega
      have h1 : 1 ≤ y := by omega
      have hm : x % y < y := Nat.mod_lt _ (by omega)
      have HG : Hid (Nat.gcd y (x % y) = Nat.gcd a b) := by show _ = _; rw [← hg.out, Nat.gcd_comm y, ← Nat.gcd_rec, Nat.gcd_comm]
      clear h0
      go_wp2
      go_round
      case rel => exact ⟨y, x % y, hy, by omega, rfl, by go_num, HG⟩
      case measure => simp [intOf]; omega
end

section
/- Fractions of natural numbers in lowest terms: making, adding, comparing. No program in this text. -/
/-- A fraction in lowest terms. -/
def redN (n d : Nat) : Nat × Nat := (n / Nat.gcd n d, d / Nat.gcd n d)

theorem red_pos {n d : Nat} (h : 0 < d) : 0 < (redN n d).2 := by
  unfold redN
  exact Nat.div_pos (Nat.le_of_dvd h (Nat.gcd_dvd_right n d)) (Nat.gcd_pos_of_pos_right n h)
theorem red_cop {n d : Nat} (h : 0 < d) : Nat.Coprime (redN n d).1 (redN n d).2 := by
  unfold redN
  exact Nat.coprime_div_gcd_div_gcd (Nat.gcd_pos_of_pos_right n h)
/-- The same fraction. -/
theorem red_same (n d : Nat) : (redN n d).1 * d = n * (redN n d).2 := by
  unfold redN
  obtain ⟨a, ha⟩ := Nat.gcd_dvd_left n d
  obtain ⟨b, hb⟩ := Nat.gcd_dvd_right n d
  rcases Nat.eq_zero_or_pos (Nat.gcd n d) with h0 | hp
  · rw [h0]
    have : n = 0 := by rw [h0] at ha; simpa using ha
    simp [this]
  · have e1 : n / Nat.gcd n d = a := by rw [Nat.div_eq_of_eq_mul_right hp ha]
    have e2 : d / Nat.gcd n d = b := by rw [Nat.div_eq_of_eq_mul_right hp hb]
    show n / Nat.gcd n d * d = n * (d / Nat.gcd n d)
    rw [e1, e2]
    calc a * d = a * (Nat.gcd n d * b) := by rw [← hb]
      _ = (Nat.gcd n d * a) * b := by ac_rfl
      _ = n * b := by rw [← ha]
theorem frac_unique {n d n' d' : Nat} (hc : Nat.Coprime n d) (hc' : Nat.Coprime n' d') (hd : 0 < d) (hd' : 0 < d') (h : n * d' = n' * d) : n = n' ∧ d = d' := by
  have h1 : d ∣ d' := by
    have : d ∣ n * d' := by rw [h]; exact Nat.dvd_mul_left d n'
    exact hc.symm.dvd_of_dvd_mul_left this
  have h2 : d' ∣ d := by
    have : d' ∣ n' * d := by rw [← h]; exact Nat.dvd_mul_left d' n
    exact hc'.symm.dvd_of_dvd_mul_left this
  have e := Nat.dvd_antisymm h1 h2
  subst e
  exact ⟨Nat.eq_of_mul_eq_mul_right hd h, rfl⟩
theorem red_of_cop {n d : Nat} (hc : Nat.Coprime n d) : redN n d = (n, d) := by
  unfold redN
  have : Nat.gcd n d = 1 := hc
  rw [this, Nat.div_one, Nat.div_one]
/-- Equal fractions have one form. -/
theorem red_eq {n d n' d' : Nat} (hd : 0 < d) (hd' : 0 < d') (h : n * d' = n' * d) : redN n d = redN n' d' := by
  have e1 := red_same n d
  have e2 := red_same n' d'
  have p1 := red_pos (n := n) hd
  have p2 := red_pos (n := n') hd'
  have key : (redN n d).1 * (redN n' d').2 = (redN n' d').1 * (redN n d).2 := by
    have : ((redN n d).1 * (redN n' d').2) * (d * d') = ((redN n' d').1 * (redN n d).2) * (d * d') := by
      calc ((redN n d).1 * (redN n' d').2) * (d * d') = ((redN n d).1 * d) * ((redN n' d').2 * d') := by ac_rfl
        _ = (n * (redN n d).2) * ((redN n' d').2 * d') := by rw [e1]
        _ = (n * d') * ((redN n d).2 * (redN n' d').2) := by ac_rfl
        _ = (n' * d) * ((redN n d).2 * (redN n' d').2) := by rw [h]
        _ = (n' * (redN n' d').2) * ((redN n d).2 * d) := by ac_rfl
        _ = ((redN n' d').1 * d') * ((redN n d).2 * d) := by rw [e2]
        _ = ((redN n' d').1 * (redN n d).2) * (d * d') := by ac_rfl
    exact Nat.eq_of_mul_eq_mul_right (Nat.mul_pos hd hd') this
  obtain ⟨a, b⟩ := frac_unique (red_cop hd) (red_cop hd') p1 p2 key
  exact Prod.ext a b

/-- The sum of two fractions. -/
def addN (a b : Nat × Nat) : Nat × Nat := redN (a.1 * b.2 + b.1 * a.2) (a.2 * b.2)
theorem add_comm (a b : Nat × Nat) : addN a b = addN b a := by
  unfold addN
  rw [Nat.add_comm, Nat.mul_comm a.2 b.2]
/-- A sum does not turn with the form of what is added. -/
theorem add_rep {a b : Nat × Nat} {n d : Nat} (ha : 0 < a.2) (hb : 0 < b.2) (hd : 0 < d) (h : a.1 * d = n * a.2) : addN a b = redN (n * b.2 + b.1 * d) (d * b.2) := by
  refine red_eq (Nat.mul_pos ha hb) (Nat.mul_pos hd hb) ?_
  calc (a.1 * b.2 + b.1 * a.2) * (d * b.2) = (a.1 * d) * (b.2 * b.2) + b.1 * a.2 * (d * b.2) := by rw [Nat.add_mul]; ac_rfl
    _ = (n * a.2) * (b.2 * b.2) + b.1 * a.2 * (d * b.2) := by rw [h]
    _ = (n * b.2 + b.1 * d) * (a.2 * b.2) := by rw [Nat.add_mul]; ac_rfl
theorem add_assoc {a b c : Nat × Nat} (ha : 0 < a.2) (hb : 0 < b.2) (hc : 0 < c.2) : addN (addN a b) c = addN a (addN b c) := by
  have e1 : addN (addN a b) c = redN ((a.1 * b.2 + b.1 * a.2) * c.2 + c.1 * (a.2 * b.2)) (a.2 * b.2 * c.2) :=
    add_rep (red_pos (Nat.mul_pos ha hb)) hc (Nat.mul_pos ha hb) (red_same _ _)
  have e2 : addN (addN b c) a = redN ((b.1 * c.2 + c.1 * b.2) * a.2 + a.1 * (b.2 * c.2)) (b.2 * c.2 * a.2) :=
    add_rep (red_pos (Nat.mul_pos hb hc)) ha (Nat.mul_pos hb hc) (red_same _ _)
  rw [e1, add_comm a, e2]
  have h1 : (a.1 * b.2 + b.1 * a.2) * c.2 + c.1 * (a.2 * b.2) = (b.1 * c.2 + c.1 * b.2) * a.2 + a.1 * (b.2 * c.2) := by
    rw [Nat.add_mul, Nat.add_mul]; ac_rfl
  have h2 : a.2 * b.2 * c.2 = b.2 * c.2 * a.2 := by ac_rfl
  rw [h1, h2]
theorem add_zero {a : Nat × Nat} (hc : Nat.Coprime a.1 a.2) : addN a (0, 1) = a := by
  unfold addN
  simp
  exact red_of_cop hc
theorem add_pos {a b : Nat × Nat} (ha : 0 < a.2) (hb : 0 < b.2) : 0 < (addN a b).2 := red_pos (Nat.mul_pos ha hb)
theorem add_cop {a b : Nat × Nat} (ha : 0 < a.2) (hb : 0 < b.2) : Nat.Coprime (addN a b).1 (addN a b).2 := red_cop (Nat.mul_pos ha hb)

/-- The reference's road: over the least common denominator. -/
theorem add_ref {a b : Nat × Nat} (ha : 0 < a.2) (hb : 0 < b.2) :
    redN (a.1 * (b.2 / Nat.gcd a.2 b.2) + b.1 * (a.2 / Nat.gcd a.2 b.2)) (a.2 / Nat.gcd a.2 b.2 * b.2) = addN a b := by
  have hg : 0 < Nat.gcd a.2 b.2 := Nat.gcd_pos_of_pos_left _ ha
  obtain ⟨x, hx⟩ := Nat.gcd_dvd_left a.2 b.2
  obtain ⟨y, hy⟩ := Nat.gcd_dvd_right a.2 b.2
  have e1 : a.2 / Nat.gcd a.2 b.2 = x := Nat.div_eq_of_eq_mul_right hg hx
  have e2 : b.2 / Nat.gcd a.2 b.2 = y := Nat.div_eq_of_eq_mul_right hg hy
  rw [e1, e2]
  generalize Nat.gcd a.2 b.2 = g at hx hy hg
  have hxp : 0 < x := Nat.pos_of_ne_zero (fun h => by rw [h] at hx; simp at hx; omega)
  refine red_eq (Nat.mul_pos hxp hb) (Nat.mul_pos ha hb) ?_
  calc (a.1 * y + b.1 * x) * (a.2 * b.2) = a.1 * y * (a.2 * b.2) + b.1 * x * (a.2 * b.2) := Nat.add_mul _ _ _
    _ = a.1 * y * ((g * x) * b.2) + b.1 * x * (a.2 * b.2) := by rw [← hx]
    _ = a.1 * (g * y) * (x * b.2) + b.1 * a.2 * (x * b.2) := by congr 1 <;> ac_rfl
    _ = a.1 * b.2 * (x * b.2) + b.1 * a.2 * (x * b.2) := by rw [← hy]
    _ = (a.1 * b.2 + b.1 * a.2) * (x * b.2) := (Nat.add_mul _ _ _).symm

/-- Comparing. -/
def leN (a b : Nat × Nat) : Prop := a.1 * b.2 ≤ b.1 * a.2
theorem le_add {a b : Nat × Nat} (ha : 0 < a.2) (hb : 0 < b.2) : leN a (addN a b) := by
  have e := red_same (a.1 * b.2 + b.1 * a.2) (a.2 * b.2)
  have hp := add_pos ha hb
  show a.1 * (addN a b).2 ≤ (addN a b).1 * a.2
  have e' : (addN a b).1 * (a.2 * b.2) = (a.1 * b.2 + b.1 * a.2) * (addN a b).2 := e
  refine Nat.le_of_mul_le_mul_right ?_ hb
  calc a.1 * (addN a b).2 * b.2 = a.1 * b.2 * (addN a b).2 := by ac_rfl
    _ ≤ (a.1 * b.2 + b.1 * a.2) * (addN a b).2 := Nat.mul_le_mul_right _ (Nat.le_add_right _ _)
    _ = (addN a b).1 * (a.2 * b.2) := e'.symm
    _ = (addN a b).1 * a.2 * b.2 := by ac_rfl
/-- Adding the same keeps the order. -/
theorem add_le_iff {a b c : Nat × Nat} (ha : 0 < a.2) (hb : 0 < b.2) (hc : 0 < c.2) : leN (addN a c) (addN b c) ↔ leN a b := by
  have e1 : (addN a c).1 * (a.2 * c.2) = (a.1 * c.2 + c.1 * a.2) * (addN a c).2 := red_same _ _
  have e2 : (addN b c).1 * (b.2 * c.2) = (b.1 * c.2 + c.1 * b.2) * (addN b c).2 := red_same _ _
  have p1 := add_pos ha hc
  have p2 := add_pos hb hc
  unfold leN
  have hm : 0 < (a.2 * c.2) * (b.2 * c.2) := Nat.mul_pos (Nat.mul_pos ha hc) (Nat.mul_pos hb hc)
  have L : (addN a c).1 * (addN b c).2 * ((a.2 * c.2) * (b.2 * c.2)) = (a.1 * b.2 * (c.2 * c.2) + c.1 * a.2 * (b.2 * c.2)) * ((addN a c).2 * (addN b c).2) := by
    calc _ = ((addN a c).1 * (a.2 * c.2)) * ((addN b c).2 * (b.2 * c.2)) := by ac_rfl
      _ = ((a.1 * c.2 + c.1 * a.2) * (addN a c).2) * ((addN b c).2 * (b.2 * c.2)) := by rw [e1]
      _ = ((a.1 * c.2 + c.1 * a.2) * (b.2 * c.2)) * ((addN a c).2 * (addN b c).2) := by ac_rfl
      _ = _ := by rw [Nat.add_mul (a.1 * c.2)]; congr 2; ac_rfl
  have R : (addN b c).1 * (addN a c).2 * ((a.2 * c.2) * (b.2 * c.2)) = (b.1 * a.2 * (c.2 * c.2) + c.1 * a.2 * (b.2 * c.2)) * ((addN a c).2 * (addN b c).2) := by
    calc _ = ((addN b c).1 * (b.2 * c.2)) * ((addN a c).2 * (a.2 * c.2)) := by ac_rfl
      _ = ((b.1 * c.2 + c.1 * b.2) * (addN b c).2) * ((addN a c).2 * (a.2 * c.2)) := by rw [e2]
      _ = ((b.1 * c.2 + c.1 * b.2) * (a.2 * c.2)) * ((addN a c).2 * (addN b c).2) := by ac_rfl
      _ = _ := by rw [Nat.add_mul (b.1 * c.2)]; congr 1; congr 1 <;> ac_rfl
  have hq : 0 < (addN a c).2 * (addN b c).2 := Nat.mul_pos p1 p2
  have hcc : 0 < c.2 * c.2 := Nat.mul_pos hc hc
  constructor
  · intro h
    have h' := Nat.mul_le_mul_right ((a.2 * c.2) * (b.2 * c.2)) h
    rw [L, R] at h'
    have h2 := Nat.le_of_mul_le_mul_right h' hq
    have h3 : a.1 * b.2 * (c.2 * c.2) ≤ b.1 * a.2 * (c.2 * c.2) := by omega
    exact Nat.le_of_mul_le_mul_right h3 hcc
  · intro h
    refine Nat.le_of_mul_le_mul_right ?_ hm
    rw [L, R]
    refine Nat.mul_le_mul_right _ ?_
    have := Nat.mul_le_mul_right (c.2 * c.2) h
    omega

/-- Sums over lists. -/
def sumN (xs : List (Nat × Nat)) : Nat × Nat := xs.foldl addN (0, 1)
theorem foldl_add : ∀ (xs : List (Nat × Nat)) (a : Nat × Nat), 0 < a.2 → Nat.Coprime a.1 a.2 → (∀ x ∈ xs, 0 < x.2) → xs.foldl addN a = addN a (sumN xs) ∧ 0 < (sumN xs).2 ∧ Nat.Coprime (sumN xs).1 (sumN xs).2
  | [], a, ha, hc, _ => ⟨(add_zero hc).symm, by decide, by decide⟩
  | x :: xs, a, ha, hc, h => by
    have hx := h x (by simp)
    have hr : ∀ y ∈ xs, 0 < y.2 := fun y hy => h y (List.mem_cons_of_mem _ hy)
    obtain ⟨i1, p, c⟩ := foldl_add xs (addN a x) (add_pos ha hx) (add_cop ha hx) hr
    obtain ⟨i2, _, _⟩ := foldl_add xs (addN (0, 1) x) (add_pos (by decide) hx) (add_cop (by decide) hx) hr
    have e : sumN (x :: xs) = addN (addN (0, 1) x) (sumN xs) := i2
    refine ⟨?_, ?_, ?_⟩
    · rw [List.foldl_cons, i1, e, add_assoc ha hx p]
      have : addN (addN (0, 1) x) (sumN xs) = addN x (sumN xs) := by
        have h0 : addN (0, 1) x = redN x.1 x.2 := by unfold addN; simp
        rw [h0]
        exact add_rep (red_pos hx) p hx (red_same _ _)
      rw [this]
    · rw [e]; exact add_pos (add_pos (by decide) hx) p
    · rw [e]; exact add_cop (add_pos (by decide) hx) p
theorem sum_app {xs ys : List (Nat × Nat)} (hx : ∀ x ∈ xs, 0 < x.2) (hy : ∀ y ∈ ys, 0 < y.2) : sumN (xs ++ ys) = addN (sumN xs) (sumN ys) := by
  obtain ⟨_, p, c⟩ := foldl_add xs (0, 1) (by decide) (by decide) hx
  unfold sumN
  rw [List.foldl_append]
  exact (foldl_add ys (xs.foldl addN (0, 1)) p c hy).1
theorem sum_perm {xs ys : List (Nat × Nat)} (h : xs.Perm ys) (hx : ∀ x ∈ xs, 0 < x.2) : sumN xs = sumN ys := by
  have gen : ∀ {xs ys : List (Nat × Nat)}, xs.Perm ys → (∀ x ∈ xs, 0 < x.2) → ∀ a : Nat × Nat, 0 < a.2 → Nat.Coprime a.1 a.2 → xs.foldl addN a = ys.foldl addN a := by
    intro xs ys h
    induction h with
    | nil => intro _ a _ _; rfl
    | cons x _ ih => intro hx a ha hc; exact ih (fun y hy => hx y (List.mem_cons_of_mem _ hy)) _ (add_pos ha (hx x (by simp))) (add_cop ha (hx x (by simp)))
    | swap x y l =>
      intro hx a ha hc
      have px := hx x (by simp)
      have py := hx y (by simp)
      show l.foldl addN (addN (addN a y) x) = l.foldl addN (addN (addN a x) y)
      rw [add_assoc ha py px, add_assoc ha px py, add_comm y x]
    | trans h1 h2 i1 i2 =>
      intro hx a ha hc
      rw [i1 hx a ha hc, i2 (fun y hy => hx y (h1.mem_iff.2 hy)) a ha hc]
  exact gen h hx (0, 1) (by decide) (by decide)
end

section
/- Fractions: comparing them, sums of lists of them, bounds. No program in this text. -/
theorem red_le_num (n d : Nat) : (redN n d).1 ≤ n := Nat.div_le_self _ _
theorem red_le_den (n d : Nat) : (redN n d).2 ≤ d := Nat.div_le_self _ _

/-- Comparing: -1, 0, 1. -/
def cmpN (a b : Nat × Nat) : Int := if a.1 * b.2 < b.1 * a.2 then -1 else if b.1 * a.2 < a.1 * b.2 then 1 else 0
theorem cmp_flip (a b : Nat × Nat) : cmpN a b = - cmpN b a := by
  unfold cmpN
  split <;> split <;> first | rfl | (split <;> first | rfl | omega) | omega
theorem cmp_self (a : Nat × Nat) : cmpN a a = 0 := by
  unfold cmpN
  simp
theorem cmp_le (a b : Nat × Nat) : cmpN a b ≤ 0 ↔ leN a b := by
  unfold cmpN leN
  split
  · constructor <;> intro _ <;> omega
  · split
    · constructor <;> intro _ <;> omega
    · constructor <;> intro _ <;> omega
theorem cmp_range (a b : Nat × Nat) : -1 ≤ cmpN a b ∧ cmpN a b ≤ 1 := by
  unfold cmpN
  split
  · omega
  · split <;> omega
theorem cmp_zero {a b : Nat × Nat} (ha : 0 < a.2) (hb : 0 < b.2) (ca : Nat.Coprime a.1 a.2) (cb : Nat.Coprime b.1 b.2) : cmpN a b = 0 ↔ a = b := by
  constructor
  · intro h
    have e : a.1 * b.2 = b.1 * a.2 := by
      unfold cmpN at h
      split at h
      · omega
      · split at h
        · omega
        · omega
    obtain ⟨x, y⟩ := frac_unique ca cb ha hb e
    exact Prod.ext x y
  · rintro rfl
    exact cmp_self a
theorem cmp_of_iff {a b c d : Nat × Nat} (h1 : leN a b ↔ leN c d) (h2 : leN b a ↔ leN d c) : cmpN a b = cmpN c d := by
  have l1 := cmp_le a b
  have l2 := cmp_le c d
  have g1 := cmp_le b a
  have g2 := cmp_le d c
  rw [cmp_flip b a] at g1
  rw [cmp_flip d c] at g2
  have r1 := cmp_range a b
  have r2 := cmp_range c d
  by_cases p : leN a b <;> by_cases q : leN b a
  · have := l1.2 p; have := l2.2 (h1.1 p); have := g1.2 q; have := g2.2 (h2.1 q); omega
  · have := l1.2 p; have := l2.2 (h1.1 p)
    have : ¬ (-cmpN a b ≤ 0) := fun x => q (g1.1 x)
    have : ¬ (-cmpN c d ≤ 0) := fun x => q (h2.2 (g2.1 x))
    omega
  · have := g1.2 q; have := g2.2 (h2.1 q)
    have : ¬ (cmpN a b ≤ 0) := fun x => p (l1.1 x)
    have : ¬ (cmpN c d ≤ 0) := fun x => p (h1.2 (l2.1 x))
    omega
  · have : ¬ (cmpN a b ≤ 0) := fun x => p (l1.1 x)
    have : ¬ (-cmpN a b ≤ 0) := fun x => q (g1.1 x)
    omega
theorem cmp_add {a b c : Nat × Nat} (ha : 0 < a.2) (hb : 0 < b.2) (hc : 0 < c.2) : cmpN (addN a c) (addN b c) = cmpN a b :=
  cmp_of_iff (add_le_iff ha hb hc) (add_le_iff hb ha hc)

theorem le_trans' {a b c : Nat × Nat} (hb : 0 < b.2) (h1 : leN a b) (h2 : leN b c) : leN a c := by
  unfold leN at *
  refine Nat.le_of_mul_le_mul_right ?_ hb
  calc a.1 * c.2 * b.2 = (a.1 * b.2) * c.2 := by ac_rfl
    _ ≤ (b.1 * a.2) * c.2 := Nat.mul_le_mul_right _ h1
    _ = (b.1 * c.2) * a.2 := by ac_rfl
    _ ≤ (c.1 * b.2) * a.2 := Nat.mul_le_mul_right _ h2
    _ = c.1 * a.2 * b.2 := by ac_rfl
theorem le_refl' (a : Nat × Nat) : leN a a := Nat.le_refl _
theorem add_mono {a b c d : Nat × Nat} (ha : 0 < a.2) (hb : 0 < b.2) (hc : 0 < c.2) (hd : 0 < d.2) (h1 : leN a b) (h2 : leN c d) : leN (addN a c) (addN b d) := by
  refine le_trans' (add_pos hb hc) ((add_le_iff ha hb hc).2 h1) ?_
  rw [add_comm b c, add_comm b d]
  exact (add_le_iff hc hd hb).2 h2

theorem sum_pos {xs : List (Nat × Nat)} (h : ∀ x ∈ xs, 0 < x.2) : 0 < (sumN xs).2 := (foldl_add xs (0, 1) (by decide) (by decide) h).2.1
theorem sum_cop {xs : List (Nat × Nat)} (h : ∀ x ∈ xs, 0 < x.2) : Nat.Coprime (sumN xs).1 (sumN xs).2 := (foldl_add xs (0, 1) (by decide) (by decide) h).2.2
theorem sum_cons {x : Nat × Nat} {xs : List (Nat × Nat)} (h : ∀ y ∈ x :: xs, 0 < y.2) : sumN (x :: xs) = addN x (sumN xs) := by
  have hx := h x (by simp)
  have hr : ∀ y ∈ xs, 0 < y.2 := fun y hy => h y (List.mem_cons_of_mem _ hy)
  have e : sumN (x :: xs) = addN (addN (0, 1) x) (sumN xs) := (foldl_add xs (addN (0, 1) x) (add_pos (by decide) hx) (add_cop (by decide) hx) hr).1
  rw [e]
  have h0 : addN (0, 1) x = redN x.1 x.2 := by unfold addN; simp
  rw [h0]
  exact add_rep (red_pos hx) (sum_pos hr) hx (red_same _ _)
theorem map_pos {α : Type} {f : α → Nat × Nat} {l : List α} (h : ∀ t ∈ l, 0 < (f t).2) : ∀ x ∈ l.map f, 0 < x.2 := by
  intro x hx
  obtain ⟨u, hu, rfl⟩ := List.mem_map.1 hx
  exact h u hu
/-- The form of the parts does not matter. -/
theorem sum_rep {α : Type} (f g : α → Nat × Nat) : ∀ (l : List α), (∀ t ∈ l, 0 < (f t).2 ∧ 0 < (g t).2 ∧ (f t).1 * (g t).2 = (g t).1 * (f t).2) → sumN (l.map f) = sumN (l.map g)
  | [], _ => rfl
  | t :: l, h => by
    have ht := h t (by simp)
    have pf := map_pos (f := f) (l := t :: l) fun u hu => (h u hu).1
    have pg := map_pos (f := g) (l := t :: l) fun u hu => (h u hu).2.1
    have sg : 0 < (sumN (l.map g)).2 := sum_pos (map_pos fun u hu => (h u (List.mem_cons_of_mem _ hu)).2.1)
    rw [List.map_cons] at pf pg
    rw [List.map_cons, List.map_cons, sum_cons pf, sum_cons pg, sum_rep f g l fun u hu => h u (List.mem_cons_of_mem _ hu)]
    exact add_rep ht.1 sg ht.2.1 ht.2.2

/-- Sums grow with their parts. -/
theorem sum_mono {α : Type} (f g : α → Nat × Nat) : ∀ (l : List α), (∀ t ∈ l, 0 < (f t).2 ∧ 0 < (g t).2 ∧ leN (f t) (g t)) → leN (sumN (l.map f)) (sumN (l.map g))
  | [], _ => le_refl' _
  | t :: l, h => by
    have ht := h t (by simp)
    have pf := map_pos (f := f) (l := t :: l) fun u hu => (h u hu).1
    have pg := map_pos (f := g) (l := t :: l) fun u hu => (h u hu).2.1
    have sf : 0 < (sumN (l.map f)).2 := sum_pos (map_pos fun u hu => (h u (List.mem_cons_of_mem _ hu)).1)
    have sg : 0 < (sumN (l.map g)).2 := sum_pos (map_pos fun u hu => (h u (List.mem_cons_of_mem _ hu)).2.1)
    rw [List.map_cons] at pf pg
    rw [List.map_cons, List.map_cons, sum_cons pf, sum_cons pg]
    exact add_mono ht.1 ht.2.1 sf sg ht.2.2 (sum_mono f g l fun u hu => h u (List.mem_cons_of_mem _ hu))

/-- A sum is nothing exactly if all parts are nothing. -/
theorem red_zero {n d : Nat} (h : 0 < d) : (redN n d).1 = 0 ↔ n = 0 := by
  have e := red_same n d
  have p := red_pos (n := n) h
  constructor
  · intro h0
    rw [h0, Nat.zero_mul] at e
    rcases Nat.mul_eq_zero.1 e.symm with h1 | h1
    · exact h1
    · omega
  · rintro rfl
    simp [redN]
theorem sum_zero : ∀ {xs : List (Nat × Nat)}, (∀ x ∈ xs, 0 < x.1 ∧ 0 < x.2) → ((sumN xs).1 = 0 ↔ xs = [])
  | [], _ => by simp [sumN]
  | x :: xs, h => by
    have hx := h x (by simp)
    have hr : ∀ y ∈ xs, 0 < y.2 := fun y hy => (h y (List.mem_cons_of_mem _ hy)).2
    rw [sum_cons (fun y hy => (h y hy).2)]
    unfold addN
    rw [red_zero (Nat.mul_pos hx.2 (sum_pos hr))]
    have : 0 < x.1 * (sumN xs).2 := Nat.mul_pos hx.1 (sum_pos hr)
    simp
    omega

/-- Over a common multiple of all: what all need until they begin together again. -/
theorem sum_common : ∀ {xs : List (Nat × Nat)} {n : Nat}, 0 < n → (∀ x ∈ xs, 0 < x.2 ∧ x.2 ∣ n) → sumN xs = redN (xs.map fun x => n / x.2 * x.1).sum n
  | [], n, hn, _ => by
    have : redN 0 n = (0, 1) := by
      unfold redN
      simp [Nat.div_self hn]
    simpa [sumN] using this.symm
  | x :: xs, n, hn, h => by
    have hx := h x (by simp)
    have hr : ∀ y ∈ xs, 0 < y.2 ∧ y.2 ∣ n := fun y hy => h y (List.mem_cons_of_mem _ hy)
    rw [sum_cons (fun y hy => (h y hy).1), sum_common hn hr, List.map_cons, List.sum_cons, add_comm, add_rep (red_pos hn) hx.1 hn (red_same _ _)]
    refine red_eq (Nat.mul_pos hn hx.1) hn ?_
    obtain ⟨k, hk⟩ := hx.2
    have : n / x.2 = k := Nat.div_eq_of_eq_mul_right hx.1 hk
    rw [this]
    generalize (List.map (fun x => n / x.2 * x.1) xs).sum = s
    rw [Nat.add_mul, Nat.add_mul]
    have e1 : s * x.2 * n = s * (n * x.2) := by ac_rfl
    have e2 : x.1 * n * n = k * x.1 * (n * x.2) := by
      calc x.1 * n * n = x.1 * n * (x.2 * k) := by rw [← hk]
        _ = k * x.1 * (n * x.2) := by ac_rfl
    rw [e1, e2, Nat.add_comm]

/-- Bounds: parts no greater than one, with small numbers. -/
theorem sum_bound : ∀ {xs : List (Nat × Nat)} {m : Nat}, (∀ x ∈ xs, 0 < x.2 ∧ x.2 ≤ m ∧ x.1 ≤ x.2) → (sumN xs).2 ≤ m ^ xs.length ∧ (sumN xs).1 ≤ xs.length * (sumN xs).2
  | [], m, _ => by simp [sumN]
  | x :: xs, m, h => by
    have hx := h x (by simp)
    have hr : ∀ y ∈ xs, 0 < y.2 ∧ y.2 ≤ m ∧ y.1 ≤ y.2 := fun y hy => h y (List.mem_cons_of_mem _ hy)
    obtain ⟨b1, b2⟩ := sum_bound hr
    have sp : 0 < (sumN xs).2 := sum_pos (fun y hy => (hr y hy).1)
    rw [sum_cons (fun y hy => (h y hy).1)]
    refine ⟨?_, ?_⟩
    · refine Nat.le_trans (red_le_den _ _) ?_
      rw [List.length_cons, Nat.pow_succ, Nat.mul_comm]
      exact Nat.mul_le_mul b1 hx.2.1
    · have e : (addN x (sumN xs)).1 * (x.2 * (sumN xs).2) = (x.1 * (sumN xs).2 + (sumN xs).1 * x.2) * (addN x (sumN xs)).2 := red_same _ _
      refine Nat.le_of_mul_le_mul_right ?_ (Nat.mul_pos hx.1 sp)
      rw [e, List.length_cons]
      have k1 : x.1 * (sumN xs).2 ≤ x.2 * (sumN xs).2 := Nat.mul_le_mul_right _ hx.2.2
      have k2 : (sumN xs).1 * x.2 ≤ xs.length * (sumN xs).2 * x.2 := Nat.mul_le_mul_right _ b2
      calc (x.1 * (sumN xs).2 + (sumN xs).1 * x.2) * (addN x (sumN xs)).2 ≤ (x.2 * (sumN xs).2 + xs.length * (sumN xs).2 * x.2) * (addN x (sumN xs)).2 := Nat.mul_le_mul_right _ (Nat.add_le_add k1 k2)
        _ = (xs.length + 1) * (addN x (sumN xs)).2 * (x.2 * (sumN xs).2) := by
          have : x.2 * (sumN xs).2 + xs.length * (sumN xs).2 * x.2 = (xs.length + 1) * (x.2 * (sumN xs).2) := by
            rw [Nat.add_mul, Nat.one_mul, Nat.add_comm]; congr 1; ac_rfl
          rw [this]; ac_rfl
end

section
/- What MakeShare, ShareValid, AddShares and CompareShares answer, as plain functions. No program in this text. -/
/-- A share: in lowest terms, with numbers that are not too great. -/
structure Sh (n d : Nat) : Prop where
  pos : 1 ≤ d
  num : n ≤ 1000000000
  den : d ≤ 1000000000
  cop : Nat.gcd n d = 1

def mkB (n d : Int) : Bool := decide (0 ≤ n) && (decide (n ≤ 1000000000) && (decide (1 ≤ d) && decide (d ≤ 1000000000)))
def mkS (n d : Int) : Nat × Nat := if mkB n d then redN n.toNat d.toNat else (0, 0)
def shB (n d : Int) : Bool := mkB n d && (Nat.gcd n.toNat d.toNat == 1)
def addB (a b : Nat × Nat) : Bool := decide ((addN a b).1 ≤ 1000000000) && decide ((addN a b).2 ≤ 1000000000)
def plusB (n d m e : Int) : Bool := shB n d && (shB m e && addB (n.toNat, d.toNat) (m.toNat, e.toNat))
def plusS (n d m e : Int) : Nat × Nat := if plusB n d m e then addN (n.toNat, d.toNat) (m.toNat, e.toNat) else (0, 0)
def cmpS (n d m e : Int) : Int := if shB n d && shB m e then cmpN (n.toNat, d.toNat) (m.toNat, e.toNat) else 0

theorem mk_nat {n d : Int} (h : mkB n d = true) : ∃ a b : Nat, n = a ∧ d = b ∧ a ≤ 1000000000 ∧ 1 ≤ b ∧ b ≤ 1000000000 := by
  unfold mkB at h
  simp at h
  exact ⟨n.toNat, d.toNat, by omega, by omega, by omega, by omega, by omega⟩
theorem nat_mk {a b : Nat} (h1 : a ≤ 1000000000) (h2 : 1 ≤ b) (h3 : b ≤ 1000000000) : mkB a b = true := by
  unfold mkB
  simp
  omega
theorem mk_no {n d : Int} (h : mkB n d = false) : n < 0 ∨ 1000000000 < n ∨ d < 1 ∨ 1000000000 < d := by
  unfold mkB at h
  simp at h
  omega
theorem mkS_nat {a b : Nat} (h1 : a ≤ 1000000000) (h2 : 1 ≤ b) (h3 : b ≤ 1000000000) : mkS a b = redN a b := by
  unfold mkS
  rw [nat_mk h1 h2 h3]
  rfl
theorem mkS_no {n d : Int} (h : mkB n d = false) : mkS n d = (0, 0) := by unfold mkS; rw [h]; rfl
theorem sh_red {a b : Nat} (h1 : a ≤ 1000000000) (h2 : 1 ≤ b) (h3 : b ≤ 1000000000) : Sh (redN a b).1 (redN a b).2 :=
  ⟨red_pos h2, Nat.le_trans (red_le_num _ _) h1, Nat.le_trans (red_le_den _ _) h3, red_cop h2⟩
theorem sh_of {n d : Int} (h : shB n d = true) : ∃ a b : Nat, n = a ∧ d = b ∧ Sh a b := by
  unfold shB at h
  rw [Bool.and_eq_true] at h
  obtain ⟨a, b, rfl, rfl, h1, h2, h3⟩ := mk_nat h.1
  exact ⟨a, b, rfl, rfl, h2, h1, h3, by simpa using h.2⟩
theorem of_sh {a b : Nat} (h : Sh a b) : shB a b = true := by
  unfold shB
  rw [nat_mk h.num h.pos h.den]
  simp [h.cop]
theorem sh_redN {a b : Nat} (h : Sh a b) : redN a b = (a, b) := red_of_cop h.cop
theorem gcd_one {a b : Nat} (hb : 0 < b) (h : b / Nat.gcd a b = b) : Nat.gcd a b = 1 := by
  have hg : 0 < Nat.gcd a b := Nat.gcd_pos_of_pos_right a hb
  have h1 := Nat.div_mul_cancel (Nat.gcd_dvd_right a b)
  rw [h] at h1
  have : b * Nat.gcd a b = b * 1 := by omega
  exact Nat.eq_of_mul_eq_mul_left hb this
theorem plus_sh {a b c d : Nat} (h : Sh a b) (k : Sh c d) : plusB a b c d = addB (a, b) (c, d) ∧ plusS a b c d = if addB (a, b) (c, d) then addN (a, b) (c, d) else (0, 0) := by
  have e : plusB a b c d = addB (a, b) (c, d) := by unfold plusB; rw [of_sh h, of_sh k]; simp
  refine ⟨e, ?_⟩
  unfold plusS
  rw [e]
  simp
theorem plus_out {n d m e : Int} (h : plusB n d m e = true) : ∃ a b x y : Nat, n = a ∧ d = b ∧ m = x ∧ e = y ∧ Sh a b ∧ Sh x y ∧ plusS n d m e = addN (a, b) (x, y) ∧ Sh (addN (a, b) (x, y)).1 (addN (a, b) (x, y)).2 := by
  have h0 := h
  unfold plusB at h
  rw [Bool.and_eq_true, Bool.and_eq_true] at h
  obtain ⟨a, b, rfl, rfl, ha⟩ := sh_of h.1
  obtain ⟨x, y, rfl, rfl, hx⟩ := sh_of h.2.1
  have h3 := h.2.2
  unfold addB at h3
  simp at h3
  refine ⟨a, b, x, y, rfl, rfl, rfl, rfl, ha, hx, ?_, ?_⟩
  · unfold plusS; rw [h0]; rfl
  · exact ⟨add_pos ha.pos hx.pos, h3.1, h3.2, add_cop ha.pos hx.pos⟩
theorem plus_no {n d m e : Int} (h : plusB n d m e = false) : plusS n d m e = (0, 0) := by unfold plusS; rw [h]; rfl
theorem plus_comm (n d m e : Int) : plusB n d m e = plusB m e n d ∧ plusS n d m e = plusS m e n d := by
  have e1 : addB (n.toNat, d.toNat) (m.toNat, e.toNat) = addB (m.toNat, e.toNat) (n.toNat, d.toNat) := by unfold addB; rw [add_comm]
  have e2 : plusB n d m e = plusB m e n d := by
    unfold plusB
    rw [e1, ← Bool.and_assoc, ← Bool.and_assoc, Bool.and_comm (shB n d)]
  refine ⟨e2, ?_⟩
  unfold plusS
  rw [e2, add_comm]
theorem cmp_sh {a b c d : Nat} (h : Sh a b) (k : Sh c d) : cmpS a b c d = cmpN (a, b) (c, d) := by
  unfold cmpS; rw [of_sh h, of_sh k]; rfl
theorem cmp_left {n d : Int} (m e : Int) (h : shB n d = false) : cmpS n d m e = 0 := by unfold cmpS; rw [h]; rfl
theorem cmp_right {m e : Int} (n d : Int) (h : shB m e = false) : cmpS n d m e = 0 := by unfold cmpS; rw [h]; simp
theorem cmpS_flip (n d m e : Int) : cmpS n d m e = - cmpS m e n d := by
  unfold cmpS
  rw [Bool.and_comm, cmp_flip]
  split <;> omega
theorem cmpS_range (n d m e : Int) : -1 ≤ cmpS n d m e ∧ cmpS n d m e ≤ 1 := by
  unfold cmpS
  split
  · exact cmp_range _ _
  · omega
theorem cmpS_self (n d : Int) : cmpS n d n d = 0 := by
  unfold cmpS
  split
  · exact cmp_self _
  · rfl
theorem cmpS_zero {a b c d : Nat} (h : Sh a b) (k : Sh c d) : cmpS a b c d = 0 ↔ a = c ∧ b = d := by
  rw [cmp_sh h k, cmp_zero (a := (a, b)) (b := (c, d)) h.pos k.pos h.cop k.cop, Prod.mk.injEq]
/-- A sum is no less than its parts. -/
theorem cmp_plus {a b x y : Nat} (h : Sh a b) (k : Sh x y) (hs : Sh (addN (a, b) (x, y)).1 (addN (a, b) (x, y)).2) : cmpS a b (addN (a, b) (x, y)).1 (addN (a, b) (x, y)).2 ≤ 0 ∧ cmpS x y (addN (a, b) (x, y)).1 (addN (a, b) (x, y)).2 ≤ 0 := by
  rw [cmp_sh h hs, cmp_sh k hs]
  refine ⟨(cmp_le _ _).2 (le_add h.pos k.pos), (cmp_le _ _).2 ?_⟩
  rw [add_comm]
  exact le_add k.pos h.pos
theorem plus_zero {a b : Nat} (h : Sh a b) : plusB a b 0 1 = true ∧ plusS a b 0 1 = (a, b) := by
  have h01 : Sh 0 1 := ⟨by omega, by omega, by omega, by decide⟩
  obtain ⟨e1, e2⟩ := plus_sh h h01
  have e : addN (a, b) (0, 1) = (a, b) := add_zero h.cop
  have hb : addB (a, b) (0, 1) = true := by unfold addB; rw [e]; simp; exact ⟨h.num, h.den⟩
  have e1' : plusB a b 0 1 = true := by have := e1; rw [hb] at this; exact_mod_cast this
  refine ⟨e1', ?_⟩
  have := e2
  rw [hb, e] at this
  exact_mod_cast this
theorem cmp_more {n d m e p q : Int} (h1 : plusB n d p q = true) (h2 : plusB m e p q = true) : cmpS (plusS n d p q).1 (plusS n d p q).2 (plusS m e p q).1 (plusS m e p q).2 = cmpS n d m e := by
  obtain ⟨a, b, x, y, rfl, rfl, rfl, rfl, ha, hx, e1, s1⟩ := plus_out h1
  obtain ⟨a', b', x', y', rfl, rfl, hx1, hx2, ha', hx', e2, s2⟩ := plus_out h2
  have i1 : x' = x := by omega
  have i2 : y' = y := by omega
  subst i1 i2
  rw [e1, e2, cmp_sh s1 s2, cmp_sh ha ha']
  exact cmp_add ha.pos ha'.pos hx.pos
end

section
/- The variable errTooGreat, as the walks ask it; errors.Is asked whether an error is the variable's: the contracts of errors.Is for nil and for the error itself. -/
open Go.RowKit Go.Extern.Stop Go.Stop Go.Extern

/-- The variable holds the address a of an error. -/
def EG (w : World) (a : Addr) : Prop := w.cell? ⟨0, 0, none⟩ = some (.iface 92 (.pointer (some a)))
theorem EG.lt {w : World} {a : Addr} (h : EG w a) : 0 < w.heap.size := World.block_lt_of_cell? w _ h
theorem EG.below {w w' : World} {a : Addr} (h : EG w a) (hb : Below w.heap.size w w') : EG w' a := (hb.cell (p := ⟨0, 0, none⟩) h.lt).trans h

theorem EG.drewN {w : World} {a : Addr} (h : EG w a) (k : Nat) : EG (w.drewN k) a := h
theorem EG.drew {w : World} {a : Addr} (h : EG w a) : EG w.drew a := h
theorem EG.alloc {w : World} {a : Addr} (h : EG w a) (o : Obj) : EG (w.alloc o) a := (World.cell?_alloc_lt w o _ h.lt).trans h
theorem EG.set {w : World} {a : Addr} (h : EG w a) {p : Addr} (hp : 0 ≠ p.block) (u : Value) : EG (w.setCell p u) a :=
  (World.cell?_setCell_other w _ _ _ (fun e => hp (by rw [e]))).trans h

theorem isTypeOf (v : Value) (w : World) : (Extern.ReflectliteType.typeOf #[.iface 92 v]).run Tryd.prog w = .ok (.iface 81 (.agg #[.pointer (some ⟨1, 92, none⟩)])) w := by kernel_rfl
/-- What the model runs for Comparable. -/
def cmpF (t : TypeId) : Sem Value := do Extern.Rtype.noPackHeld "Comparable" t; pure (.bool (← typeInfo t).comparable)
theorem isComparable (w : World) : (Extern.ReflectliteType.method cmpF #[.agg #[.pointer (some ⟨1, 92, none⟩)]]).run Tryd.prog w = .ok (.bool true) w := by kernel_rfl
theorem isMethodComparable (v : Value) (w : World) : (Go.method 232 81 v "Comparable").run Tryd.prog w = .ok (78, v) w := by kernel_rfl
theorem isComp : (Tryd.prog.info? 92).map (·.comparable) = some true := by kernel_rfl
theorem isSize : (Tryd.prog.info? 119).map (·.size) = some 1 := by kernel_rfl

/-- errors.Is(x, x), x a pointer to an errors.errorString. -/
theorem is_same (a : Addr) (w : World) :
    Calls Tryd.prog 22 #[.iface 92 (.pointer (some a)), .iface 92 (.pointer (some a))] w fun e w' => e = .returned (.bool true) ∧ w' = w := by
  obtain ⟨i, hi, hcmp⟩ := Option.map_eq_some_iff.1 isComp
  obtain ⟨j, hj, hjs⟩ := Option.map_eq_some_iff.1 isSize
  have h8 := @run_callFunc_extern Tryd.prog 44 _ Extern.ReflectliteType.typeOf Tryd.func44 (by kernel_rfl) (by kernel_rfl) (by kernel_rfl) (by kernel_rfl)
  have h32 := @run_callFunc_extern Tryd.prog 78 _ (Extern.ReflectliteType.method cmpF) Tryd.func78 (by kernel_rfl) (by kernel_rfl) (by kernel_rfl) (by kernel_rfl)
  have tT := isTypeOf
  have cT := isComparable
  have mR := isMethodComparable
  have heq := run_eql_iface_ptr_same (P := Tryd.prog) w a Tryd.underlying43 Tryd.underlying92 hi hcmp hj
  go_enter Tryd.func22, Tryd.ntmps22
  go_wp2
  refine wp_loop_rounds 1 ?_
  rw [rounds_succ]
  go_wp2
  go_ret
  exact ⟨rfl, rfl⟩

/-- errors.Is(nil, x). -/
theorem is_nil (b : Addr) (w : World) :
    Calls Tryd.prog 22 #[.nilIface, .iface 92 (.pointer (some b))] w fun e w' => e = .returned (.bool false) ∧ w' = w := by
  have hn := run_eql_iface_nil_left (P := Tryd.prog) w 92 (.pointer (some b)) Tryd.underlying43
  go_enter Tryd.func22, Tryd.ntmps22
  go_wp2
  go_ret
  exact ⟨rfl, rfl⟩
end

section
/- Contracts of MakeShare and ShareValid, in the program and in the reference: the fraction in lowest terms; whether a share is in lowest terms. Nothing that was there is written. -/
open Go.RowKit

theorem div_cast (a g : Nat) : ((a : Int) / (g : Int)) = ((a / g : Nat) : Int) := by simp
theorem red_pair {a b p q : Nat} (h : redN a b = (p, q)) : a / Nat.gcd a b = p ∧ b / Nat.gcd a b = q := by
  unfold redN at h
  exact ⟨(Prod.mk.inj h).1, (Prod.mk.inj h).2⟩

/-- What making or adding returns. -/
def MkRes (p q : Nat) (b : Bool) (w : World) (e : Ending) (w' : World) : Prop :=
  e = .returned (.tuple #[.agg #[.int .i64 (p : Int), .int .i64 (q : Int)], .bool b]) ∧ Below w.heap.size w w'
def BoolRes (b : Bool) (w : World) (e : Ending) (w' : World) : Prop := e = .returned (.bool b) ∧ Below w.heap.size w w'

set_option maxHeartbeats 1000000 in
/-- inLowestTerms, where the numbers are not too great. -/
theorem lowest_fits (w : World) (s t : Int) (a b p q : Nat) (hs : s = (a : Int)) (ht : t = (b : Int)) (ha : a ≤ 4611686018427387904) (hb0 : 1 ≤ b) (hb : b ≤ 4611686018427387904) (hr : redN a b = (p, q)) (h1 : p ≤ 1000000000) (h2 : q ≤ 1000000000) :
    Calls Tryd.prog 21 #[.int .i64 s, .int .i64 t] w fun e w' =>
      e = .returned (.tuple #[.agg #[.int .i64 (p : Int), .int .i64 (q : Int)], .nilIface]) ∧ Below w.heap.size w w' := by
  subst hs ht
  have g1 : 1 ≤ Nat.gcd a b := Nat.gcd_pos_of_pos_right a hb0
  obtain ⟨hx, hy⟩ := red_pair hr
  have qx : ((a : Int) / ((Nat.gcd a b : Nat) : Int)) = (p : Int) := by rw [div_cast, hx]
  have qy : ((b : Int) / ((Nat.gcd a b : Nat) : Int)) = (q : Int) := by rw [div_cast, hy]
  have HC := Lib.hid (fun W : World => iGcd_big W a b ha hb)
  clear hx hy hr
  go_enter Tryd.func21, Tryd.ntmps21
  go_wp2_with fail
  refine (HC.out _).mono ?_
  rintro e w1 ⟨rfl, hb1⟩
  have HB := Lib.hid (bl_trans (bl_alloc (Below.refl _ w) _) hb1)
  have bR := (Blk.new w 27 #[.int .i64 0, .int .i64 0]).below hb1 (by simp)
  have cR := bR.cell
  have fR := bR.frozen
  clear hb1 HC
  generalize Nat.gcd a b = g at *
  go_wp2
  (try go_quiet (fail))
  (try go_wp2)
  refine bodyPost_ret (v := .tuple #[.agg #[.int .i64 (p : Int), .int .i64 (q : Int)], .nilIface]) (by simp [results, Tryd.results21, go_sem, cR]) rfl ⟨rfl, (by repeat (first | exact HB.out | refine bl_drewN ?_ _ | refine Below.drew ?_ | refine bl_alloc ?_ _ | refine bl_set ?_ (by dsimp only; omega) _))⟩

set_option maxHeartbeats 1000000 in
/-- inLowestTerms, where a number is too great. -/
theorem lowest_great (w : World) (e0 : Addr) (he : EG w e0) (s t : Int) (a b p q : Nat) (hs : s = (a : Int)) (ht : t = (b : Int)) (ha : a ≤ 4611686018427387904) (hb0 : 1 ≤ b) (hb : b ≤ 4611686018427387904) (hr : redN a b = (p, q)) (h1 : 1000000000 < p ∨ 1000000000 < q) :
    Calls Tryd.prog 21 #[.int .i64 s, .int .i64 t] w fun e w' =>
      e = .returned (.tuple #[.agg #[.int .i64 0, .int .i64 0], .iface 92 (.pointer (some e0))]) ∧ Below w.heap.size w w' := by
  subst hs ht
  have g1 : 1 ≤ Nat.gcd a b := Nat.gcd_pos_of_pos_right a hb0
  obtain ⟨hx, hy⟩ := red_pair hr
  have qx : ((a : Int) / ((Nat.gcd a b : Nat) : Int)) = (p : Int) := by rw [div_cast, hx]
  have qy : ((b : Int) / ((Nat.gcd a b : Nat) : Int)) = (q : Int) := by rw [div_cast, hy]
  have HC := Lib.hid (fun W : World => iGcd_big W a b ha hb)
  have HE := Lib.hid he
  have pb : p ≤ 4611686018427387904 := by rw [← hx]; exact Nat.le_trans (Nat.div_le_self _ _) ha
  have qb : q ≤ 4611686018427387904 := by rw [← hy]; exact Nat.le_trans (Nat.div_le_self _ _) hb
  clear hx hy hr he
  go_enter Tryd.func21, Tryd.ntmps21
  go_wp2_with fail
  refine (HC.out _).mono ?_
  rintro e w1 ⟨rfl, hb1⟩
  have HB := Lib.hid (bl_trans (bl_alloc (Below.refl _ w) _) hb1)
  have bR := (Blk.new w 27 #[.int .i64 0, .int .i64 0]).below hb1 (by simp)
  have cR := fun k => (bR.drewN k).cell
  have fR := fun k => (bR.drewN k).frozen
  have hE0 : EG w1 e0 := HE.out.below HB.out
  have hE := fun k : Nat => (show (w1.drewN k).cell? ⟨0, 0, none⟩ = some (.iface 92 (.pointer (some e0))) from hE0)
  clear hb1 HC
  generalize Nat.gcd a b = g at *
  have h0 : 0 ≠ w.heap.size := by have := HE.out.lt; omega
  have hE2 := fun (k : Nat) (u v : Value) => (EG.set (EG.set (EG.drewN hE0 k) (p := ⟨w.heap.size, 0, none⟩) h0 u) (p := ⟨w.heap.size, 1, none⟩) h0 v : EG (((w1.drewN k).setCell ⟨w.heap.size, 0, none⟩ u).setCell ⟨w.heap.size, 1, none⟩ v) e0)
  unfold EG at hE2
  by_cases h3 : 1000000000 < p
  · have h4 : 1000000000 < p := h3
    go_wp2
    go_quiet (fail)
    go_wp2
    go_region
    all_goals go_wp2
    all_goals refine bodyPost_ret (v := .tuple #[.agg #[.int .i64 0, .int .i64 0], .iface 92 (.pointer (some e0))]) (by simp [results, Tryd.results21, go_sem, cR]) rfl ⟨rfl, (by repeat (first | exact HB.out | refine bl_drewN ?_ _ | refine Below.drew ?_ | refine bl_alloc ?_ _ | refine bl_set ?_ (by dsimp only; omega) _))⟩
  · have h4 : 1000000000 < q := by omega
    go_wp2
    go_quiet (fail)
    go_wp2
    go_region
    all_goals go_wp2
    all_goals refine bodyPost_ret (v := .tuple #[.agg #[.int .i64 0, .int .i64 0], .iface 92 (.pointer (some e0))]) (by simp [results, Tryd.results21, go_sem, cR]) rfl ⟨rfl, (by repeat (first | exact HB.out | refine bl_drewN ?_ _ | refine Below.drew ?_ | refine bl_alloc ?_ _ | refine bl_set ?_ (by dsimp only; omega) _))⟩

set_option maxHeartbeats 1000000 in
theorem iMake_is (w : World) (n d : Int) (p q : Nat) (b : Bool) (hp : mkS n d = (p, q)) (hb : mkB n d = b) :
    Calls Tryd.prog 42 #[.int .i64 n, .int .i64 d] w (MkRes p q b w) := by
  cases b
  · rw [mkS_no hb] at hp
    obtain ⟨rfl, rfl⟩ := Prod.mk.inj hp
    clear hp
    rcases mk_no hb with h | h | h | h
    all_goals clear hb
    all_goals go_enter Tryd.func42, Tryd.ntmps42
    all_goals go_wp2
    all_goals refine bodyPost_ret (v := .tuple #[.agg #[.int .i64 0, .int .i64 0], .bool false]) (by simp [results, Tryd.results42, go_sem]) rfl ⟨rfl, by repeat (first | exact Below.refl _ _ | refine bl_alloc ?_ _ | refine bl_set ?_ (by dsimp only; omega) _)⟩
  · obtain ⟨a, c, rfl, rfl, h1, h2, h3⟩ := mk_nat hb
    rw [mkS_nat h1 h2 h3] at hp
    have hs := sh_red h1 h2 h3
    rw [hp] at hs
    obtain ⟨_, hp1, hp2, _⟩ := hs
    dsimp only at hp1 hp2
    have HC := Lib.hid (fun W : World => lowest_fits W a c a c p q rfl rfl (by omega) h2 (by omega) hp hp1 hp2)
    clear hb hp
    go_enter Tryd.func42, Tryd.ntmps42
    go_wp2_with fail
    refine (HC.out _).mono ?_
    rintro e w1 ⟨rfl, hb1⟩
    have HB := Lib.hid (bl_trans (bl_alloc (Below.refl _ w) _) hb1)
    have bR := (Blk.new w 27 #[.int .i64 0, .int .i64 0]).below hb1 (by simp)
    have cR := fun o => (bR.alloc o).cell
    have fR := fun o => (bR.alloc o).frozen
    clear hb1 HC
    go_wp2
    go_region
    all_goals go_wp2
    all_goals refine bodyPost_ret (v := .tuple #[.agg #[.int .i64 (p : Int), .int .i64 (q : Int)], .bool true]) (by simp [results, Tryd.results42, go_sem, cR]) rfl ⟨rfl, (by repeat (first | exact HB.out | refine bl_drewN ?_ _ | refine Below.drew ?_ | refine bl_alloc ?_ _ | refine bl_set ?_ (by dsimp only; omega) _))⟩

set_option maxHeartbeats 1000000 in
theorem iShare_is (w : World) (n d : Int) (b : Bool) (h : shB n d = b) :
    Calls Tryd.prog 19 #[.agg #[.int .i64 n, .int .i64 d]] w (BoolRes b w) := by
  cases hm : mkB n d
  · obtain rfl : b = false := by rw [← h]; unfold shB; rw [hm]; rfl
    have HC := Lib.hid (fun W : World => iMake_is W n d 0 0 false (mkS_no hm) hm)
    clear h hm
    go_enter Tryd.func19, Tryd.ntmps19
    go_wp2_with fail
    refine (HC.out _).mono ?_
    rintro e w1 ⟨rfl, hb1⟩
    have HB := Lib.hid (bl_trans (bl_alloc (Below.refl _ w) _) hb1)
    have bS : Blk w1 w.heap.size 27 #[.int .i64 n, .int .i64 d] := (Blk.new w _ _).below hb1 (by simp)
    have cS := fun o => (bS.alloc o).cell
    clear hb1 HC
    go_wp2
    (try go_quiet (fail))
    (try go_wp2)
    go_ret
    exact ⟨rfl, (by repeat (first | exact HB.out | refine bl_drewN ?_ _ | refine Below.drew ?_ | refine bl_alloc ?_ _ | refine bl_set ?_ (by dsimp only; omega) _))⟩
  · obtain ⟨a, c, rfl, rfl, h1, h2, h3⟩ := mk_nat hm
    obtain ⟨p, q, hp⟩ : ∃ p q, mkS (a : Int) (c : Int) = (p, q) := ⟨_, _, rfl⟩
    have HC := Lib.hid (fun W : World => iMake_is W a c p q true hp hm)
    rw [mkS_nat h1 h2 h3] at hp
    obtain ⟨hx, hy⟩ := red_pair hp
    have hb : b = (Nat.gcd a c == 1) := by rw [← h]; unfold shB; rw [hm]; simp
    clear h hm hp
    go_enter Tryd.func19, Tryd.ntmps19
    go_wp2_with fail
    refine (HC.out _).mono ?_
    rintro e w1 ⟨rfl, hb1⟩
    have HB := Lib.hid (bl_trans (bl_alloc (Below.refl _ w) _) hb1)
    have bS : Blk w1 w.heap.size 27 #[.int .i64 (a : Int), .int .i64 (c : Int)] := (Blk.new w _ _).below hb1 (by simp)
    have cS := fun o => (bS.alloc o).cell
    clear hb1 HC
    by_cases hg : Nat.gcd a c = 1
    · rw [hg, Nat.div_one] at hx hy
      subst hx hy
      obtain rfl : b = true := by rw [hb, hg]; rfl
      clear hg hb
      go_wp2
      (try go_quiet (fail))
      (try go_wp2)
      go_ret
      exact ⟨rfl, (by repeat (first | exact HB.out | refine bl_drewN ?_ _ | refine Below.drew ?_ | refine bl_alloc ?_ _ | refine bl_set ?_ (by dsimp only; omega) _))⟩
    · obtain rfl : b = false := by rw [hb]; simp [hg]
      have hq : ¬ q = c := fun e => hg (gcd_one (by omega) (by rw [hy, e]))
      have hq' : ((q : Int) == (c : Int)) = false := by simp; omega
      have hq2 : ¬ (q : Int) = (c : Int) := by omega
      clear hx hy hg hb hq
      by_cases hpa : p = a
      · subst hpa
        go_wp2
        (try go_quiet (fail))
        (try go_wp2)
        go_ret
        exact ⟨rfl, (by repeat (first | exact HB.out | refine bl_drewN ?_ _ | refine Below.drew ?_ | refine bl_alloc ?_ _ | refine bl_set ?_ (by dsimp only; omega) _))⟩
      · have hp' : ((p : Int) == (a : Int)) = false := by simp; omega
        have hp2 : ¬ (p : Int) = (a : Int) := by omega
        clear hpa
        go_wp2
        (try go_quiet (fail))
        (try go_wp2)
        go_ret
        exact ⟨rfl, (by repeat (first | exact HB.out | refine bl_drewN ?_ _ | refine Below.drew ?_ | refine bl_alloc ?_ _ | refine bl_set ?_ (by dsimp only; omega) _))⟩
end

section
/- Contracts of AddShares and CompareShares, in the program and in the reference. Nothing that was there is written. -/
open Go.RowKit
set_option linter.unusedVariables false

/-- Further calls from a world with more blocks and draws. -/
theorem bl_from {w W W' : World} (h : Below w.heap.size w W) (k : Below W.heap.size W W') : Below w.heap.size w W' := bl_trans h k
theorem Blk.drew {w : World} {g : Nat} {t : TypeId} {cs : Array Value} (h : Blk w g t cs) : Blk w.drew g t cs := h
def IntRes' (z : Int) (w : World) (e : Ending) (w' : World) : Prop := e = .returned (.int .i64 z) ∧ Below w.heap.size w w'
theorem mul_cast (a b c : Nat) (h : a * b = c) : ((a : Int) * (b : Int)) = (c : Int) := by rw [← h]; simp
theorem mul_le9 {a b c : Nat} (h : a * b = c) (ha : a ≤ 1000000000) (hb : b ≤ 1000000000) : c ≤ 1000000000000000000 := by
  rw [← h]
  exact Nat.le_trans (Nat.mul_le_mul ha hb) (by decide)

/-- The numerators over the product of the denominators. -/
theorem cross_is (w : World) (a b x y l r : Nat) (hl : a * y = l) (hr : x * b = r) (l1 : l ≤ 1000000000000000000) (r1 : r ≤ 1000000000000000000) (a1 : a ≤ 1000000000) (b1 : b ≤ 1000000000) (x1 : x ≤ 1000000000) (y1 : y ≤ 1000000000) :
    Calls Tryd.prog 20 #[.agg #[.int .i64 (a : Int), .int .i64 (b : Int)], .agg #[.int .i64 (x : Int), .int .i64 (y : Int)]] w fun e w' =>
      e = .returned (.tuple #[.int .i64 (l : Int), .int .i64 (r : Int)]) ∧ Below w.heap.size w w' := by
  have ql := mul_cast a y l hl
  have qr := mul_cast x b r hr
  clear hl hr
  have HB := Lib.hid (Below.refl w.heap.size w)
  go_enter Tryd.func20, Tryd.ntmps20
  go_wp2
  (try go_quiet (fail))
  (try go_wp2)
  refine bodyPost_ret (v := .tuple #[.int .i64 (l : Int), .int .i64 (r : Int)]) (by simp [results, Tryd.results20, go_sem]) rfl ⟨rfl, (by repeat (first | exact HB.out | refine bl_drewN ?_ _ | refine Below.drew ?_ | refine bl_alloc ?_ _ | refine bl_set ?_ (by dsimp only; omega) _))⟩

theorem nan_is (w : World) (x : Int) : Calls Tryd.prog 47 #[.int .i64 x] w fun e w' => e = .returned (.bool false) ∧ Below w.heap.size w w' := by
  have HB := Lib.hid (Below.refl w.heap.size w)
  go_enter Tryd.func47, Tryd.ntmps47
  go_wp2
  (try go_quiet (fail))
  (try go_wp2)
  go_ret
  exact ⟨by first | rfl | simp, (by repeat (first | exact HB.out | refine bl_drewN ?_ _ | refine Below.drew ?_ | refine bl_alloc ?_ _ | refine bl_set ?_ (by dsimp only; omega) _))⟩

theorem compare_is (w : World) (x y z : Int) (h : z = if x < y then -1 else if y < x then 1 else 0) :
    Calls Tryd.prog 24 #[.int .i64 x, .int .i64 y] w (IntRes' z w) := by
  have hz : (x < y ∧ z = -1) ∨ (¬ x < y ∧ y < x ∧ z = 1) ∨ (¬ x < y ∧ ¬ y < x ∧ z = 0) := by
    by_cases h1 : x < y
    · exact .inl ⟨h1, by rw [h, if_pos h1]⟩
    · by_cases h2 : y < x
      · exact .inr (.inl ⟨h1, h2, by rw [h, if_neg h1, if_pos h2]⟩)
      · exact .inr (.inr ⟨h1, h2, by rw [h, if_neg h1, if_neg h2]⟩)
  clear h
  rcases hz with ⟨h1, rfl⟩ | ⟨h1, h2, rfl⟩ | ⟨h1, h2, rfl⟩
  all_goals go_enter Tryd.func24, Tryd.ntmps24
  all_goals go_wp2_with fail
  all_goals refine (nan_is _ x).mono ?_
  all_goals rintro e w1 ⟨rfl, hb⟩
  all_goals have HB1 := Lib.hid (bl_trans (Below.refl _ w) hb)
  all_goals clear hb
  all_goals go_wp2_with fail
  all_goals refine (nan_is _ y).mono ?_
  all_goals rintro e w2 ⟨rfl, hb⟩
  all_goals have HB := Lib.hid (bl_trans HB1.out hb)
  all_goals clear hb HB1
  all_goals go_wp2
  all_goals go_ret
  all_goals exact ⟨rfl, (by repeat (first | exact HB.out | refine bl_drewN ?_ _ | refine Below.drew ?_ | refine bl_alloc ?_ _ | refine bl_set ?_ (by dsimp only; omega) _))⟩

theorem cmp_if {a b x y l r : Nat} (h : Sh a b) (k : Sh x y) (hl : a * y = l) (hr : x * b = r) : cmpS a b x y = if (l : Int) < (r : Int) then -1 else if (r : Int) < (l : Int) then 1 else 0 := by
  rw [cmp_sh h k]
  unfold cmpN
  dsimp only
  rw [hl, hr]
  simp

theorem iCmp_is (w : World) (n d m e : Int) (z : Int) (h : cmpS n d m e = z) :
    Calls Tryd.prog 10 #[.agg #[.int .i64 n, .int .i64 d], .agg #[.int .i64 m, .int .i64 e]] w (IntRes' z w) := by
  cases ha : shB n d
  · obtain rfl : z = 0 := by rw [← h]; exact cmp_left m e ha
    clear h
    have HC := Lib.hid (fun W : World => iShare_is W n d false ha)
    clear ha
    go_enter Tryd.func10, Tryd.ntmps10
    go_wp2_with fail
    refine (HC.out _).mono ?_
    rintro e w1 ⟨rfl, hb1⟩
    have HB := Lib.hid (bl_trans (bl_alloc (bl_alloc (Below.refl _ w) _) _) hb1)
    clear hb1 HC
    go_wp2
    go_ret
    exact ⟨rfl, (by repeat (first | exact HB.out | refine bl_drewN ?_ _ | refine Below.drew ?_ | refine bl_alloc ?_ _ | refine bl_set ?_ (by dsimp only; omega) _))⟩
  cases hc : shB m e
  · obtain rfl : z = 0 := by rw [← h]; exact cmp_right n d hc
    clear h
    have HC := Lib.hid (fun W : World => iShare_is W n d true ha)
    have HD := Lib.hid (fun W : World => iShare_is W m e false hc)
    clear ha hc
    go_enter Tryd.func10, Tryd.ntmps10
    go_wp2_with fail
    refine (HC.out _).mono ?_
    rintro e0 w1 ⟨rfl, hb1⟩
    have HB1 := Lib.hid (bl_trans (bl_alloc (bl_alloc (Below.refl _ w) _) _) hb1)
    have hs1 := hb1.size
    simp at hs1
    have b1 := Lib.hid (((Blk.new w 27 #[.int .i64 n, .int .i64 d]).alloc (.cells #[.int .i64 m, .int .i64 e] 27)) |>.below hb1 (by simp; omega))
    have b2 := Lib.hid ((Blk.new (w.alloc (.cells #[.int .i64 n, .int .i64 d] 27)) 27 #[.int .i64 m, .int .i64 e]) |>.below hb1 (by simp))
    have c1 := b1.out.cell
    have c2 := b2.out.cell
    simp only [World.size_alloc] at c2
    clear hb1 HC
    go_wp2_with fail
    refine (HD.out _).mono ?_
    rintro e0 w2 ⟨rfl, hb2⟩
    have HB := Lib.hid (bl_trans HB1.out hb2)
    clear hb2 HD HB1
    go_wp2
    go_ret
    exact ⟨rfl, (by repeat (first | exact HB.out | refine bl_drewN ?_ _ | refine Below.drew ?_ | refine bl_alloc ?_ _ | refine bl_set ?_ (by dsimp only; omega) _))⟩
  obtain ⟨a, b, rfl, rfl, hA⟩ := sh_of ha
  obtain ⟨x, y, rfl, rfl, hX⟩ := sh_of hc
  have HC := Lib.hid (fun W : World => iShare_is W a b true ha)
  have HD := Lib.hid (fun W : World => iShare_is W x y true hc)
  obtain ⟨a0, a1, a2, a3⟩ := hA
  obtain ⟨x0, x1, x2, x3⟩ := hX
  have HA := Lib.hid (show Sh a b from ⟨a0, a1, a2, a3⟩)
  have HX := Lib.hid (show Sh x y from ⟨x0, x1, x2, x3⟩)
  clear ha hc a3 x3
  obtain ⟨l, hl⟩ : ∃ l, a * y = l := ⟨_, rfl⟩
  obtain ⟨r, hr⟩ : ∃ r, x * b = r := ⟨_, rfl⟩
  have l1 := mul_le9 hl a1 x2
  have r1 := mul_le9 hr x1 a2
  have HK := Lib.hid (fun W : World => cross_is W a b x y l r hl hr l1 r1 a1 a2 x1 x2)
  have HM := Lib.hid (fun W : World => compare_is W l r z (by rw [← h]; exact cmp_if HA.out HX.out hl hr))
  clear hl hr h
  go_enter Tryd.func10, Tryd.ntmps10
  go_wp2_with fail
  refine (HC.out _).mono ?_
  rintro e0 w1 ⟨rfl, hb1⟩
  have HB1 := Lib.hid (bl_trans (bl_alloc (bl_alloc (Below.refl _ w) _) _) hb1)
  have hs1 := hb1.size
  simp at hs1
  have b1 := Lib.hid (((Blk.new w 27 #[.int .i64 (a : Int), .int .i64 (b : Int)]).alloc (.cells #[.int .i64 (x : Int), .int .i64 (y : Int)] 27)) |>.below hb1 (by simp; omega))
  have b2 := Lib.hid ((Blk.new (w.alloc (.cells #[.int .i64 (a : Int), .int .i64 (b : Int)] 27)) 27 #[.int .i64 (x : Int), .int .i64 (y : Int)]) |>.below hb1 (by simp))
  have b2' : Hid (Blk w1 (w.heap.size + 1) 27 #[.int .i64 (x : Int), .int .i64 (y : Int)]) := by have h := b2.out; simp only [World.size_alloc] at h; exact h
  have c1 := b1.out.cell
  have c2 := b2'.out.cell
  clear hb1 HC b2
  go_wp2_with fail
  refine (HD.out _).mono ?_
  rintro e0 w2 ⟨rfl, hb2⟩
  have HB2 := Lib.hid (bl_trans HB1.out hb2)
  have hs2 := hb2.size
  have d1 := Lib.hid (b1.out.below hb2 (by omega))
  have d2 := Lib.hid (b2'.out.below hb2 (by omega))
  clear hb2 HD HB1 c1 c2 b1 b2'
  have c1 := d1.out.cell
  have c2 := d2.out.cell
  go_wp2_with fail
  refine (HK.out _).mono ?_
  rintro e0 w3 ⟨rfl, hb3⟩
  have HB3 := Lib.hid (bl_trans HB2.out hb3)
  clear hb3 HK HB2 c1 c2 d1 d2
  go_wp2_with fail
  refine (HM.out _).mono ?_
  rintro e0 w4 ⟨rfl, hb4⟩
  have HB := Lib.hid (bl_trans HB3.out hb4)
  clear hb4 HM HB3
  go_wp2
  go_ret
  exact ⟨rfl, (by repeat (first | exact HB.out | refine bl_drewN ?_ _ | refine Below.drew ?_ | refine bl_alloc ?_ _ | refine bl_set ?_ (by dsimp only; omega) _))⟩

theorem iAdd_is (w : World) (e0 : Addr) (he : EG w e0) (n d m e : Int) (p q : Nat) (c : Bool) (hp : plusS n d m e = (p, q)) (hb : plusB n d m e = c) :
    Calls Tryd.prog 8 #[.agg #[.int .i64 n, .int .i64 d], .agg #[.int .i64 m, .int .i64 e]] w (MkRes p q c w) := by
  have HE := Lib.hid he
  clear he
  cases ha : shB n d
  · have hpb : plusB n d m e = false := by unfold plusB; rw [ha]; rfl
    obtain rfl : c = false := by rw [← hb]; exact hpb
    rw [plus_no hpb] at hp
    obtain ⟨rfl, rfl⟩ := Prod.mk.inj hp
    clear hp hb hpb
    have HC := Lib.hid (fun W : World => iShare_is W n d false ha)
    clear ha
    go_enter Tryd.func8, Tryd.ntmps8
    go_wp2_with fail
    refine (HC.out _).mono ?_
    rintro e w1 ⟨rfl, hb1⟩
    have HB := Lib.hid (bl_trans (bl_alloc (bl_alloc (bl_alloc (Below.refl _ w) _) _) _) hb1)
    have bR := Lib.hid ((Blk.new ((w.alloc (.cells #[.int .i64 n, .int .i64 d] 27)).alloc (.cells #[.int .i64 m, .int .i64 e] 27)) 27 #[.int .i64 0, .int .i64 0]).below hb1 (by simp))
    have bR' : Hid (Blk w1 (w.heap.size + 1 + 1) 27 #[.int .i64 0, .int .i64 0]) := by have h := bR.out; simp only [World.size_alloc] at h; exact h
    clear bR
    have cR0 := bR'.out.cell
    have fR0 := bR'.out.frozen
    have cR := fun k => (bR'.out.drewN k).cell
    have fR := fun k => (bR'.out.drewN k).frozen
    clear hb1 HC
    go_wp2
    (try go_region)
    all_goals (try go_wp2)
    all_goals refine bodyPost_ret (v := .tuple #[.agg #[.int .i64 0, .int .i64 0], .bool false]) (by simp [results, Tryd.results8, go_sem, cR0]) rfl ⟨rfl, (by repeat (first | exact HB.out | refine bl_drewN ?_ _ | refine Below.drew ?_ | refine bl_alloc ?_ _ | refine bl_set ?_ (by dsimp only; omega) _))⟩
  cases hc : shB m e
  · have hpb : plusB n d m e = false := by unfold plusB; rw [hc]; simp
    obtain rfl : c = false := by rw [← hb]; exact hpb
    rw [plus_no hpb] at hp
    obtain ⟨rfl, rfl⟩ := Prod.mk.inj hp
    clear hp hb hpb
    have HC := Lib.hid (fun W : World => iShare_is W n d true ha)
    have HD := Lib.hid (fun W : World => iShare_is W m e false hc)
    clear ha hc
    go_enter Tryd.func8, Tryd.ntmps8
    go_wp2_with fail
    refine (HC.out _).mono ?_
    rintro e0 w1 ⟨rfl, hb1⟩
    have HB1 := Lib.hid (bl_trans (bl_alloc (bl_alloc (bl_alloc (Below.refl _ w) _) _) _) hb1)
    have hs1 := hb1.size
    simp at hs1
    have b1 := Lib.hid (((Blk.new w 27 #[.int .i64 n, .int .i64 d]).alloc (.cells #[.int .i64 m, .int .i64 e] 27)).alloc (.cells #[.int .i64 0, .int .i64 0] 27) |>.below hb1 (by simp; omega))
    have b2 := Lib.hid ((Blk.new (w.alloc (.cells #[.int .i64 n, .int .i64 d] 27)) 27 #[.int .i64 m, .int .i64 e]).alloc (.cells #[.int .i64 0, .int .i64 0] 27) |>.below hb1 (by simp))
    have c1 := b1.out.cell
    have c2 := b2.out.cell
    simp only [World.size_alloc] at c2
    have bR := Lib.hid ((Blk.new ((w.alloc (.cells #[.int .i64 n, .int .i64 d] 27)).alloc (.cells #[.int .i64 m, .int .i64 e] 27)) 27 #[.int .i64 0, .int .i64 0]).below hb1 (by simp))
    have bR' : Hid (Blk w1 (w.heap.size + 1 + 1) 27 #[.int .i64 0, .int .i64 0]) := by have h := bR.out; simp only [World.size_alloc] at h; exact h
    clear bR
    clear hb1 HC
    go_wp2_with fail
    refine (HD.out _).mono ?_
    rintro e0 w2 ⟨rfl, hb2⟩
    have HB := Lib.hid (bl_trans HB1.out hb2)
    have bR' := Lib.hid (bR'.out.below hb2 (by omega))
    have cR0 := bR'.out.cell
    have fR0 := bR'.out.frozen
    have cR := fun k => (bR'.out.drewN k).cell
    have fR := fun k => (bR'.out.drewN k).frozen
    clear hb2 HD HB1
    go_wp2
    (try go_region)
    all_goals (try go_wp2)
    all_goals refine bodyPost_ret (v := .tuple #[.agg #[.int .i64 0, .int .i64 0], .bool false]) (by simp [results, Tryd.results8, go_sem, cR0]) rfl ⟨rfl, (by repeat (first | exact HB.out | refine bl_drewN ?_ _ | refine Below.drew ?_ | refine bl_alloc ?_ _ | refine bl_set ?_ (by dsimp only; omega) _))⟩
  obtain ⟨a, b, rfl, rfl, hA⟩ := sh_of ha
  obtain ⟨x, y, rfl, rfl, hX⟩ := sh_of hc
  have HC := Lib.hid (fun W : World => iShare_is W a b true ha)
  have HD := Lib.hid (fun W : World => iShare_is W x y true hc)
  obtain ⟨a0, a1, a2, a3⟩ := hA
  obtain ⟨x0, x1, x2, x3⟩ := hX
  have HA := Lib.hid (show Sh a b from ⟨a0, a1, a2, a3⟩)
  have HX := Lib.hid (show Sh x y from ⟨x0, x1, x2, x3⟩)
  clear ha hc a3 x3
  obtain ⟨hq1, hq2⟩ := plus_sh HA.out HX.out
  rw [hq1] at hb
  rw [hq2] at hp
  obtain ⟨l, hl⟩ : ∃ l, a * y = l := ⟨_, rfl⟩
  obtain ⟨r, hr⟩ : ∃ r, x * b = r := ⟨_, rfl⟩
  obtain ⟨k, hk⟩ : ∃ k, b * y = k := ⟨_, rfl⟩
  have l1 := mul_le9 hl a1 x2
  have r1 := mul_le9 hr x1 a2
  have k1 := mul_le9 hk a2 x2
  have k0 : 1 ≤ k := by rw [← hk]; exact Nat.mul_pos a0 x0
  have HK := Lib.hid (fun W : World => cross_is W a b x y l r hl hr l1 r1 a1 a2 x1 x2)
  have hadd : addN (a, b) (x, y) = redN (l + r) k := by unfold addN; dsimp only; rw [hl, hr, hk]
  have qk := mul_cast b y k hk
  rw [hadd] at hp
  unfold addB at hb
  rw [hadd] at hb
  clear hl hr hk hq1 hq2
  obtain ⟨u, v, huv⟩ : ∃ u v, redN (l + r) k = (u, v) := ⟨_, _, rfl⟩
  have hzb : addB (a, b) (x, y) = (decide (u ≤ 1000000000) && decide (v ≤ 1000000000)) := by unfold addB; rw [hadd, huv]
  rw [huv] at hb hp
  rw [hzb] at hp
  dsimp only at hb hp
  by_cases hz : u ≤ 1000000000 ∧ v ≤ 1000000000
  · obtain rfl : c = true := by rw [← hb]; simp [hz]
    rw [show (decide (u ≤ 1000000000) && decide (v ≤ 1000000000)) = true by simp [hz]] at hp
    obtain ⟨rfl, rfl⟩ := Prod.mk.inj (show (u, v) = (p, q) from hp)
    obtain ⟨z1, z2⟩ := hz
    have HL := Lib.hid (fun (W : World) (s t : Int) (h1 : s = ((l + r : Nat) : Int)) (h2 : t = (k : Int)) => lowest_fits W s t (l + r) k u v h1 h2 (by omega) k0 (by omega) huv z1 z2)
    clear hp hb hzb hadd huv
    go_enter Tryd.func8, Tryd.ntmps8
    go_wp2_with fail
    refine (HC.out _).mono ?_
    rintro e0 w1 ⟨rfl, hb1⟩
    have HB1 := Lib.hid (bl_trans (bl_alloc (bl_alloc (bl_alloc (Below.refl _ w) _) _) _) hb1)
    have hs1 := hb1.size
    simp at hs1
    have b1 := Lib.hid (((Blk.new w 27 #[.int .i64 (a : Int), .int .i64 (b : Int)]).alloc (.cells #[.int .i64 (x : Int), .int .i64 (y : Int)] 27)).alloc (.cells #[.int .i64 0, .int .i64 0] 27) |>.below hb1 (by simp; omega))
    have b2 := Lib.hid ((Blk.new (w.alloc (.cells #[.int .i64 (a : Int), .int .i64 (b : Int)] 27)) 27 #[.int .i64 (x : Int), .int .i64 (y : Int)]).alloc (.cells #[.int .i64 0, .int .i64 0] 27) |>.below hb1 (by simp))
    have b2' : Hid (Blk w1 (w.heap.size + 1) 27 #[.int .i64 (x : Int), .int .i64 (y : Int)]) := by have h := b2.out; simp only [World.size_alloc] at h; exact h
    have c1 := b1.out.cell
    have c2 := b2'.out.cell
    have bR := Lib.hid ((Blk.new ((w.alloc (.cells #[.int .i64 (a : Int), .int .i64 (b : Int)] 27)).alloc (.cells #[.int .i64 (x : Int), .int .i64 (y : Int)] 27)) 27 #[.int .i64 0, .int .i64 0]).below hb1 (by simp))
    have bR' : Hid (Blk w1 (w.heap.size + 1 + 1) 27 #[.int .i64 0, .int .i64 0]) := by have h := bR.out; simp only [World.size_alloc] at h; exact h
    clear bR
    clear hb1 HC b2
    go_wp2_with fail
    refine (HD.out _).mono ?_
    rintro e0 w2 ⟨rfl, hb2⟩
    have HB2 := Lib.hid (bl_trans HB1.out hb2)
    have hs2 := hb2.size
    have d1 := Lib.hid (b1.out.below hb2 (by omega))
    have d2 := Lib.hid (b2'.out.below hb2 (by omega))
    have bR2 := Lib.hid (bR'.out.below hb2 (by omega))
    clear bR'
    clear hb2 HD HB1 c1 c2 b1 b2'
    have c1 := d1.out.cell
    have c2 := d2.out.cell
    go_wp2_with fail
    refine (HK.out _).mono ?_
    rintro e1 w3 ⟨rfl, hb3⟩
    have HB3 := Lib.hid (bl_trans HB2.out hb3)
    have hs3 := hb3.size
    have f1 := Lib.hid (d1.out.below hb3 (by omega))
    have f2 := Lib.hid (d2.out.below hb3 (by omega))
    have bR3 := Lib.hid (bR2.out.below hb3 (by omega))
    clear hb3 HK HB2 c1 c2 d1 d2 bR2
    have c1 := f1.out.cell
    have c2 := f2.out.cell
    go_wp2_with fail
    refine (HL.out _ _ _ (by first | rfl | (simp; done) | omega) (by first | rfl | exact qk | omega)).mono ?_
    rintro e1 w4 ⟨rfl, hb4⟩
    have HB4 := Lib.hid (bl_trans HB3.out hb4)
    have hE : EG w4 e0 := HE.out.below HB4.out
    unfold EG at hE
    have hs4 := hb4.size
    have bR' := Lib.hid (bR3.out.below hb4 (by omega))
    have hEo : ∀ o, EG (w4.alloc o) e0 := fun o => EG.alloc hE o
    unfold EG at hEo
    have cR0 := bR'.out.cell
    have fR0 := bR'.out.frozen
    have cRo := fun o => (bR'.out.alloc o).cell
    have fRo := fun o => (bR'.out.alloc o).frozen
    have hlR : w.heap.size + 1 + 1 < w4.heap.size := bR'.out.lt
    have cF := fun (s t : Value) o => (Blk.alloc ((bR'.out.set_ 0 s).set_ 1 t) o).cell
    clear hb4 HL HB3 c1 c2 f1 f2 bR3
    go_wp2_with fail
    refine (is_nil e0 _).mono ?_
    rintro e1 w5 ⟨rfl, rfl⟩
    have HB := HB4
    go_wp2
    (try go_region)
    all_goals (try go_wp2)
    all_goals refine bodyPost_ret (v := .tuple #[.agg #[.int .i64 (u : Int), .int .i64 (v : Int)], .bool true]) (by simp [results, Tryd.results8, go_sem, cF]) rfl ⟨rfl, (by repeat (first | exact HB.out | refine bl_drewN ?_ _ | refine Below.drew ?_ | refine bl_alloc ?_ _ | refine bl_set ?_ (by dsimp only; omega) _))⟩
  · obtain rfl : c = false := by rw [← hb]; simp; omega
    rw [show (decide (u ≤ 1000000000) && decide (v ≤ 1000000000)) = false by simp; omega] at hp
    obtain ⟨rfl, rfl⟩ := Prod.mk.inj (show (0, 0) = (p, q) from hp)
    have HL := Lib.hid (fun (W : World) (he : EG W e0) (s t : Int) (h1 : s = ((l + r : Nat) : Int)) (h2 : t = (k : Int)) => lowest_great W e0 he s t (l + r) k u v h1 h2 (by omega) k0 (by omega) huv (by omega))
    clear hp hb hzb hadd huv hz
    go_enter Tryd.func8, Tryd.ntmps8
    go_wp2_with fail
    refine (HC.out _).mono ?_
    rintro e0 w1 ⟨rfl, hb1⟩
    have HB1 := Lib.hid (bl_trans (bl_alloc (bl_alloc (bl_alloc (Below.refl _ w) _) _) _) hb1)
    have hs1 := hb1.size
    simp at hs1
    have b1 := Lib.hid (((Blk.new w 27 #[.int .i64 (a : Int), .int .i64 (b : Int)]).alloc (.cells #[.int .i64 (x : Int), .int .i64 (y : Int)] 27)).alloc (.cells #[.int .i64 0, .int .i64 0] 27) |>.below hb1 (by simp; omega))
    have b2 := Lib.hid ((Blk.new (w.alloc (.cells #[.int .i64 (a : Int), .int .i64 (b : Int)] 27)) 27 #[.int .i64 (x : Int), .int .i64 (y : Int)]).alloc (.cells #[.int .i64 0, .int .i64 0] 27) |>.below hb1 (by simp))
    have b2' : Hid (Blk w1 (w.heap.size + 1) 27 #[.int .i64 (x : Int), .int .i64 (y : Int)]) := by have h := b2.out; simp only [World.size_alloc] at h; exact h
    have c1 := b1.out.cell
    have c2 := b2'.out.cell
    have bR := Lib.hid ((Blk.new ((w.alloc (.cells #[.int .i64 (a : Int), .int .i64 (b : Int)] 27)).alloc (.cells #[.int .i64 (x : Int), .int .i64 (y : Int)] 27)) 27 #[.int .i64 0, .int .i64 0]).below hb1 (by simp))
    have bR' : Hid (Blk w1 (w.heap.size + 1 + 1) 27 #[.int .i64 0, .int .i64 0]) := by have h := bR.out; simp only [World.size_alloc] at h; exact h
    clear bR
    clear hb1 HC b2
    go_wp2_with fail
    refine (HD.out _).mono ?_
    rintro e0 w2 ⟨rfl, hb2⟩
    have HB2 := Lib.hid (bl_trans HB1.out hb2)
    have hs2 := hb2.size
    have d1 := Lib.hid (b1.out.below hb2 (by omega))
    have d2 := Lib.hid (b2'.out.below hb2 (by omega))
    have bR2 := Lib.hid (bR'.out.below hb2 (by omega))
    clear bR'
    clear hb2 HD HB1 c1 c2 b1 b2'
    have c1 := d1.out.cell
    have c2 := d2.out.cell
    go_wp2_with fail
    refine (HK.out _).mono ?_
    rintro e1 w3 ⟨rfl, hb3⟩
    have HB3 := Lib.hid (bl_trans HB2.out hb3)
    have hs3 := hb3.size
    have f1 := Lib.hid (d1.out.below hb3 (by omega))
    have f2 := Lib.hid (d2.out.below hb3 (by omega))
    have bR3 := Lib.hid (bR2.out.below hb3 (by omega))
    clear hb3 HK HB2 c1 c2 d1 d2 bR2
    have c1 := f1.out.cell
    have c2 := f2.out.cell
    go_wp2_with fail
    refine (HL.out _ (HE.out.below HB3.out) _ _ (by first | rfl | (simp; done) | omega) (by first | rfl | exact qk | omega)).mono ?_
    rintro e1 w4 ⟨rfl, hb4⟩
    have HB4 := Lib.hid (bl_trans HB3.out hb4)
    have hE : EG w4 e0 := HE.out.below HB4.out
    unfold EG at hE
    have hs4 := hb4.size
    have bR' := Lib.hid (bR3.out.below hb4 (by omega))
    have hEo : ∀ o, EG (w4.alloc o) e0 := fun o => EG.alloc hE o
    unfold EG at hEo
    have cR0 := bR'.out.cell
    have fR0 := bR'.out.frozen
    have cRo := fun o => (bR'.out.alloc o).cell
    have fRo := fun o => (bR'.out.alloc o).frozen
    have hlR : w.heap.size + 1 + 1 < w4.heap.size := bR'.out.lt
    have cF := fun (s t : Value) o => (Blk.alloc ((bR'.out.set_ 0 s).set_ 1 t) o).cell
    clear hb4 HL HB3 c1 c2 f1 f2 bR3
    go_wp2_with fail
    refine (is_same e0 _).mono ?_
    rintro e1 w5 ⟨rfl, rfl⟩
    have HB := HB4
    go_wp2
    (try go_region)
    all_goals (try go_wp2)
    all_goals refine bodyPost_ret (v := .tuple #[.agg #[.int .i64 0, .int .i64 0], .bool false]) (by simp [results, Tryd.results8, go_sem, cF]) rfl ⟨rfl, (by repeat (first | exact HB.out | refine bl_drewN ?_ _ | refine Below.drew ?_ | refine bl_alloc ?_ _ | refine bl_set ?_ (by dsimp only; omega) _))⟩
end

section
/- Contract of the reference's sum of two shares. Nothing that was there is written. -/
open Go.RowKit
set_option linter.unusedVariables false
end

section
/- Contract of the reference's AddShares. Nothing that was there is written. -/
open Go.RowKit
set_option linter.unusedVariables false
end

section
/- Shares of tasks: sums of fractions over lists of tasks. No program in this text. -/
/-- The part of one task; the share of all tasks of a kind; the share of the critical ones with their high needs. -/
def part (t : Tk) : Nat × Nat := redN t.lo.toNat t.ev.toNat
def lowL (ts : List Tk) (c : Bool) : Nat × Nat := sumN ((ts.filter fun t => t.cr == c).map part)
def lowOf (ts : List Tk) (c : Bool) : Nat × Nat := if setB ts then lowL ts c else (0, 0)
def highOf (ts : List Tk) : Nat × Nat := if setB ts then lowL (critL ts) true else (0, 0)

theorem ok_of_set {ts : List Tk} {t : Tk} (h : setB ts = true) (ht : t ∈ ts) : t.ok = true := by
  unfold setB at h
  simp at h
  exact h.2 t ht
theorem ok_nums {t : Tk} (h : t.ok = true) : 1 ≤ t.lo ∧ t.lo ≤ t.hi ∧ t.hi ≤ t.ev ∧ t.ev ≤ 20 := by
  unfold Tk.ok validB at h
  simp at h
  omega
theorem part_facts {t : Tk} (h : t.ok = true) : 0 < (part t).2 ∧ (part t).2 ≤ 20 ∧ (part t).1 ≤ (part t).2 ∧ 0 < (part t).1 := by
  obtain ⟨a, b, c, d⟩ := ok_nums h
  have h1 : 0 < t.ev.toNat := by omega
  refine ⟨red_pos h1, Nat.le_trans (red_le_den _ _) (by omega), ?_, ?_⟩
  · unfold part redN
    exact Nat.div_le_div_right (by omega)
  · have := red_zero (n := t.lo.toNat) h1
    unfold part
    omega
theorem parts_facts {ts : List Tk} (c : Bool) (h : ∀ t ∈ ts, t.ok = true) : ∀ x ∈ (ts.filter fun t => t.cr == c).map part, 0 < x.2 ∧ x.2 ≤ 20 ∧ x.1 ≤ x.2 := by
  intro x hx
  obtain ⟨t, ht, rfl⟩ := List.mem_map.1 hx
  obtain ⟨p1, p2, p3, _⟩ := part_facts (h t (List.mem_filter.1 ht).1)
  exact ⟨p1, p2, p3⟩
theorem lowL_sh {ts : List Tk} (c : Bool) (hl : ts.length ≤ 5) (h : ∀ t ∈ ts, t.ok = true) : Sh (lowL ts c).1 (lowL ts c).2 ∧ (lowL ts c).1 ≤ 16000000 ∧ (lowL ts c).2 ≤ 3200000 := by
  have hp := parts_facts c h
  have p1 : 0 < (lowL ts c).2 := sum_pos fun x hx => (hp x hx).1
  have p2 : Nat.Coprime (lowL ts c).1 (lowL ts c).2 := sum_cop fun x hx => (hp x hx).1
  obtain ⟨b1, b2⟩ := sum_bound hp
  have hn : ((ts.filter fun t => t.cr == c).map part).length ≤ 5 := by
    rw [List.length_map]; exact Nat.le_trans (List.length_filter_le _ _) hl
  have c1 : (lowL ts c).2 ≤ 3200000 := Nat.le_trans b1 (Nat.le_trans (Nat.pow_le_pow_right (by omega) hn) (by decide))
  have c2 : (lowL ts c).1 ≤ 5 * (lowL ts c).2 := Nat.le_trans b2 (Nat.mul_le_mul_right _ hn)
  exact ⟨⟨p1, by omega, by omega, p2⟩, by omega, c1⟩
theorem setB_all {ts : List Tk} (h : setB ts = true) : ts.length ≤ 5 ∧ ∀ t ∈ ts, t.ok = true := by
  unfold setB at h
  simp at h
  exact h
theorem lowOf_sh {ts : List Tk} (c : Bool) (h : setB ts = true) : Sh (lowOf ts c).1 (lowOf ts c).2 ∧ (lowOf ts c).1 ≤ 16000000 ∧ (lowOf ts c).2 ≤ 3200000 := by
  obtain ⟨a, b⟩ := setB_all h
  unfold lowOf
  rw [if_pos h]
  exact lowL_sh c a b
theorem lowOf_bad {ts : List Tk} (c : Bool) (h : setB ts = false) : lowOf ts c = (0, 0) := by unfold lowOf; rw [h]; rfl
theorem highOf_bad {ts : List Tk} (h : setB ts = false) : highOf ts = (0, 0) := by unfold highOf; rw [h]; rfl
theorem crit_ok {ts : List Tk} (h : ∀ t ∈ ts, t.ok = true) : ∀ t ∈ critL ts, t.ok = true := by
  intro t ht
  obtain ⟨u, hu, _, rfl⟩ := critL_mem ht
  exact ok_crit (h u hu)
theorem highOf_low {ts us : List Tk} (hs : setB ts = true) (hu : us = critOf ts) : lowOf us true = highOf ts := by
  have hu' : us = critL ts := by rw [hu]; simp [critOf, hs]
  unfold lowOf highOf
  rw [(crit_facts hs hu).1, hs, hu']
theorem highOf_sh {ts : List Tk} (h : setB ts = true) : Sh (highOf ts).1 (highOf ts).2 ∧ (highOf ts).1 ≤ 16000000 ∧ (highOf ts).2 ≤ 3200000 := by
  rw [← highOf_low h rfl]
  exact lowOf_sh true (crit_facts h rfl).1
theorem lowL_yes {ts : List Tk} {c : Bool} {k : Nat} {t : Tk} (h : ts[k]? = some t) (hc : t.cr = c) : lowL (ts.take (k + 1)) c = addN (lowL (ts.take k) c) (part t) := by
  obtain ⟨hk, rfl⟩ := List.getElem?_eq_some_iff.1 h
  unfold lowL sumN
  rw [List.take_succ_eq_append_getElem hk, List.filter_append, List.filter_cons]
  simp [hc, List.foldl_append]
theorem lowL_no {ts : List Tk} {c : Bool} {k : Nat} {t : Tk} (h : ts[k]? = some t) (hc : ¬ t.cr = c) : lowL (ts.take (k + 1)) c = lowL (ts.take k) c := by
  obtain ⟨hk, rfl⟩ := List.getElem?_eq_some_iff.1 h
  unfold lowL
  rw [List.take_succ_eq_append_getElem hk, List.filter_append, List.filter_cons]
  simp [hc]
theorem lowL_take_sh {ts : List Tk} (c : Bool) (k : Nat) (h : setB ts = true) : Sh (lowL (ts.take k) c).1 (lowL (ts.take k) c).2 ∧ (lowL (ts.take k) c).1 ≤ 16000000 ∧ (lowL (ts.take k) c).2 ≤ 3200000 := by
  obtain ⟨a, b⟩ := setB_all h
  exact lowL_sh c (by rw [List.length_take]; omega) fun t ht => b t (List.mem_of_mem_take ht)

/-- One round of the sum. -/
theorem low_step {ts : List Tk} {c : Bool} {k : Nat} {t : Tk} {u v : Nat} (hs : setB ts = true) (ht : ts[k]? = some t) (hc : t.cr = c) (huv : lowL (ts.take k) c = (u, v)) :
    ∃ x y u' v' : Nat, mkS t.lo t.ev = (x, y) ∧ mkB t.lo t.ev = true ∧ plusB u v x y = true ∧ plusS u v x y = (u', v') ∧ lowL (ts.take (k + 1)) c = (u', v') ∧ Sh u v ∧ Sh x y := by
  obtain ⟨a, b⟩ := setB_all hs
  have hok := b t (List.mem_of_getElem? ht)
  obtain ⟨n1, n2, n3, n4⟩ := ok_nums hok
  have hm : mkB t.lo t.ev = true := by unfold mkB; simp; omega
  have hp : mkS t.lo t.ev = part t := by unfold mkS; rw [hm]; rfl
  have s1 := (lowL_take_sh c k hs).1
  have s2 := lowL_take_sh c (k + 1) hs
  rw [lowL_yes ht hc] at s2
  have s3 : Sh (part t).1 (part t).2 := by
    have e : part t = redN t.lo.toNat t.ev.toNat := rfl
    rw [e]
    exact sh_red (by omega) (by omega) (by omega)
  rw [huv] at s1 s2
  dsimp only at s1
  obtain ⟨e1, e2⟩ := plus_sh s1 s3
  have hb : addB (u, v) ((part t).1, (part t).2) = true := by
    unfold addB
    simp
    exact ⟨s2.1.num, s2.1.den⟩
  refine ⟨(part t).1, (part t).2, (addN (u, v) (part t)).1, (addN (u, v) (part t)).2, hp, hm, e1.trans hb, ?_, ?_, s1, s3⟩
  · rw [e2, hb]; rfl
  · rw [lowL_yes ht hc, huv]

/-- What the laws say. -/
theorem crit_parts (ts : List Tk) : lowL (critL ts) true = sumN ((ts.filter fun t => t.cr == true).map fun t => redN t.hi.toNat t.ev.toNat) := by
  unfold lowL critL
  congr 1
  induction ts with
  | nil => rfl
  | cons t ts ih =>
    cases hc : t.cr
    · simp only [List.filter_cons, hc]
      simpa using ih
    · simp only [List.filter_cons, hc]
      simp only [if_true, List.filter_cons, List.map_cons]
      simp only [hc, beq_self_eq_true, if_true, List.map_cons]
      rw [ih]
      rfl
theorem low_le_high {ts : List Tk} (h : setB ts = true) : leN (lowOf ts true) (highOf ts) := by
  obtain ⟨_, b⟩ := setB_all h
  unfold lowOf highOf
  rw [if_pos h, if_pos h, crit_parts]
  unfold lowL
  refine sum_mono part _ _ fun t ht => ?_
  obtain ⟨n1, n2, n3, n4⟩ := ok_nums (b t (List.mem_filter.1 ht).1)
  have h1 : 0 < t.ev.toNat := by omega
  refine ⟨red_pos h1, red_pos h1, ?_⟩
  unfold part redN leN
  have e1 := red_same t.lo.toNat t.ev.toNat
  have e2 := red_same t.hi.toNat t.ev.toNat
  unfold redN at e1 e2
  dsimp only at e1 e2 ⊢
  refine Nat.le_of_mul_le_mul_right ?_ (Nat.mul_pos h1 h1)
  calc _ = (t.lo.toNat / t.lo.toNat.gcd t.ev.toNat * t.ev.toNat) * (t.ev.toNat / t.hi.toNat.gcd t.ev.toNat * t.ev.toNat) := by ac_rfl
    _ = (t.lo.toNat * (t.ev.toNat / t.lo.toNat.gcd t.ev.toNat)) * (t.ev.toNat / t.hi.toNat.gcd t.ev.toNat * t.ev.toNat) := by rw [e1]
    _ ≤ (t.hi.toNat * (t.ev.toNat / t.lo.toNat.gcd t.ev.toNat)) * (t.ev.toNat / t.hi.toNat.gcd t.ev.toNat * t.ev.toNat) := Nat.mul_le_mul_right _ (Nat.mul_le_mul_right _ (by omega))
    _ = (t.hi.toNat * (t.ev.toNat / t.hi.toNat.gcd t.ev.toNat)) * ((t.ev.toNat / t.lo.toNat.gcd t.ev.toNat) * t.ev.toNat) := by ac_rfl
    _ = (t.hi.toNat / t.hi.toNat.gcd t.ev.toNat * t.ev.toNat) * ((t.ev.toNat / t.lo.toNat.gcd t.ev.toNat) * t.ev.toNat) := by rw [e2]
    _ = _ := by ac_rfl
theorem high_zero {ts us : List Tk} (hs : setB ts = true) (hu : us = critOf ts) : ((highOf ts).1 = 0 ↔ us.length = 0) := by
  obtain ⟨_, b⟩ := setB_all hs
  have hu' : us = critL ts := by rw [hu]; simp [critOf, hs]
  have e : highOf ts = sumN ((us.filter fun t => t.cr == true).map part) := by unfold highOf lowL; rw [if_pos hs, hu']
  have ef : (us.filter fun t => t.cr == true) = us := by
    rw [List.filter_eq_self]
    intro t ht
    rw [hu'] at ht
    obtain ⟨u, _, hc, rfl⟩ := critL_mem ht
    simp [hc]
  rw [e, ef, sum_zero]
  · simp
  · intro x hx
    obtain ⟨t, ht, rfl⟩ := List.mem_map.1 hx
    obtain ⟨p1, _, _, p4⟩ := part_facts (crit_ok b t (hu' ▸ ht))
    exact ⟨p4, p1⟩
theorem lowL_app (xs ys : List Tk) (c : Bool) (h : ∀ t ∈ xs ++ ys, t.ok = true) : lowL (xs ++ ys) c = addN (lowL xs c) (lowL ys c) := by
  unfold lowL
  rw [List.filter_append, List.map_append]
  exact sum_app (fun x hx => (parts_facts c (fun t ht => h t (List.mem_append_left _ ht)) x hx).1) (fun x hx => (parts_facts c (fun t ht => h t (List.mem_append_right _ ht)) x hx).1)
theorem critL_app (xs ys : List Tk) : critL (xs ++ ys) = critL xs ++ critL ys := by unfold critL; simp
theorem low_parts {ts : List Tk} (c : Bool) (k : Nat) (h : setB ts = true) : lowOf ts c = addN (lowOf (ts.take k) c) (lowOf (ts.drop k) c) := by
  obtain ⟨a, b⟩ := setB_all h
  have h1 : setB (ts.take k) = true := by unfold setB at h ⊢; simp at h ⊢; exact ⟨by omega, fun t ht => h.2 t (List.mem_of_mem_take ht)⟩
  have h2 : setB (ts.drop k) = true := by unfold setB at h ⊢; simp at h ⊢; exact ⟨by omega, fun t ht => h.2 t (List.mem_of_mem_drop ht)⟩
  unfold lowOf
  rw [if_pos h, if_pos h1, if_pos h2]
  conv => lhs; rw [← List.take_append_drop k ts]
  exact lowL_app _ _ c (by rw [List.take_append_drop]; exact b)
theorem high_parts {ts : List Tk} (k : Nat) (h : setB ts = true) : highOf ts = addN (highOf (ts.take k)) (highOf (ts.drop k)) := by
  obtain ⟨a, b⟩ := setB_all h
  have h1 : setB (ts.take k) = true := by unfold setB at h ⊢; simp at h ⊢; exact ⟨by omega, fun t ht => h.2 t (List.mem_of_mem_take ht)⟩
  have h2 : setB (ts.drop k) = true := by unfold setB at h ⊢; simp at h ⊢; exact ⟨by omega, fun t ht => h.2 t (List.mem_of_mem_drop ht)⟩
  unfold highOf
  rw [if_pos h, if_pos h1, if_pos h2]
  conv => lhs; rw [← List.take_append_drop k ts, critL_app]
  refine lowL_app _ _ true ?_
  rw [← critL_app, List.take_append_drop]
  exact crit_ok b
theorem low_perm {xs ys : List Tk} (c : Bool) (hp : xs.Perm ys) (h : ∀ t ∈ xs, t.ok = true) : lowL xs c = lowL ys c := by
  unfold lowL
  exact sum_perm ((hp.filter _).map _) fun x hx => (parts_facts c h x hx).1
theorem crit_perm {xs ys : List Tk} (hp : xs.Perm ys) : (critL xs).Perm (critL ys) := (hp.filter _).map _

/-- One task alone. -/
theorem low_one {t : Tk} (h : t.ok = true) : lowL [t] t.cr = part t ∧ 0 < (part t).1 ∧ leN (part t) (1, 1) := by
  obtain ⟨p1, p2, p3, p4⟩ := part_facts h
  refine ⟨?_, p4, ?_⟩
  · unfold lowL
    simp [sumN]
    unfold addN
    simp
    obtain ⟨n1, n2, n3, n4⟩ := ok_nums h
    exact red_of_cop (red_cop (by omega))
  · unfold leN
    simpa using p3
theorem high_one {t : Tk} (h : t.ok = true) : leN (lowL (critL [t]) true) (1, 1) := by
  have hc : ∀ u ∈ critL [t], u.ok = true := crit_ok (ts := [t]) (by intro u hu; simp at hu; rw [hu]; exact h)
  have hl : (critL [t]).length ≤ 1 := critL_len [t]
  have hp := parts_facts true hc
  obtain ⟨b1, b2⟩ := sum_bound hp
  have hn : (((critL [t]).filter fun t => t.cr == true).map part).length ≤ 1 := by
    rw [List.length_map]; exact Nat.le_trans (List.length_filter_le _ _) hl
  unfold leN
  have : (lowL (critL [t]) true).1 ≤ 1 * (lowL (critL [t]) true).2 := Nat.le_trans b2 (Nat.mul_le_mul_right _ hn)
  simpa using this

/-- What the critical tasks need until all begin together again. -/
def needs (n : Nat) (ts : List Tk) : Nat := ((ts.filter Tk.cr).map fun t => n / t.ev.toNat * t.hi.toNat).sum
theorem needs_yes {ts : List Tk} {n k : Nat} {t : Tk} (h : ts[k]? = some t) (hc : t.cr = true) : needs n (ts.take (k + 1)) = needs n (ts.take k) + n / t.ev.toNat * t.hi.toNat := by
  obtain ⟨hk, rfl⟩ := List.getElem?_eq_some_iff.1 h
  unfold needs
  rw [List.take_succ_eq_append_getElem hk, List.filter_append, List.filter_cons]
  simp [hc]
theorem needs_no {ts : List Tk} {n k : Nat} {t : Tk} (h : ts[k]? = some t) (hc : t.cr = false) : needs n (ts.take (k + 1)) = needs n (ts.take k) := by
  obtain ⟨hk, rfl⟩ := List.getElem?_eq_some_iff.1 h
  unfold needs
  rw [List.take_succ_eq_append_getElem hk, List.filter_append, List.filter_cons]
  simp [hc]
theorem needs_le {ts : List Tk} (n : Nat) (h : ∀ t ∈ ts, t.ok = true) : needs n ts ≤ ts.length * n := by
  induction ts with
  | nil => simp [needs]
  | cons t ts ih =>
    have ih := ih fun u hu => h u (List.mem_cons_of_mem _ hu)
    obtain ⟨n1, n2, n3, n4⟩ := ok_nums (h t (by simp))
    unfold needs at ih ⊢
    rw [List.filter_cons, List.length_cons, Nat.add_mul]
    split
    · rw [List.map_cons, List.sum_cons]
      have : n / t.ev.toNat * t.hi.toNat ≤ n := Nat.le_trans (Nat.mul_le_mul_left _ (by omega : t.hi.toNat ≤ t.ev.toNat)) (Nat.div_mul_le_self _ _)
      omega
    · omega
theorem needs_share {ts : List Tk} {n : Nat} (hn : 0 < n) (h : ∀ t ∈ ts, t.ok = true) (hd : ∀ t ∈ ts, t.ev.toNat ∣ n) : lowL (critL ts) true = redN (needs n ts) n := by
  rw [crit_parts]
  have e0 : (ts.filter fun t => t.cr == true) = ts.filter Tk.cr := by congr 1; funext t; cases t.cr <;> rfl
  rw [e0]
  have hf : ∀ t ∈ ts.filter Tk.cr, 0 < t.ev.toNat := fun t ht => by have := ok_nums (h t (List.mem_filter.1 ht).1); omega
  have e1 : sumN ((ts.filter Tk.cr).map fun t => redN t.hi.toNat t.ev.toNat) = sumN ((ts.filter Tk.cr).map fun t => (t.hi.toNat, t.ev.toNat)) :=
    sum_rep _ _ _ fun t ht => ⟨red_pos (hf t ht), hf t ht, red_same _ _⟩
  rw [e1, sum_common hn]
  · unfold needs
    rw [List.map_map]
    rfl
  · intro x hx
    obtain ⟨t, ht, rfl⟩ := List.mem_map.1 hx
    exact ⟨hf t ht, hd t (List.mem_filter.1 ht).1⟩
end

end Go.Proofs.YtobkbbgllapcoabDoor
