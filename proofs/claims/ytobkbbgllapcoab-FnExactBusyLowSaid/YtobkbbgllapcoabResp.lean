/- Least windows that are enough: what a need that only grows with the window asks (no program text). -/
import Derived.Test.YtobkbbgllapcoabKit
namespace Go.Proofs.Ytobkbbgllapcoab
set_option linter.unusedVariables false

/-- How many jobs come within a window, times what each needs. -/
def demN (n e w : Nat) : Nat := (w + e - 1) / e * n
theorem dem_mono (n e : Nat) {v w : Nat} (h : v ≤ w) : demN n e v ≤ demN n e w :=
  Nat.mul_le_mul_right n (Nat.div_le_div_right (by omega))
theorem dem_need {n m : Nat} (e w : Nat) (h : n ≤ m) : demN n e w ≤ demN m e w := Nat.mul_le_mul_left _ h
theorem dem_zero (n : Nat) {e : Nat} (he : 1 ≤ e) : demN n e 0 = 0 := by
  unfold demN
  rw [Nat.div_eq_of_lt (by omega), Nat.zero_mul]
theorem dem_more (n : Nat) {e : Nat} (he : 1 ≤ e) (w : Nat) : demN n e (w + e) = demN n e w + n := by
  unfold demN
  have h : w + e + e - 1 = w + e - 1 + e := by omega
  rw [h, Nat.add_div_right _ (by omega), Nat.succ_mul]
theorem dem_one (n : Nat) {e : Nat} (he : 1 ≤ e) : demN n e 1 = n := by
  unfold demN
  have h : 1 + e - 1 = e := by omega
  rw [h, Nat.div_self (by omega), Nat.one_mul]
theorem dem_every (n : Nat) {e : Nat} (he : 1 ≤ e) : demN n e e = n := by
  have := dem_more n he 0
  rw [Nat.zero_add, dem_zero n he, Nat.zero_add] at this
  exact this
theorem dem_past (n : Nat) {e : Nat} (he : 1 ≤ e) : demN n e (e + 1) = 2 * n := by
  rw [Nat.add_comm, dem_more n he 1, dem_one n he, Nat.two_mul]
theorem dem_pos {n e : Nat} (hn : 1 ≤ n) (he : 1 ≤ e) {w : Nat} (hw : 1 ≤ w) : n ≤ demN n e w := by
  have := dem_mono n e hw
  rwa [dem_one n he] at this
theorem dem_eq_zero {n e : Nat} (hn : 1 ≤ n) (he : 1 ≤ e) {w : Nat} : demN n e w = 0 ↔ w = 0 := by
  constructor
  · intro h
    rcases Nat.eq_zero_or_pos w with h0 | h0
    · exact h0
    · have := dem_pos hn he h0
      omega
  · rintro rfl
    exact dem_zero n he
theorem dem_add (n : Nat) {e : Nat} (he : 1 ≤ e) (v w : Nat) : demN n e (v + w) ≤ demN n e v + demN n e w := by
  unfold demN
  rw [← Nat.add_mul]
  refine Nat.mul_le_mul_right n ?_
  have h1 := Nat.div_add_mod (v + e - 1) e
  have h2 := Nat.div_add_mod (w + e - 1) e
  have m1 := Nat.mod_lt (v + e - 1) (show e > 0 by omega)
  have m2 := Nat.mod_lt (w + e - 1) (show e > 0 by omega)
  refine Nat.le_of_lt_succ ((Nat.div_lt_iff_lt_mul (by omega)).2 ?_)
  generalize hx : (v + e - 1) / e = x at *
  generalize hy : (w + e - 1) / e = y at *
  have e3 : (x + y).succ * e = e * x + e * y + e := by rw [Nat.succ_mul, Nat.add_mul, Nat.mul_comm x, Nat.mul_comm y]
  rw [e3]
  omega
/-- A window's worth at least. -/
theorem dem_ge (n : Nat) {e : Nat} (he : 1 ≤ e) (w : Nat) : w * n ≤ demN n e w * e := by
  unfold demN
  have h1 := Nat.div_add_mod (w + e - 1) e
  have m1 := Nat.mod_lt (w + e - 1) (show e > 0 by omega)
  generalize (w + e - 1) / e = x at *
  have h2 : w ≤ e * x := by omega
  calc w * n ≤ e * x * n := Nat.mul_le_mul_right n h2
    _ = x * n * e := by ac_rfl

/-- No window from lo on and below w is enough. -/
def NoneBelow (F : Nat → Nat) (lo w : Nat) : Prop := lo ≤ w ∧ ∀ v, lo ≤ v → v < w → v < F v
/-- The least window from lo to hi that is enough. -/
def leastN (F : Nat → Nat) (lo hi : Nat) : Option Nat := (List.range (hi + 1)).find? fun w => decide (lo ≤ w) && decide (F w ≤ w)
theorem find_range {p : Nat → Bool} {n w : Nat} : (List.range n).find? p = some w ↔ w < n ∧ p w = true ∧ ∀ v, v < w → p v = false := by
  rw [List.find?_range_eq_some]
  simp
  constructor
  · rintro ⟨a, b, c⟩; exact ⟨b, a, c⟩
  · rintro ⟨a, b, c⟩; exact ⟨b, a, c⟩
theorem least_some {F : Nat → Nat} {lo hi w : Nat} : leastN F lo hi = some w ↔ lo ≤ w ∧ w ≤ hi ∧ F w ≤ w ∧ ∀ v, lo ≤ v → v < w → v < F v := by
  unfold leastN
  rw [find_range]
  constructor
  · rintro ⟨h1, h2, h3⟩
    rw [Bool.and_eq_true, decide_eq_true_iff, decide_eq_true_iff] at h2
    refine ⟨h2.1, by omega, h2.2, fun v hv hw => ?_⟩
    have := h3 v hw
    rw [decide_eq_true hv, Bool.true_and, decide_eq_false_iff_not] at this
    omega
  · rintro ⟨h1, h2, h3, h4⟩
    refine ⟨by omega, by rw [decide_eq_true h1, decide_eq_true h3]; rfl, fun v hv => ?_⟩
    by_cases hl : lo ≤ v
    · have := h4 v hl hv
      rw [decide_eq_false (show ¬ F v ≤ v by omega), Bool.and_false]
    · rw [decide_eq_false hl, Bool.false_and]
theorem least_none {F : Nat → Nat} {lo hi : Nat} : leastN F lo hi = none ↔ ∀ v, lo ≤ v → v ≤ hi → v < F v := by
  unfold leastN
  rw [List.find?_eq_none]
  constructor
  · intro h v h1 h2
    have := h v (List.mem_range.2 (by omega))
    rw [Bool.and_eq_true, decide_eq_true_iff, decide_eq_true_iff] at this
    have h3 : ¬ F v ≤ v := fun h3 => this ⟨h1, h3⟩
    omega
  · intro h v hv
    have hv := List.mem_range.1 hv
    rw [Bool.and_eq_true, decide_eq_true_iff, decide_eq_true_iff]
    rintro ⟨h1, h2⟩
    have := h v h1 (by omega)
    omega

theorem none_start (F : Nat → Nat) (lo : Nat) : NoneBelow F lo lo := ⟨Nat.le_refl _, fun v h1 h2 => by omega⟩
/-- At a window below which none is enough the need is no less than the window. -/
theorem none_le {F : Nat → Nat} {lo : Nat} (hm : ∀ v w, v ≤ w → F v ≤ F w) (hF : ∀ w, lo ≤ w → lo ≤ F w) {w : Nat} (h : NoneBelow F lo w) : w ≤ F w := by
  rcases Nat.lt_or_ge (F w) w with hlt | hge
  · have h1 := h.2 (F w) (hF w h.1) hlt
    have h2 := hm (F w) w (Nat.le_of_lt hlt)
    omega
  · exact hge
/-- One round: the need of a window below which none is enough is again such a window. -/
theorem none_step {F : Nat → Nat} {lo : Nat} (hm : ∀ v w, v ≤ w → F v ≤ F w) (hF : ∀ w, lo ≤ w → lo ≤ F w) {w : Nat} (h : NoneBelow F lo w) : NoneBelow F lo (F w) := by
  refine ⟨hF w h.1, fun v h1 h2 => ?_⟩
  rcases Nat.lt_or_ge v w with hv | hv
  · exact h.2 v h1 hv
  · exact Nat.lt_of_lt_of_le h2 (hm w v hv)
theorem least_hit {F : Nat → Nat} {lo hi w : Nat} (h : NoneBelow F lo w) (hw : w ≤ hi) (he : F w = w) : leastN F lo hi = some w :=
  least_some.2 ⟨h.1, hw, by omega, h.2⟩
theorem least_past {F : Nat → Nat} {lo hi w : Nat} (h : NoneBelow F lo w) (hw : hi < w) : leastN F lo hi = none :=
  least_none.2 fun v h1 h2 => h.2 v h1 (by omega)
/-- What is enough first is just enough. -/
theorem least_fix {F : Nat → Nat} {lo hi w : Nat} (hm : ∀ v w, v ≤ w → F v ≤ F w) (hF : ∀ w, lo ≤ w → lo ≤ F w) (h : leastN F lo hi = some w) : F w = w := by
  obtain ⟨h1, _, h3, h4⟩ := least_some.1 h
  have := none_le hm hF ⟨h1, h4⟩
  omega
/-- A need that is less at every window is met no later. -/
theorem least_less {F G : Nat → Nat} {lo lo' hi hi' w : Nat} (hG : ∀ v, lo ≤ v → v ≤ w → G v ≤ F v) (hl : lo' ≤ lo) (hh : hi ≤ hi') (h : leastN F lo hi = some w) : ∃ v, leastN G lo' hi' = some v ∧ v ≤ w := by
  obtain ⟨h1, h2, h3, _⟩ := least_some.1 h
  cases hg : leastN G lo' hi' with
  | none =>
    have := least_none.1 hg w (by omega) (by omega)
    have := hG w h1 (Nat.le_refl w)
    omega
  | some v =>
    refine ⟨v, rfl, ?_⟩
    obtain ⟨g1, g2, g3, g4⟩ := least_some.1 hg
    rcases Nat.lt_or_ge w v with hlt | hge
    · have := g4 w (by omega) hlt
      have := hG w h1 (Nat.le_refl w)
      omega
    · exact hge

/-- Needs that come in a list of (need, distance). -/
def sumD (ks : List (Nat × Nat)) (w : Nat) : Nat := (ks.map fun k => demN k.1 k.2 w).sum
theorem sumD_nil (w : Nat) : sumD [] w = 0 := rfl
theorem sumD_cons (k : Nat × Nat) (ks : List (Nat × Nat)) (w : Nat) : sumD (k :: ks) w = demN k.1 k.2 w + sumD ks w := rfl
theorem sumD_app (xs ys : List (Nat × Nat)) (w : Nat) : sumD (xs ++ ys) w = sumD xs w + sumD ys w := by
  unfold sumD
  rw [List.map_append, List.sum_append]
theorem sumD_snoc (ks : List (Nat × Nat)) (k : Nat × Nat) (w : Nat) : sumD (ks ++ [k]) w = sumD ks w + demN k.1 k.2 w := by
  rw [sumD_app, sumD_cons, sumD_nil, Nat.add_zero]
theorem sumD_mono : ∀ (ks : List (Nat × Nat)) {v w : Nat}, v ≤ w → sumD ks v ≤ sumD ks w
  | [], _, _, _ => Nat.le_refl _
  | k :: ks, v, w, h => by
    rw [sumD_cons, sumD_cons]
    exact Nat.add_le_add (dem_mono _ _ h) (sumD_mono ks h)
theorem sumD_perm {xs ys : List (Nat × Nat)} (h : xs.Perm ys) (w : Nat) : sumD xs w = sumD ys w := (h.map _).sum_nat
theorem sumD_sub {xs ys : List (Nat × Nat)} (h : xs.Sublist ys) (w : Nat) : sumD xs w ≤ sumD ys w := by
  induction h with
  | slnil => exact Nat.le_refl _
  | cons a _ ih => rw [sumD_cons]; omega
  | cons_cons a _ ih => rw [sumD_cons, sumD_cons]; omega
/-- What a list needs in no window. -/
theorem sumD_zero : ∀ {ks : List (Nat × Nat)}, (∀ k ∈ ks, 1 ≤ k.2) → sumD ks 0 = 0
  | [], _ => rfl
  | k :: ks, h => by
    rw [sumD_cons, dem_zero _ (h k (by simp)), sumD_zero fun x hx => h x (by simp [hx])]
theorem sumD_pos {ks : List (Nat × Nat)} (hn : ks ≠ []) (h : ∀ k ∈ ks, 1 ≤ k.1 ∧ 1 ≤ k.2) {w : Nat} (hw : 1 ≤ w) : 1 ≤ sumD ks w := by
  cases ks with
  | nil => exact absurd rfl hn
  | cons k ks =>
    rw [sumD_cons]
    obtain ⟨h1, h2⟩ := h k (by simp)
    have := dem_pos h1 h2 hw
    omega

end Go.Proofs.Ytobkbbgllapcoab
