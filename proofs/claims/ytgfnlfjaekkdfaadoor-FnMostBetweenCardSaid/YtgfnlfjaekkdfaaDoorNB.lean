/- Texts of this seat in one file: Resp, RespT, Least, RespU, Dem, RLow, SRLow, RHigh, LwK, RespS, OrdM, SOrd, SPut, Swi, SSwi, Hold, SCan, PHas, SCan2, Zm, SAsg, Zx, PFst, PCat, PCatT, OrdA, PCan, PAsg. -/
import Derived.Test.YtgfnlfjaekkdfaaDoorNA
import Derived.ScopeJumps
import Derived.WalkMore
import Derived.Shelf.Abstract
import Derived.RegionTactic
import Derived.Deep.RegionHeld3
import Derived.Deep.RegionLaw
import Derived.ChangeAlike
import Derived.Deep.QuietTactic
import Derived.BigQuiet
import Derived.Lib.AppendZeros
import Derived.Deep.RegionWith
namespace Go.Proofs.YtgfnlfjaekkdfaaDoor

section
/- Least windows that are enough: what a need that only grows with the window asks (no program text). -/
set_option linter.unusedVariables false

/-- How many jobs come within a window, times what each needs. -/
def demN (n e w : Nat) : Nat := (w + e - 1) / e * n
theorem dem_mono (n e : Nat) {v w : Nat} (h : v ≤ w) : demN n e v ≤ demN n e w :=
  Nat.mul_le_mul_right n (Nat.div_le_div_right (by omega))
theorem dem_need {n m : Nat} (e w : Nat) (h : n ≤ m) : demN n e w ≤ demN m e w := Nat.mul_le_mul_left _ h
theorem dem_zero (n : Nat) {e : Nat} (he : 1 ≤ e) : demN n e 0 = 0 := by
  unfold demN
  rw [Nat.div_eq_of_lt (by omega), Nat.zero_mul]
theorem dem_more (n : Nat) {e : Nat} (he : 1 ≤ e) (w : Nat) : demN n e (w + e) = demN n e w + n := by
  unfold demN
  have h : w + e + e - 1 = w + e - 1 + e := by omega
  rw [h, Nat.add_div_right _ (by omega), Nat.succ_mul]
theorem dem_one (n : Nat) {e : Nat} (he : 1 ≤ e) : demN n e 1 = n := by
  unfold demN
  have h : 1 + e - 1 = e := by omega
  rw [h, Nat.div_self (by omega), Nat.one_mul]
theorem dem_every (n : Nat) {e : Nat} (he : 1 ≤ e) : demN n e e = n := by
  have := dem_more n he 0
  rw [Nat.zero_add, dem_zero n he, Nat.zero_add] at this
  exact this
theorem dem_past (n : Nat) {e : Nat} (he : 1 ≤ e) : demN n e (e + 1) = 2 * n := by
  rw [Nat.add_comm, dem_more n he 1, dem_one n he, Nat.two_mul]
theorem dem_pos {n e : Nat} (hn : 1 ≤ n) (he : 1 ≤ e) {w : Nat} (hw : 1 ≤ w) : n ≤ demN n e w := by
  have := dem_mono n e hw
  rwa [dem_one n he] at this
theorem dem_eq_zero {n e : Nat} (hn : 1 ≤ n) (he : 1 ≤ e) {w : Nat} : demN n e w = 0 ↔ w = 0 := by
  constructor
  · intro h
    rcases Nat.eq_zero_or_pos w with h0 | h0
    · exact h0
    · have := dem_pos hn he h0
      omega
  · rintro rfl
    exact dem_zero n he
theorem dem_add (n : Nat) {e : Nat} (he : 1 ≤ e) (v w : Nat) : demN n e (v + w) ≤ demN n e v + demN n e w := by
  unfold demN
  rw [← Nat.add_mul]
  refine Nat.mul_le_mul_right n ?_
  have h1 := Nat.div_add_mod (v + e - 1) e
  have h2 := Nat.div_add_mod (w + e - 1) e
  have m1 := Nat.mod_lt (v + e - 1) (show e > 0 by omega)
  have m2 := Nat.mod_lt (w + e - 1) (show e > 0 by omega)
  refine Nat.le_of_lt_succ ((Nat.div_lt_iff_lt_mul (by omega)).2 ?_)
  generalize hx : (v + e - 1) / e = x at *
  generalize hy : (w + e - 1) / e = y at *
  have e3 : (x + y).succ * e = e * x + e * y + e := by rw [Nat.succ_mul, Nat.add_mul, Nat.mul_comm x, Nat.mul_comm y]
  rw [e3]
  omega
/-- A window's worth at least. -/
theorem dem_ge (n : Nat) {e : Nat} (he : 1 ≤ e) (w : Nat) : w * n ≤ demN n e w * e := by
  unfold demN
  have h1 := Nat.div_add_mod (w + e - 1) e
  have m1 := Nat.mod_lt (w + e - 1) (show e > 0 by omega)
  generalize (w + e - 1) / e = x at *
  have h2 : w ≤ e * x := by omega
  calc w * n ≤ e * x * n := Nat.mul_le_mul_right n h2
    _ = x * n * e := by ac_rfl

/-- No window from lo on and below w is enough. -/
def NoneBelow (F : Nat → Nat) (lo w : Nat) : Prop := lo ≤ w ∧ ∀ v, lo ≤ v → v < w → v < F v
/-- The least window from lo to hi that is enough. -/
def leastN (F : Nat → Nat) (lo hi : Nat) : Option Nat := (List.range (hi + 1)).find? fun w => decide (lo ≤ w) && decide (F w ≤ w)
theorem find_range {p : Nat → Bool} {n w : Nat} : (List.range n).find? p = some w ↔ w < n ∧ p w = true ∧ ∀ v, v < w → p v = false := by
  rw [List.find?_range_eq_some]
  simp
  constructor
  · rintro ⟨a, b, c⟩; exact ⟨b, a, c⟩
  · rintro ⟨a, b, c⟩; exact ⟨b, a, c⟩
theorem least_some {F : Nat → Nat} {lo hi w : Nat} : leastN F lo hi = some w ↔ lo ≤ w ∧ w ≤ hi ∧ F w ≤ w ∧ ∀ v, lo ≤ v → v < w → v < F v := by
  unfold leastN
  rw [find_range]
  constructor
  · rintro ⟨h1, h2, h3⟩
    rw [Bool.and_eq_true, decide_eq_true_iff, decide_eq_true_iff] at h2
    refine ⟨h2.1, by omega, h2.2, fun v hv hw => ?_⟩
    have := h3 v hw
    rw [decide_eq_true hv, Bool.true_and, decide_eq_false_iff_not] at this
    omega
  · rintro ⟨h1, h2, h3, h4⟩
    refine ⟨by omega, by rw [decide_eq_true h1, decide_eq_true h3]; rfl, fun v hv => ?_⟩
    by_cases hl : lo ≤ v
    · have := h4 v hl hv
      rw [decide_eq_false (show ¬ F v ≤ v by omega), Bool.and_false]
    · rw [decide_eq_false hl, Bool.false_and]
theorem least_none {F : Nat → Nat} {lo hi : Nat} : leastN F lo hi = none ↔ ∀ v, lo ≤ v → v ≤ hi → v < F v := by
  unfold leastN
  rw [List.find?_eq_none]
  constructor
  · intro h v h1 h2
    have := h v (List.mem_range.2 (by omega))
    rw [Bool.and_eq_true, decide_eq_true_iff, decide_eq_true_iff] at this
    have h3 : ¬ F v ≤ v := fun h3 => this ⟨h1, h3⟩
    omega
  · intro h v hv
    have hv := List.mem_range.1 hv
    rw [Bool.and_eq_true, decide_eq_true_iff, decide_eq_true_iff]
    rintro ⟨h1, h2⟩
    have := h v h1 (by omega)
    omega

theorem none_start (F : Nat → Nat) (lo : Nat) : NoneBelow F lo lo := ⟨Nat.le_refl _, fun v h1 h2 => by omega⟩
/-- At a window below which none is enough the need is no less than the window. -/
theorem none_le {F : Nat → Nat} {lo : Nat} (hm : ∀ v w, v ≤ w → F v ≤ F w) (hF : ∀ w, lo ≤ w → lo ≤ F w) {w : Nat} (h : NoneBelow F lo w) : w ≤ F w := by
  rcases Nat.lt_or_ge (F w) w with hlt | hge
  · have h1 := h.2 (F w) (hF w h.1) hlt
    have h2 := hm (F w) w (Nat.le_of_lt hlt)
    omega
  · exact hge
/-- One round: the need of a window below which none is enough is again such a window. -/
theorem none_step {F : Nat → Nat} {lo : Nat} (hm : ∀ v w, v ≤ w → F v ≤ F w) (hF : ∀ w, lo ≤ w → lo ≤ F w) {w : Nat} (h : NoneBelow F lo w) : NoneBelow F lo (F w) := by
  refine ⟨hF w h.1, fun v h1 h2 => ?_⟩
  rcases Nat.lt_or_ge v w with hv | hv
  · exact h.2 v h1 hv
  · exact Nat.lt_of_lt_of_le h2 (hm w v hv)
theorem least_hit {F : Nat → Nat} {lo hi w : Nat} (h : NoneBelow F lo w) (hw : w ≤ hi) (he : F w = w) : leastN F lo hi = some w :=
  least_some.2 ⟨h.1, hw, by omega, h.2⟩
theorem least_past {F : Nat → Nat} {lo hi w : Nat} (h : NoneBelow F lo w) (hw : hi < w) : leastN F lo hi = none :=
  least_none.2 fun v h1 h2 => h.2 v h1 (by omega)
/-- What is enough first is just enough. -/
theorem least_fix {F : Nat → Nat} {lo hi w : Nat} (hm : ∀ v w, v ≤ w → F v ≤ F w) (hF : ∀ w, lo ≤ w → lo ≤ F w) (h : leastN F lo hi = some w) : F w = w := by
  obtain ⟨h1, _, h3, h4⟩ := least_some.1 h
  have := none_le hm hF ⟨h1, h4⟩
  omega
/-- A need that is less at every window is met no later. -/
theorem least_less {F G : Nat → Nat} {lo lo' hi hi' w : Nat} (hG : ∀ v, lo ≤ v → v ≤ w → G v ≤ F v) (hl : lo' ≤ lo) (hh : hi ≤ hi') (h : leastN F lo hi = some w) : ∃ v, leastN G lo' hi' = some v ∧ v ≤ w := by
  obtain ⟨h1, h2, h3, _⟩ := least_some.1 h
  cases hg : leastN G lo' hi' with
  | none =>
    have := least_none.1 hg w (by omega) (by omega)
    have := hG w h1 (Nat.le_refl w)
    omega
  | some v =>
    refine ⟨v, rfl, ?_⟩
    obtain ⟨g1, g2, g3, g4⟩ := least_some.1 hg
    rcases Nat.lt_or_ge w v with hlt | hge
    · have := g4 w (by omega) hlt
      have := hG w h1 (Nat.le_refl w)
      omega
    · exact hge

/-- Needs that come in a list of (need, distance). -/
def sumD (ks : List (Nat × Nat)) (w : Nat) : Nat := (ks.map fun k => demN k.1 k.2 w).sum
theorem sumD_nil (w : Nat) : sumD [] w = 0 := rfl
theorem sumD_cons (k : Nat × Nat) (ks : List (Nat × Nat)) (w : Nat) : sumD (k :: ks) w = demN k.1 k.2 w + sumD ks w := rfl
theorem sumD_app (xs ys : List (Nat × Nat)) (w : Nat) : sumD (xs ++ ys) w = sumD xs w + sumD ys w := by
  unfold sumD
  rw [List.map_append, List.sum_append]
theorem sumD_snoc (ks : List (Nat × Nat)) (k : Nat × Nat) (w : Nat) : sumD (ks ++ [k]) w = sumD ks w + demN k.1 k.2 w := by
  rw [sumD_app, sumD_cons, sumD_nil, Nat.add_zero]
theorem sumD_mono : ∀ (ks : List (Nat × Nat)) {v w : Nat}, v ≤ w → sumD ks v ≤ sumD ks w
  | [], _, _, _ => Nat.le_refl _
  | k :: ks, v, w, h => by
    rw [sumD_cons, sumD_cons]
    exact Nat.add_le_add (dem_mono _ _ h) (sumD_mono ks h)
theorem sumD_perm {xs ys : List (Nat × Nat)} (h : xs.Perm ys) (w : Nat) : sumD xs w = sumD ys w := (h.map _).sum_nat
theorem sumD_sub {xs ys : List (Nat × Nat)} (h : xs.Sublist ys) (w : Nat) : sumD xs w ≤ sumD ys w := by
  induction h with
  | slnil => exact Nat.le_refl _
  | cons a _ ih => rw [sumD_cons]; omega
  | cons_cons a _ ih => rw [sumD_cons, sumD_cons]; omega
/-- What a list needs in no window. -/
theorem sumD_zero : ∀ {ks : List (Nat × Nat)}, (∀ k ∈ ks, 1 ≤ k.2) → sumD ks 0 = 0
  | [], _ => rfl
  | k :: ks, h => by
    rw [sumD_cons, dem_zero _ (h k (by simp)), sumD_zero fun x hx => h x (by simp [hx])]
theorem sumD_pos {ks : List (Nat × Nat)} (hn : ks ≠ []) (h : ∀ k ∈ ks, 1 ≤ k.1 ∧ 1 ≤ k.2) {w : Nat} (hw : 1 ≤ w) : 1 ≤ sumD ks w := by
  cases ks with
  | nil => exact absurd rfl hn
  | cons k ks =>
    rw [sumD_cons]
    obtain ⟨h1, h2⟩ := h k (by simp)
    have := dem_pos h1 h2 hw
    omega
end

section
/- Responses of tasks as plain data: demands of lists of tasks, the least windows, what holds (no program text). -/
set_option linter.unusedVariables false

def dmd (t : Tk) (w : Nat) (h : Bool) : Nat := demN (if h then t.hi.toNat else t.lo.toNat) t.ev.toNat w
def dLow (ts : List Tk) (w : Nat) : Nat := (ts.map fun t => dmd t w false).sum
/-- What a task needs around a switch that comes within the window l. -/
def dmS (l w : Nat) (t : Tk) : Nat := if t.cr then dmd t w true else dmd t l false
def dSwi (ts : List Tk) (l w : Nat) : Nat := (ts.map (dmS l w)).sum

theorem ok_parts {t : Tk} (h : t.ok = true) : 1 ≤ t.lo ∧ t.lo ≤ t.hi ∧ t.hi ≤ t.du ∧ t.du ≤ t.ev ∧ t.ev ≤ 20 ∧ (t.cr = false → t.lo = t.hi) := by
  unfold Tk.ok validB at h
  simp only [Bool.and_eq_true, decide_eq_true_iff, Bool.or_eq_true, beq_iff_eq] at h
  refine ⟨h.1, h.2.1, h.2.2.1, h.2.2.2.1, h.2.2.2.2.1, fun hc => ?_⟩
  rcases h.2.2.2.2.2 with h | h
  · rw [h] at hc; cases hc
  · exact h
theorem set_ok {ts : List Tk} (h : setB ts = true) {t : Tk} (ht : t ∈ ts) : t.ok = true := by
  unfold setB at h
  rw [Bool.and_eq_true] at h
  exact List.all_eq_true.1 h.2 t ht
theorem get_mem {ts : List Tk} {k : Nat} {t : Tk} (h : ts[k]? = some t) : t ∈ ts := List.mem_of_getElem? h
theorem set_of {ts : List Tk} (hl : ts.length ≤ 5) (h : ∀ t ∈ ts, t.ok = true) : setB ts = true := by
  unfold setB
  rw [Bool.and_eq_true, decide_eq_true_iff]
  exact ⟨hl, List.all_eq_true.2 h⟩
theorem set_sub {xs ys : List Tk} (h : setB ys = true) (hs : xs.Sublist ys) : setB xs = true :=
  set_of (Nat.le_trans hs.length_le (setB_len h)) fun t ht => set_ok h (hs.subset ht)
theorem set_take {ts : List Tk} (h : setB ts = true) (k : Nat) : setB (ts.take k) = true := set_sub h (List.take_sublist k ts)
theorem set_drop {ts : List Tk} (h : setB ts = true) (k : Nat) : setB (ts.drop k) = true := set_sub h (List.drop_sublist k ts)

theorem dmd_mono (t : Tk) (h : Bool) {v w : Nat} (hv : v ≤ w) : dmd t v h ≤ dmd t w h := dem_mono _ _ hv
theorem dmd_bound {t : Tk} (ht : t.ok = true) (w : Nat) (h : Bool) : dmd t w h ≤ 20 * (w + 20) := by
  obtain ⟨h1, h2, h3, h4, h5, _⟩ := ok_parts ht
  unfold dmd demN
  have a : (w + t.ev.toNat - 1) / t.ev.toNat ≤ w + 20 := Nat.le_trans (Nat.div_le_self _ _) (by omega)
  have b : (if h then t.hi.toNat else t.lo.toNat) ≤ 20 := by split <;> omega
  calc _ ≤ (w + 20) * 20 := Nat.mul_le_mul a b
    _ = 20 * (w + 20) := Nat.mul_comm _ _
theorem dmd_low {t : Tk} (ht : t.ok = true) (w : Nat) (h : Bool) : dmd t w false ≤ dmd t w h := by
  obtain ⟨h1, h2, _⟩ := ok_parts ht
  refine dem_need _ _ ?_
  cases h
  · exact Nat.le_refl _
  · show t.lo.toNat ≤ t.hi.toNat
    omega
theorem take_snoc {ts : List Tk} {k : Nat} {t : Tk} (h : ts[k]? = some t) : ts.take (k + 1) = ts.take k ++ [t] := by
  rw [List.take_add_one, h]; rfl
theorem sum_snoc (f : Tk → Nat) {ts : List Tk} {k : Nat} {t : Tk} (h : ts[k]? = some t) : ((ts.take (k + 1)).map f).sum = ((ts.take k).map f).sum + f t := by
  rw [take_snoc h]; simp
theorem dLow_take {ts : List Tk} {k : Nat} {t : Tk} (h : ts[k]? = some t) (w : Nat) : dLow (ts.take (k + 1)) w = dLow (ts.take k) w + dmd t w false := sum_snoc _ h
theorem dSwi_take {ts : List Tk} {k : Nat} {t : Tk} (h : ts[k]? = some t) (l w : Nat) : dSwi (ts.take (k + 1)) l w = dSwi (ts.take k) l w + dmS l w t := sum_snoc _ h
theorem sum_le {f g : Tk → Nat} : ∀ {ts : List Tk}, (∀ t ∈ ts, f t ≤ g t) → (ts.map f).sum ≤ (ts.map g).sum
  | [], _ => Nat.le_refl _
  | t :: ts, h => by
    simp only [List.map_cons, List.sum_cons]
    have h1 := h t (by simp)
    have h2 := sum_le (ts := ts) fun x hx => h x (by simp [hx])
    omega
theorem sum_sub (f : Tk → Nat) {xs ys : List Tk} (h : xs.Sublist ys) : (xs.map f).sum ≤ (ys.map f).sum := by
  induction h with
  | slnil => exact Nat.le_refl _
  | cons a _ ih => simp only [List.map_cons, List.sum_cons]; omega
  | cons_cons a _ ih => simp only [List.map_cons, List.sum_cons]; omega
theorem tsum_bound {f : Tk → Nat} {b : Nat} : ∀ {ts : List Tk}, (∀ t ∈ ts, f t ≤ b) → (ts.map f).sum ≤ ts.length * b
  | [], _ => by simp
  | t :: ts, h => by
    simp only [List.map_cons, List.sum_cons, List.length_cons]
    have h1 := h t (by simp)
    have h2 := tsum_bound (ts := ts) fun x hx => h x (by simp [hx])
    rw [Nat.succ_mul]
    omega
theorem dLow_mono (ts : List Tk) {v w : Nat} (h : v ≤ w) : dLow ts v ≤ dLow ts w := sum_le fun t _ => dmd_mono t false h
theorem dSwi_mono (ts : List Tk) (l : Nat) {v w : Nat} (h : v ≤ w) : dSwi ts l v ≤ dSwi ts l w := sum_le fun t _ => by
  unfold dmS; split
  · exact dmd_mono t true h
  · exact Nat.le_refl _
theorem dLow_bound {ts : List Tk} (h : setB ts = true) (w : Nat) : dLow ts w ≤ 100 * (w + 20) := by
  have h1 := tsum_bound (f := fun t => dmd t w false) fun t ht => dmd_bound (set_ok h ht) w false
  have h2 := setB_len h
  have h3 : ts.length * (20 * (w + 20)) ≤ 5 * (20 * (w + 20)) := Nat.mul_le_mul_right _ h2
  unfold dLow
  omega
theorem dmS_bound {t : Tk} (ht : t.ok = true) (l w : Nat) : dmS l w t ≤ 20 * (l + w + 20) := by
  unfold dmS; split
  · have := dmd_bound ht w true; omega
  · have := dmd_bound ht l false; omega
theorem dSwi_bound {ts : List Tk} (h : setB ts = true) (l w : Nat) : dSwi ts l w ≤ 100 * (l + w + 20) := by
  have h1 := tsum_bound (f := dmS l w) fun t ht => dmS_bound (set_ok h ht) l w
  have h2 := setB_len h
  have h3 : ts.length * (20 * (l + w + 20)) ≤ 5 * (20 * (l + w + 20)) := Nat.mul_le_mul_right _ h2
  unfold dSwi
  omega

/-- The longest response of a task that needs n, is due in d, and comes behind xs. -/
def respOf (xs : List Tk) (n d : Nat) : Option Nat := leastN (fun w => n + dLow xs w) n d
def swiOf (xs : List Tk) (l n d : Nat) : Option Nat := leastN (fun w => n + dSwi xs l w) n d
def rLow (ts : List Tk) (k : Nat) : Option Nat :=
  if setB ts then match ts[k]? with
    | some t => respOf (ts.take k) t.lo.toNat t.du.toNat
    | none => none
  else none
def rSwi (ts : List Tk) (k : Nat) : Option Nat :=
  match rLow ts k, ts[k]? with
  | some l, some t => if t.cr then swiOf (ts.take k) l t.hi.toNat t.du.toNat else none
  | _, _ => none
def rHigh (ts : List Tk) (k : Nat) : Option Nat :=
  match ts[k]? with
  | some t => if setB ts && t.cr then rLow (critL ts) (critL (ts.take k)).length else none
  | none => none
def bothAt (ts : List Tk) (k : Nat) : Bool :=
  match ts[k]? with
  | some t => if t.cr then (rSwi ts k).isSome else (rLow ts k).isSome
  | none => false
def hLow (ts : List Tk) : Bool := setB ts && (List.range ts.length).all fun k => (rLow ts k).isSome
def hBoth (ts : List Tk) : Bool := setB ts && (List.range ts.length).all (bothAt ts)
def fBad (ts : List Tk) : Option Nat := if setB ts then (List.range ts.length).find? fun k => !bothAt ts k else none
def bLow (ts : List Tk) : Option Nat := if setB ts && !ts.isEmpty then leastN (dLow ts) 1 (ts.foldl (fun m t => Nat.lcm m t.ev.toNat) 1) else none

theorem resp_mono (xs : List Tk) (n : Nat) : ∀ v w, v ≤ w → n + dLow xs v ≤ n + dLow xs w := fun v w h => Nat.add_le_add_left (dLow_mono xs h) n
theorem swi_mono (xs : List Tk) (l n : Nat) : ∀ v w, v ≤ w → n + dSwi xs l v ≤ n + dSwi xs l w := fun v w h => Nat.add_le_add_left (dSwi_mono xs l h) n
theorem rLow_bad {ts : List Tk} (k : Nat) (h : setB ts = false) : rLow ts k = none := by unfold rLow; rw [h]; rfl
theorem rLow_past {ts : List Tk} {k : Nat} (h : ts[k]? = none) : rLow ts k = none := by unfold rLow; rw [h]; split <;> rfl
theorem rLow_at {ts : List Tk} {k : Nat} {t : Tk} (hs : setB ts = true) (h : ts[k]? = some t) : rLow ts k = respOf (ts.take k) t.lo.toNat t.du.toNat := by
  unfold rLow; rw [hs, h]; rfl
theorem rSwi_none {ts : List Tk} {k : Nat} (h : rLow ts k = none) : rSwi ts k = none := by unfold rSwi; rw [h]
theorem rSwi_not {ts : List Tk} {k : Nat} {t : Tk} (h : ts[k]? = some t) (hc : t.cr = false) : rSwi ts k = none := by
  unfold rSwi; rw [h]; cases rLow ts k
  · rfl
  · simp [hc]
theorem rSwi_at {ts : List Tk} {k l : Nat} {t : Tk} (hl : rLow ts k = some l) (h : ts[k]? = some t) (hc : t.cr = true) : rSwi ts k = swiOf (ts.take k) l t.hi.toNat t.du.toNat := by
  unfold rSwi; rw [hl, h]; simp [hc]
theorem rHigh_past {ts : List Tk} {k : Nat} (h : ts[k]? = none) : rHigh ts k = none := by unfold rHigh; rw [h]
theorem rHigh_bad {ts : List Tk} (k : Nat) (h : setB ts = false) : rHigh ts k = none := by unfold rHigh; rw [h]; split <;> rfl
theorem rHigh_not {ts : List Tk} {k : Nat} {t : Tk} (h : ts[k]? = some t) (hc : t.cr = false) : rHigh ts k = none := by unfold rHigh; rw [h]; simp [hc]
theorem rHigh_at {ts : List Tk} {k : Nat} {t : Tk} (hs : setB ts = true) (h : ts[k]? = some t) (hc : t.cr = true) : rHigh ts k = rLow (critL ts) (critL (ts.take k)).length := by
  unfold rHigh; rw [h]; simp [hc, hs]
theorem both_cr {ts : List Tk} {k : Nat} {t : Tk} (h : ts[k]? = some t) (hc : t.cr = true) : bothAt ts k = (rSwi ts k).isSome := by unfold bothAt; rw [h]; simp [hc]
theorem both_no {ts : List Tk} {k : Nat} {t : Tk} (h : ts[k]? = some t) (hc : t.cr = false) : bothAt ts k = (rLow ts k).isSome := by unfold bothAt; rw [h]; simp [hc]
/-- Both modes hold for a task: low needs do. -/
theorem both_low {ts : List Tk} {k : Nat} (h : bothAt ts k = true) : (rLow ts k).isSome = true := by
  unfold bothAt at h
  cases ht : ts[k]? with
  | none => rw [ht] at h; cases h
  | some t =>
    rw [ht] at h
    simp only at h
    cases hl : rLow ts k with
    | some l => rfl
    | none =>
      rw [rSwi_none hl, hl] at h
      split at h <;> cases h
theorem some_of {o : Option Nat} (h : o.isSome = true) : ∃ n, o = some n := Option.isSome_iff_exists.1 h

theorem all_range {p : Nat → Bool} {n : Nat} : (List.range n).all p = true ↔ ∀ k, k < n → p k = true := by
  rw [List.all_eq_true]
  exact ⟨fun h k hk => h k (List.mem_range.2 hk), fun h k hk => h k (List.mem_range.1 hk)⟩
theorem fBad_some {ts : List Tk} {k : Nat} (hs : setB ts = true) (hk : k < ts.length) (hb : bothAt ts k = false) (ha : ∀ j, j < k → bothAt ts j = true) : fBad ts = some k := by
  unfold fBad
  rw [if_pos hs, find_range]
  exact ⟨hk, by rw [hb]; rfl, fun v hv => by rw [ha v hv]; rfl⟩
theorem fBad_none {ts : List Tk} (hs : setB ts = true) (ha : ∀ j, j < ts.length → bothAt ts j = true) : fBad ts = none := by
  unfold fBad
  rw [if_pos hs, List.find?_eq_none]
  intro k hk
  rw [ha k (List.mem_range.1 hk)]
  simp
theorem fBad_bad {ts : List Tk} (hs : setB ts = false) : fBad ts = none := by unfold fBad; rw [hs]; rfl
theorem hBoth_bad {ts : List Tk} (hs : setB ts = false) : hBoth ts = false := by unfold hBoth; rw [hs]; rfl
theorem hLow_bad {ts : List Tk} (hs : setB ts = false) : hLow ts = false := by unfold hLow; rw [hs]; rfl
theorem hBoth_iff {ts : List Tk} : hBoth ts = true ↔ setB ts = true ∧ ∀ k, k < ts.length → bothAt ts k = true := by
  unfold hBoth; rw [Bool.and_eq_true, all_range]
theorem hLow_iff {ts : List Tk} : hLow ts = true ↔ setB ts = true ∧ ∀ k, k < ts.length → (rLow ts k).isSome = true := by
  unfold hLow; rw [Bool.and_eq_true, all_range]
theorem hBoth_no {ts : List Tk} {k : Nat} (hk : k < ts.length) (hb : bothAt ts k = false) : hBoth ts = false := by
  cases h : hBoth ts
  · rfl
  · have := (hBoth_iff.1 h).2 k hk
    rw [hb] at this; cases this
theorem hLow_no {ts : List Tk} {k : Nat} (hk : k < ts.length) (hb : rLow ts k = none) : hLow ts = false := by
  cases h : hLow ts
  · rfl
  · have := (hLow_iff.1 h).2 k hk
    rw [hb] at this; cases this
theorem hBoth_fBad {ts : List Tk} (hs : setB ts = true) : hBoth ts = (fBad ts).isNone := by
  cases h : fBad ts with
  | none =>
    refine hBoth_iff.2 ⟨hs, fun k hk => ?_⟩
    unfold fBad at h
    rw [if_pos hs, List.find?_eq_none] at h
    have := h k (List.mem_range.2 hk)
    cases hb : bothAt ts k
    · rw [hb] at this; exact absurd rfl this
    · rfl
  | some k =>
    unfold fBad at h
    rw [if_pos hs, find_range] at h
    obtain ⟨h1, h2, _⟩ := h
    refine hBoth_no h1 ?_
    cases hb : bothAt ts k
    · rfl
    · rw [hb] at h2; cases h2
theorem fBad_at {ts : List Tk} {k : Nat} (h : fBad ts = some k) : setB ts = true ∧ k < ts.length ∧ bothAt ts k = false ∧ ∀ j, j < k → bothAt ts j = true := by
  unfold fBad at h
  cases hs : setB ts with
  | false => rw [hs] at h; cases h
  | true =>
    rw [if_pos hs, find_range] at h
    obtain ⟨h1, h2, h3⟩ := h
    refine ⟨rfl, h1, ?_, fun j hj => ?_⟩
    · cases hb : bothAt ts k
      · rfl
      · rw [hb] at h2; cases h2
    · have := h3 j hj
      cases hb : bothAt ts j
      · rw [hb] at this; cases this
      · rfl
end

section
/- Contract of the program's search of a least fixed number: whatever function it asks, as long as that one only writes memory of its own. -/
open Go.RowKit
set_option linter.unusedVariables false

def resN (o : Option Nat) : Nat × Bool := (o.getD 0, o.isSome)
/-- A number and whether there is one. -/
def NbRes (v : Nat) (b : Bool) (w : World) (e : Ending) (w' : World) : Prop := e = .returned (.tuple #[.int .i64 (v : Int), .bool b]) ∧ Below w.heap.size w w'

/-- What is asked of the function that the search calls. -/
def NextIs (k : Nat) (cap : Array Value) (F : Nat → Nat) (lo hi : Nat) (w : World) : Prop :=
  ∀ (W : World) (v : Nat), lo ≤ v → v ≤ hi → Below w.heap.size w W → Calls Tryd.prog k (#[.int .i64 (v : Int)] ++ cap) W fun e W' => e = .returned (.int .i64 (F v : Int)) ∧ Below W.heap.size W W'

def lfW (a : Act) : Nat := (intOf (a.tmps.getD 8 undef)).toNat

set_option maxRecDepth 100000 in
set_option maxHeartbeats 2000000 in
theorem iLeast_is (w : World) (lo hi k : Nat) (cap : Array Value) (F : Nat → Nat) (v : Nat) (b : Bool) (ho : resN (leastN F lo hi) = (v, b)) (hm : ∀ x y, x ≤ y → F x ≤ F y) (hF : ∀ x, lo ≤ x → lo ≤ F x) (hB : ∀ x, x ≤ hi → F x ≤ 1000000000000) (hhi : hi ≤ 100000000) (hlo : lo ≤ 100000000)
    (ek : ∀ args w, (callFunc k args).run Tryd.prog w = .ok (.enter k args) w) (hfn : NextIs k cap F lo hi w) :
    Calls Tryd.prog 79 #[.int .i64 (lo : Int), .int .i64 (hi : Int), .func (.func k) #[] cap] w (NbRes v b w) := by
  have HO := Lib.hid ho
  have HM := Lib.hid hm
  have HF := Lib.hid hF
  have HB := Lib.hid hB
  have HFN := Lib.hid hfn
  clear ho hm hF hB hfn
  go_enter Tryd.func79, Tryd.ntmps79
  go_wp2
  refine wp_scope_jumps 0 (fun a' w' => Below w.heap.size w w' ∧ ∃ (x : Nat) (u3 u4 u5 u9 u10 u11 u12 u13 u14 u15 u16 u17 u18 u19 u20 u21 : Value), a' = { tmps := #[.int .i64 (lo : Int), .int .i64 (hi : Int), .func (.func k) #[] cap, u3, u4, u5, .int .i64 0, .bool false, .int .i64 (x : Int), u9, u10, u11, u12, u13, u14, u15, u16, u17, u18, u19, u20, u21], defers := [] } ∧ NoneBelow F lo x ∧ x ≤ 1000000000000) (fun a' _ => hi + 1 - lfW a') rfl ?_ ?_
  · by_cases hx : hi < lo
    · obtain ⟨rfl, rfl⟩ : 0 = v ∧ false = b := Prod.mk.inj (by rw [← HO.out, least_past (none_start F lo) hx]; rfl)
      go_wp2
      go_step3
      go_wp2
      simp only [Exit.jump]
      go_ret2
      exact ⟨rfl, Below.refl _ _⟩
    · have hc := HFN.out w lo (Nat.le_refl _) (by omega) (Below.refl _ _)
      have hcb := HB.out lo (by omega)
      by_cases he : F lo = lo
      · have hei : (F lo : Int) = (lo : Int) := by omega
        obtain ⟨rfl, rfl⟩ : lo = v ∧ true = b := Prod.mk.inj (by rw [← HO.out, least_hit (none_start F lo) (by omega) he]; rfl)
        go_wp2
        go_step3
        go_wp2_with (go_at_fn k; refine hc.mono ?_; rintro e w' ⟨rfl, hb'⟩)
        simp only [Exit.jump]
        go_ret2
        exact ⟨rfl, hb'⟩
      · have hei : ¬ (F lo : Int) = (lo : Int) := by omega
        have hnx := none_step HM.out HF.out (none_start F lo)
        have HN := Lib.hid hnx
        clear hnx
        go_wp2
        go_step3
        go_wp2_with (go_at_fn k; refine hc.mono ?_; rintro e w' ⟨rfl, hb'⟩)
        go_step3
        exact ⟨rfl, hb', F lo, _, _, _, _, _, _, _, _, _, _, _, _, _, _, _, _, rfl, HN.out, hcb⟩
  · rintro a' w' ⟨hb, x, u3, u4, u5, u9, u10, u11, u12, u13, u14, u15, u16, u17, u18, u19, u20, u21, rfl, hnn, hxb⟩
    have HN := Lib.hid hnn
    have HW := Lib.hid hb
    have hge := hnn.1
    clear hnn hb
    by_cases hx : hi < x
    · obtain ⟨rfl, rfl⟩ : 0 = v ∧ false = b := Prod.mk.inj (by rw [← HO.out, least_past HN.out hx]; rfl)
      go_wp2
      simp only [Exit.jump]
      go_ret2
      exact ⟨rfl, HW.out⟩
    · have hc := HFN.out w' x hge (by omega) HW.out
      have hcb := HB.out x (by omega)
      by_cases he : F x = x
      · have hei : (F x : Int) = (x : Int) := by omega
        obtain ⟨rfl, rfl⟩ : x = v ∧ true = b := Prod.mk.inj (by rw [← HO.out, least_hit HN.out (by omega) he]; rfl)
        go_wp2_with (go_at_fn k; refine hc.mono ?_; rintro e w2 ⟨rfl, hb'⟩)
        simp only [Exit.jump]
        go_ret2
        exact ⟨rfl, bl_trans HW.out hb'⟩
      · have hei : ¬ (F x : Int) = (x : Int) := by omega
        have hnx := none_step HM.out HF.out HN.out
        have hlt := none_le HM.out HF.out HN.out
        have HN2 := Lib.hid hnx
        clear hnx
        go_wp2_with (go_at_fn k; refine hc.mono ?_; rintro e w2 ⟨rfl, hb'⟩)
        go_step3
        exact ⟨rfl, ⟨bl_trans HW.out hb', F x, _, _, _, _, _, _, _, _, _, _, _, _, _, _, _, _, rfl, HN2.out, hcb⟩, by simp [lfW, intOf]; omega⟩
end

section
/- Critical tasks as plain data, and what busy times are (no program text). -/
set_option linter.unusedVariables false

/-- A task with its high need alone. -/
def Tk.up (t : Tk) : Tk := ⟨t.hi, t.hi, t.du, t.ev, t.cr⟩
theorem up_ok {t : Tk} (h : t.ok = true) : t.up.ok = true := by
  obtain ⟨h1, h2, h3, h4, h5, h6⟩ := ok_parts h
  unfold Tk.ok validB Tk.up
  simp only [Bool.and_eq_true, decide_eq_true_iff, Bool.or_eq_true, beq_iff_eq]
  exact ⟨by omega, by omega, h3, h4, h5, .inr (by first | trivial | rfl)⟩
theorem critL_eq (ts : List Tk) : critL ts = (ts.filter Tk.cr).map Tk.up := rfl
theorem crit_app (xs ys : List Tk) : critL (xs ++ ys) = critL xs ++ critL ys := by rw [critL_eq, critL_eq, critL_eq, List.filter_append, List.map_append]
theorem crit_split (ts : List Tk) (k : Nat) : critL ts = critL (ts.take k) ++ critL (ts.drop k) := by rw [← crit_app, List.take_append_drop]
theorem crit_sub {xs ys : List Tk} (h : xs.Sublist ys) : (critL xs).Sublist (critL ys) := (h.filter _).map _
theorem set_crit {ts : List Tk} (h : setB ts = true) : setB (critL ts) = true := by
  refine set_of (Nat.le_trans (critL_len ts) (setB_len h)) fun t ht => ?_
  rw [critL_eq, List.mem_map] at ht
  obtain ⟨u, hu, rfl⟩ := ht
  exact up_ok (set_ok h (List.mem_filter.1 hu).1)
theorem crit_all {ts : List Tk} {t : Tk} (h : t ∈ critL ts) : t.cr = true := by
  rw [critL_eq, List.mem_map] at h
  obtain ⟨u, hu, rfl⟩ := h
  exact (List.mem_filter.1 hu).2
theorem drop_at' {ts : List Tk} {k : Nat} {t : Tk} (h : ts[k]? = some t) : ts.drop k = t :: ts.drop (k + 1) := by
  obtain ⟨hk, rfl⟩ := List.getElem?_eq_some_iff.1 h
  exact List.drop_eq_getElem_cons hk
/-- Where a critical task stands among the critical ones. -/
theorem crit_at {ts : List Tk} {k : Nat} {t : Tk} (h : ts[k]? = some t) (hc : t.cr = true) : (critL ts)[(critL (ts.take k)).length]? = some t.up := by
  rw [crit_split ts k, List.getElem?_append_right (Nat.le_refl _), Nat.sub_self, drop_at' h, critL_eq]
  simp [hc]
theorem crit_take {ts : List Tk} (k : Nat) : (critL ts).take (critL (ts.take k)).length = critL (ts.take k) := by
  rw [crit_split ts k, List.take_left]
theorem critOf_set {ts : List Tk} (h : setB ts = true) : critOf ts = critL ts := by unfold critOf; rw [if_pos h]
theorem rHigh_is {ts : List Tk} {k : Nat} {t : Tk} (hs : setB ts = true) (h : ts[k]? = some t) (hc : t.cr = true) : rHigh ts k = respOf (critL (ts.take k)) t.hi.toNat t.du.toNat := by
  rw [rHigh_at hs h hc, rLow_at (set_crit hs) (crit_at h hc), crit_take]; rfl

/-- What critical tasks need with their high needs. -/
theorem dmd_up (t : Tk) (w : Nat) : dmd t.up w false = dmd t w true := rfl
theorem dCrit_sum (ts : List Tk) (w : Nat) : dLow (critL ts) w = (ts.map fun t => if t.cr then dmd t w true else 0).sum := by
  induction ts with
  | nil => rfl
  | cons t ts ih =>
    rw [critL_eq, List.filter_cons]
    cases hc : t.cr
    · rw [if_neg (by decide), ← critL_eq, ih]; simp [hc]
    · rw [if_pos rfl, List.map_cons]
      have : dLow (t.up :: critL ts) w = dmd t.up w false + dLow (critL ts) w := by simp [dLow]
      rw [critL_eq] at this
      rw [this, ← critL_eq, ih, dmd_up]; simp [hc]
/-- What tasks need: at least what the critical ones need. -/
theorem dCrit_le (ts : List Tk) (l w : Nat) : dLow (critL ts) w ≤ dSwi ts l w := by
  rw [dCrit_sum]
  refine sum_le fun t _ => ?_
  unfold dmS
  split
  · exact Nat.le_refl _
  · exact Nat.zero_le _
theorem dLow_pos {ts : List Tk} (hs : setB ts = true) (hn : ts ≠ []) {w : Nat} (hw : 1 ≤ w) : 1 ≤ dLow ts w := by
  cases ts with
  | nil => exact absurd rfl hn
  | cons t ts =>
    have h := ok_parts (set_ok hs (List.mem_cons_self ..))
    have h1 : t.lo.toNat ≤ dmd t w false := dem_pos (by omega) (by omega) hw
    have : dLow (t :: ts) w = dmd t w false + dLow ts w := by simp [dLow]
    omega
theorem bLow_bad {ts : List Tk} (h : setB ts = false) : bLow ts = none := by unfold bLow; rw [h]; rfl
theorem bLow_nil : bLow [] = none := rfl
theorem bLow_is {ts : List Tk} (hs : setB ts = true) (hn : ts ≠ []) : bLow ts = leastN (dLow ts) 1 (lcmL ts) := by
  unfold bLow; rw [hs]
  cases ts with
  | nil => exact absurd rfl hn
  | cons t ts => rfl
theorem lcmL_le {ts : List Tk} (hs : setB ts = true) : 1 ≤ lcmL ts ∧ lcmL ts ≤ 3200000 := by
  have := lcmL_bound hs ts.length
  rwa [List.take_length] at this
end

section
/- Contracts of demands, in the program and in the reference: what a task needs at most within a window. Nothing that was there is written. -/
open Go.RowKit
set_option linter.unusedVariables false

theorem dem_cast {n z j : Nat} (hz : 1 ≤ z) (hj : (n + z - 1) / z = j) : 0 ≤ (n : Int) + (z : Int) - 1 ∧ Int.tdiv ((n : Int) + (z : Int) - 1) (z : Int) = (j : Int) ∧ ((n : Int) + (z : Int) - 1) / (z : Int) = (j : Int) := by
  have h0 : 0 ≤ (n : Int) + (z : Int) - 1 := by omega
  have h1 : ((n : Int) + (z : Int) - 1) / (z : Int) = (j : Int) := by
    have : (n : Int) + (z : Int) - 1 = ((n + z - 1 : Nat) : Int) := by omega
    rw [this, ← hj]; simp
  exact ⟨h0, by rw [Int.tdiv_eq_ediv_of_nonneg h0]; exact h1, h1⟩

theorem needT_ex (w : World) (lo hi du ev : Int) (cr b : Bool) :
    Calls Tryd.prog 90 #[.agg #[.int .i64 lo, .int .i64 hi, .int .i64 du, .int .i64 ev, .bool cr], .bool b] w fun e w' => e = .returned (.int .i64 (if b then hi else lo)) ∧ w.alloc (.cells #[.int .i64 lo, .int .i64 hi, .int .i64 du, .int .i64 ev, .bool cr] 29) = w' := by
  cases b <;>
  · go_enter Tryd.func90, Tryd.ntmps90
    go_wp2
    go_ret
    exact ⟨rfl, rfl⟩
set_option maxHeartbeats 1000000 in
theorem iDemand_is (w : World) (lo hi du ev : Int) (cr : Bool) (n : Nat) (hb : Bool) (m : Nat) (hv : validB lo hi du ev cr = true) (hn : n ≤ 100000000) (hm : dmd ⟨lo, hi, du, ev, cr⟩ n hb = m) :
    Calls Tryd.prog 89 #[.agg #[.int .i64 lo, .int .i64 hi, .int .i64 du, .int .i64 ev, .bool cr], .int .i64 (n : Int), .bool hb] w fun e w' =>
      e = .returned (.int .i64 (m : Int)) ∧ (w.alloc (.cells #[.int .i64 lo, .int .i64 hi, .int .i64 du, .int .i64 ev, .bool cr] 29)).alloc (.cells #[.int .i64 lo, .int .i64 hi, .int .i64 du, .int .i64 ev, .bool cr] 29) = w' := by
  obtain ⟨h1, h2, h3, h4, h5, _⟩ := ok_parts (t := ⟨lo, hi, du, ev, cr⟩) hv
  dsimp only at h1 h2 h3 h4 h5
  obtain ⟨a, rfl⟩ := Int.eq_ofNat_of_zero_le (show 0 ≤ lo by omega)
  obtain ⟨b, rfl⟩ := Int.eq_ofNat_of_zero_le (show 0 ≤ hi by omega)
  obtain ⟨z, rfl⟩ := Int.eq_ofNat_of_zero_le (show 0 ≤ ev by omega)
  obtain ⟨j, hj⟩ : ∃ j, (n + z - 1) / z = j := ⟨_, rfl⟩
  have hjn : j ≤ n + 20 := by rw [← hj]; exact Nat.le_trans (Nat.div_le_self _ _) (by omega)
  obtain ⟨q1, q2, q3⟩ := dem_cast (n := n) (z := z) (by omega) hj
  have hjp : 0 ≤ (j : Int) := by omega
  cases hb
  · have hm' : j * a = m := by rw [← hm, ← hj]; rfl
    have hA : (a : Int) * (j : Int) = (m : Int) := by rw [← hm', Int.natCast_mul, Int.mul_comm]
    have hA' : (j : Int) * (a : Int) = (m : Int) := by rw [← hm', Int.natCast_mul]
    have hmb : m ≤ 20 * (n + 20) := by rw [← hm', Nat.mul_comm]; exact Nat.mul_le_mul (by omega) hjn
    clear hm hm' hj hv
    have HNX := Lib.hid (fun W : World => needT_ex W (a : Int) (b : Int) du (z : Int) cr false)
    have cT := (Blk.new w 29 #[.int .i64 (a : Int), .int .i64 (b : Int), .int .i64 du, .int .i64 (z : Int), .bool cr]).cell
    go_enter Tryd.func89, Tryd.ntmps89
    go_wp2_with fail
    refine (HNX.out _).mono ?_
    rintro e w' ⟨rfl, rfl⟩
    go_wp2
    go_ret
    exact ⟨by simp [*], by simp [*]⟩
  · have hm' : j * b = m := by rw [← hm, ← hj]; rfl
    have hA : (b : Int) * (j : Int) = (m : Int) := by rw [← hm', Int.natCast_mul, Int.mul_comm]
    have hA' : (j : Int) * (b : Int) = (m : Int) := by rw [← hm', Int.natCast_mul]
    have hmb : m ≤ 20 * (n + 20) := by rw [← hm', Nat.mul_comm]; exact Nat.mul_le_mul (by omega) hjn
    clear hm hm' hj hv
    have HNX := Lib.hid (fun W : World => needT_ex W (a : Int) (b : Int) du (z : Int) cr true)
    have cT := (Blk.new w 29 #[.int .i64 (a : Int), .int .i64 (b : Int), .int .i64 du, .int .i64 (z : Int), .bool cr]).cell
    go_enter Tryd.func89, Tryd.ntmps89
    go_wp2_with fail
    refine (HNX.out _).mono ?_
    rintro e w' ⟨rfl, rfl⟩
    go_wp2
    go_ret
    exact ⟨by simp [*], by simp [*]⟩

set_option maxHeartbeats 1000000 in
theorem sDemand_is (w : World) (lo hi du ev : Int) (cr : Bool) (n : Nat) (hb : Bool) (m : Nat) (hv : validB lo hi du ev cr = true) (hn : n ≤ 100000000) (hm : dmd ⟨lo, hi, du, ev, cr⟩ n hb = m) :
    Calls Tryd.prog 87 #[.agg #[.int .i64 lo, .int .i64 hi, .int .i64 du, .int .i64 ev, .bool cr], .int .i64 (n : Int), .bool hb] w fun e w' =>
      e = .returned (.int .i64 (m : Int)) ∧ w.alloc (.cells #[.int .i64 lo, .int .i64 hi, .int .i64 du, .int .i64 ev, .bool cr] 29) = w' := by
  obtain ⟨h1, h2, h3, h4, h5, _⟩ := ok_parts (t := ⟨lo, hi, du, ev, cr⟩) hv
  dsimp only at h1 h2 h3 h4 h5
  obtain ⟨a, rfl⟩ := Int.eq_ofNat_of_zero_le (show 0 ≤ lo by omega)
  obtain ⟨b, rfl⟩ := Int.eq_ofNat_of_zero_le (show 0 ≤ hi by omega)
  obtain ⟨z, rfl⟩ := Int.eq_ofNat_of_zero_le (show 0 ≤ ev by omega)
  obtain ⟨j, hj⟩ : ∃ j, (n + z - 1) / z = j := ⟨_, rfl⟩
  have hjn : j ≤ n + 20 := by rw [← hj]; exact Nat.le_trans (Nat.div_le_self _ _) (by omega)
  obtain ⟨q1, q2, q3⟩ := dem_cast (n := n) (z := z) (by omega) hj
  have hjp : 0 ≤ (j : Int) := by omega
  cases hb
  · have hm' : j * a = m := by rw [← hm, ← hj]; rfl
    have hA : (a : Int) * (j : Int) = (m : Int) := by rw [← hm', Int.natCast_mul, Int.mul_comm]
    have hA' : (j : Int) * (a : Int) = (m : Int) := by rw [← hm', Int.natCast_mul]
    have hmb : m ≤ 20 * (n + 20) := by rw [← hm', Nat.mul_comm]; exact Nat.mul_le_mul (by omega) hjn
    clear hm hm' hj hv
    go_enter Tryd.func87, Tryd.ntmps87
    go_wp2
    go_ret
    exact ⟨by simp [*], by simp [*]⟩
  · have hm' : j * b = m := by rw [← hm, ← hj]; rfl
    have hA : (b : Int) * (j : Int) = (m : Int) := by rw [← hm', Int.natCast_mul, Int.mul_comm]
    have hA' : (j : Int) * (b : Int) = (m : Int) := by rw [← hm', Int.natCast_mul]
    have hmb : m ≤ 20 * (n + 20) := by rw [← hm', Nat.mul_comm]; exact Nat.mul_le_mul (by omega) hjn
    clear hm hm' hj hv
    go_enter Tryd.func87, Tryd.ntmps87
    go_wp2
    go_ret
    exact ⟨by simp [*], by simp [*]⟩

/-- What the demand of a task is, and whether there is one. -/
def dmOf (t : Tk) (win : Int) (hb : Bool) : Nat × Bool := if t.ok && (decide (0 ≤ win) && decide (win ≤ 1000000)) then (dmd t win.toNat hb, true) else (0, false)
end

section
/- Contracts of the program's ResponseLow and of what it calls: sums of demands, its closure. Nothing that was there is written. -/
open Go.RowKit
set_option linter.unusedVariables false

def NumIs (m : Nat) (w : World) (e : Ending) (w' : World) : Prop := e = .returned (.int .i64 (m : Int)) ∧ Below w.heap.size w w'

theorem take_all {ts : List Tk} {k : Nat} (h : ts.length ≤ k) : ts.take k = ts := List.take_of_length_le h
theorem get_at {ts : List Tk} {k n : Nat} (h : ts.length = n) (hk : k < n) : ∃ t, ts[k]? = some t := ⟨ts[k]'(by omega), List.getElem?_eq_getElem _⟩

set_option maxHeartbeats 1000000 in
theorem iDemLow_is (w : World) (A : Option Addr) (n c : Nat) (ts : List Tk) (h : Tks w w.heap.size A n ts) (hs : setB ts = true) (x m : Nat) (hx : x ≤ 10000000) (hm : dLow ts x = m) :
    Calls Tryd.prog 81 #[.slice A n c, .int .i64 (x : Int)] w (NumIs m w) := by
  have H := Lib.hid h
  have HL := Lib.hid h.len
  have HS := Lib.hid hs
  have HM := Lib.hid hm
  have h5 : n ≤ 5 := by have := setB_len hs; rw [HL.out] at this; exact this
  clear h hs hm
  go_enter Tryd.func81, Tryd.ntmps81
  go_wp2
  go_loopw [5, 10] (fun s i wr => ∃ k : Nat, k ≤ n ∧ i = .int .i64 k ∧ s = .int .i64 (dLow (ts.take k) x : Nat) ∧ Below w.heap.size w wr) (fun _ i _ => n - (intOf i).toNat)
  case atStart => exact ⟨0, Nat.zero_le _, rfl, rfl, Below.refl _ _⟩
  case round =>
    obtain ⟨k, hk, rfl, rfl, hb⟩ := hrel
    have HB := Lib.hid hb
    clear hb
    by_cases hlt : k < n
    · obtain ⟨t, ht⟩ := get_at HL.out hlt
      obtain ⟨b, o, rfl, hbl, c0, c1, c2, c3, c4⟩ := (H.out.below HB.out).at_ k t ht
      have HT := Lib.hid (dLow_take ht x)
      have HV := Lib.hid (set_ok HS.out (get_mem ht))
      have hb1 := dLow_bound (set_take HS.out k) x
      have hb2 := dmd_bound HV.out x false
      obtain ⟨lo, hi, du, ev, cr⟩ := t
      dsimp only at c0 c1 c2 c3 c4
      obtain ⟨d, hd⟩ : ∃ d, dmd ⟨lo, hi, du, ev, cr⟩ x false = d := ⟨_, rfl⟩
      rw [hd] at hb2
      have HT' : Hid (dLow (ts.take (k + 1)) x = dLow (ts.take k) x + d) := by have := HT.out; rw [hd] at this; exact this
      have HD := Lib.hid hd
      clear ht hd HT
      generalize dLow (ts.take k) x = s at *
      have hsz := HB.out.size
      go_wp2_with (go_at_call 89; refine (iDemand_is _ lo hi du ev cr x false d HV.out (by omega) HD.out).mono ?_; rintro e w2 ⟨rfl, rfl⟩)
      go_roundw
      case rel => exact ⟨k + 1, by omega, by go_num, by rw [HT'.out]; go_num, by repeat (first | with_reducible exact HB.out | refine bl_alloc ?_ _ | refine bl_set ?_ (by simp; omega) _)⟩
      case measure => simp [intOf]; omega
    · obtain rfl : k = n := by omega
      have hbd := dLow_bound HS.out x
      have HE : Hid (dLow (ts.take k) x = m) := by show _ = _; rw [take_all (by rw [HL.out]; omega)]; exact HM.out
      go_wp2
      go_ret
      exact ⟨by rw [HE.out]; rfl, HB.out⟩

set_option maxHeartbeats 1000000 in
theorem iCloLow_is (w : World) (Bt Bs : Nat) (A : Option Addr) (k c : Nat) (us : List Tk) (lo : Nat) (hT : w.cell? ⟨Bt, 0, none⟩ = some (.int .i64 (lo : Int))) (hS : w.cell? ⟨Bs, 0, none⟩ = some (.slice A k c)) (hTs : Tks w w.heap.size A k us) (hs : setB us = true) (hlo : lo ≤ 20) (x m : Nat) (hx : x ≤ 10000000) (hm : lo + dLow us x = m) (hbt : Bt < w.heap.size) (hbs : Bs < w.heap.size) :
    Calls Tryd.prog 80 #[.int .i64 (x : Int), .pointer (some ⟨Bt, 0, none⟩), .pointer (some ⟨Bs, 0, none⟩)] w (NumIs m w) := by
  have H := Lib.hid hTs
  have HS := Lib.hid hs
  obtain ⟨d, hd⟩ : ∃ d, dLow us x = d := ⟨_, rfl⟩
  have hdb := dLow_bound hs x
  rw [hd] at hm hdb
  subst hm
  have HD := Lib.hid hd
  have kw : IntKind.i64.wrap ((lo : Int) + (d : Int)) = (lo : Int) + (d : Int) := IntWalk.i64_in _ (by omega)
  have hS0 : w.cell? ⟨Bt, 0, none⟩ = some (.int .i64 (lo : Int)) ∧ w.cell? ⟨Bs, 0, none⟩ = some (.slice A k c) := ⟨hT, hS⟩
  clear hTs hs hd
  go_enter Tryd.func80, Tryd.ntmps80
  go_wp2_with fail
  go_region_held3 (fun W => W.cell? ⟨Bt, 0, none⟩ = some (.int .i64 (lo : Int)) ∧ W.cell? ⟨Bs, 0, none⟩ = some (.slice A k c)) (first | exact hS0 | exact hS2)
    ((first
      | (go_at_call 81; refine (iDemLow_is _ A k c us ?_ HS.out x d hx HD.out).mono ?_; exact H.out.below (by repeat (first | with_reducible exact Below.refl w.heap.size w | with_reducible refine Below.drew ?_ | with_reducible refine bl_drewN ?_ _)); rintro e w2 ⟨rfl, hb⟩; have HB2 := Lib.hid (show Below w.heap.size w w2 from bl_trans (by repeat (first | with_reducible exact Below.refl w.heap.size w | with_reducible refine bl_drewN ?_ _ | with_reducible refine Below.drew ?_)) hb); have hS2 : w2.cell? ⟨Bt, 0, none⟩ = some (.int .i64 (lo : Int)) ∧ w2.cell? ⟨Bs, 0, none⟩ = some (.slice A k c) := ⟨(HB2.out.cell (p := ⟨Bt, 0, none⟩) hbt).trans hT, (HB2.out.cell (p := ⟨Bs, 0, none⟩) hbs).trans hS⟩; clear hb)))
  go_wp2
  go_ret
  exact ⟨by first | rfl | go_num, HB2.out⟩

set_option maxHeartbeats 1000000 in
theorem iHas_is (w : World) (A : Option Addr) (n c : Nat) (ts : List Tk) (a : Int) (h : Tks w w.heap.size A n ts) (hn : n ≤ 1048576) (b : Bool) (hb : (setB ts && (decide (0 ≤ a) && decide (a < (n : Int)))) = b) :
    Calls Tryd.prog 18 #[.slice A n c, .int .i64 a] w fun e w' => e = .returned (.bool b) ∧ Below w.heap.size w w' := by
  have H := Lib.hid h
  clear h
  cases hs : setB ts
  · subst hb
    go_enter Tryd.func18, Tryd.ntmps18
    go_wp2_with (go_at_call 29; refine (iSetValid_any _ A n c ts H.out hn).mono ?_; rintro e w2 ⟨rfl, hb2⟩)
    go_ret
    exact ⟨by simp [hs], hb2⟩
  rw [hs, Bool.true_and] at hb
  by_cases h0 : 0 ≤ a
  · by_cases h1 : a < (n : Int)
    · rw [decide_eq_true h0, decide_eq_true h1] at hb
      subst hb
      go_enter Tryd.func18, Tryd.ntmps18
      go_wp2_with (go_at_call 29; refine (iSetValid_any _ A n c ts H.out hn).mono ?_; rintro e w2 ⟨rfl, hb2⟩)
      go_ret
      exact ⟨by simp [*], hb2⟩
    · rw [decide_eq_true h0, decide_eq_false h1] at hb
      subst hb
      go_enter Tryd.func18, Tryd.ntmps18
      go_wp2_with (go_at_call 29; refine (iSetValid_any _ A n c ts H.out hn).mono ?_; rintro e w2 ⟨rfl, hb2⟩)
      go_ret
      exact ⟨by simp [*], hb2⟩
  · rw [decide_eq_false h0] at hb
    subst hb
    go_enter Tryd.func18, Tryd.ntmps18
    go_wp2_with (go_at_call 29; refine (iSetValid_any _ A n c ts H.out hn).mono ?_; rintro e w2 ⟨rfl, hb2⟩)
    go_ret
    exact ⟨by simp [*], hb2⟩

theorem cloLow_next (w : World) (Bt Bs : Nat) (A : Option Addr) (k c : Nat) (us : List Tk) (lo hi du : Nat) (h1 h2 h3 h4 : Value) (hT : Blk w Bt 29 #[.int .i64 (lo : Int), h1, h2, h3, h4]) (hS : Blk w Bs 23 #[.slice A k c]) (hTs : Tks w w.heap.size A k us) (hs : setB us = true) (hlo : lo ≤ 20) (hdu : du ≤ 10000000) :
    NextIs 80 #[.pointer (some ⟨Bt, 0, none⟩), .pointer (some ⟨Bs, 0, none⟩)] (fun x => lo + dLow us x) lo du w := fun W x h1 h2 hb =>
  iCloLow_is W Bt Bs A k c us lo ((hb.cell (p := ⟨Bt, 0, none⟩) hT.lt).trans (hT.cell 0)) ((hb.cell (p := ⟨Bs, 0, none⟩) hS.lt).trans (hS.cell 0)) ((hTs.below hb).more hb.size) hs hlo x _ (by omega) rfl (Nat.lt_of_lt_of_le hT.lt hb.size) (Nat.lt_of_lt_of_le hS.lt hb.size)
theorem blk_second (w : World) (o : Obj) (t : TypeId) (cs : Array Value) : Blk ((w.alloc o).alloc (.cells cs t)) (w.heap.size + 1) t cs := by
  have h := Blk.new (w.alloc o) t cs
  simp only [World.size_alloc] at h
  exact h

/-- A task's longest response at a place that may be none. -/
def atI (f : Nat → Option Nat) (a : Int) : Option Nat := if 0 ≤ a then f a.toNat else none

set_option maxRecDepth 100000 in
set_option maxHeartbeats 2000000 in
theorem iRLow_is (w : World) (A : Option Addr) (n c : Nat) (ts : List Tk) (a : Int) (h : Tks w w.heap.size A n ts) (hn : n ≤ 1048576) (hnc : n ≤ c) (v : Nat) (b : Bool) (hv : resN (atI (rLow ts) a) = (v, b)) :
    Calls Tryd.prog 66 #[.slice A n c, .int .i64 a] w (NbRes v b w) := by
  have H := Lib.hid h
  have HL := Lib.hid h.len
  clear h
  cases hh : (setB ts && (decide (0 ≤ a) && decide (a < (n : Int))))
  · have hr : atI (rLow ts) a = none := by
      unfold atI
      split
      · rename_i h0
        cases hs : setB ts
        · exact rLow_bad _ hs
        · rw [hs, Bool.true_and, decide_eq_true h0, Bool.true_and] at hh
          have h1 : ¬ a < (n : Int) := of_decide_eq_false hh
          exact rLow_past (List.getElem?_eq_none (by have := HL.out; omega))
      · rfl
    rw [hr] at hv
    obtain ⟨rfl, rfl⟩ := Prod.mk.inj hv
    have HH := Lib.hid hh
    clear hr hv hh
    go_enter Tryd.func66, Tryd.ntmps66
    go_wp2_with (go_at_call 18; refine (iHas_is _ A n c ts a H.out hn false HH.out).mono ?_; rintro e w1 ⟨rfl, hb⟩)
    go_ret2
    exact ⟨rfl, hb⟩
  have HH := Lib.hid hh
  rw [Bool.and_eq_true, Bool.and_eq_true, decide_eq_true_iff, decide_eq_true_iff] at hh
  obtain ⟨hs, h0, h1⟩ := hh
  obtain ⟨k, rfl⟩ := Int.eq_ofNat_of_zero_le h0
  have hk : k < n := by omega
  obtain ⟨t, ht⟩ := get_at HL.out hk
  have hr : atI (rLow ts) (k : Int) = respOf (ts.take k) t.lo.toNat t.du.toNat := by
    unfold atI; rw [if_pos h0]; exact rLow_at hs ht
  rw [hr] at hv
  have hok := ok_parts (set_ok hs (get_mem ht))
  have HS := Lib.hid (set_take hs k)
  have HT := Lib.hid ht
  have HV := Lib.hid hv
  clear hr hv ht hs
  obtain ⟨lo, hi, du, ev, cr⟩ := t
  dsimp only at hok HV
  obtain ⟨p1, p2, p3, p4, p5, _⟩ := hok
  obtain ⟨lo, rfl⟩ := Int.eq_ofNat_of_zero_le (show 0 ≤ lo by omega)
  obtain ⟨du, rfl⟩ := Int.eq_ofNat_of_zero_le (show 0 ≤ du by omega)
  go_enter Tryd.func66, Tryd.ntmps66
  go_wp2_with fail
  refine (iHas_is _ A n c ts (k : Int) H.out hn true HH.out).mono ?_
  rintro e w1 ⟨rfl, hb⟩
  have HB1 := Lib.hid hb
  have hsz := hb.size
  obtain ⟨bb, o, rfl, hbl, c0, c1, c2, c3, c4⟩ := (H.out.below hb).at_ k _ HT.out
  dsimp only at c0 c1 c2 c3 c4
  have HTk := Lib.hid (Tks.take ((H.out.below hb).more hb.size) (show k ≤ n by omega))
  clear hb
  have hbl1 : bb < w1.heap.size := by omega
  have hbl2 : bb < w1.heap.size + 1 := by omega
  have i1 : (k : Int) < (n : Int) := h1
  have i2 : (k : Int) ≤ (c : Int) := by omega
  have i3 : ¬ (c : Int) < (k : Int) := by omega
  go_wp2
  go_region
  all_goals go_wp2_with fail
  · refine (iLeast_is _ lo du 80 _ (fun x => lo + dLow (ts.take k) x) v b HV.out (resp_mono _ lo) (fun x _ => Nat.le_add_right _ _) (fun x hx => by have := dLow_bound HS.out x; omega) (by omega) (by omega) (fun _ _ => rfl) (cloLow_next _ _ _ (some ⟨bb, o, none⟩) k c (ts.take k) lo 0 du _ _ _ _ (((Blk.new w1 _ _).alloc _).drewN 1) ((blk_second w1 _ _ _).drewN 1) ((HTk.out.below (bl_drewN (bl_alloc (bl_alloc (Below.refl w1.heap.size w1) _) _) 1)).more (bl_drewN (bl_alloc (bl_alloc (Below.refl w1.heap.size w1) _) _) 1).size) HS.out (by omega) (by omega))).mono ?_
    rintro e w2 ⟨rfl, hb2⟩
    go_wp2
    go_ret2
    exact ⟨rfl, bl_trans (bl_drewN (bl_alloc (bl_alloc HB1.out _) _) 1) hb2⟩
  · refine (iLeast_is _ lo du 80 _ (fun x => lo + dLow (ts.take k) x) v b HV.out (resp_mono _ lo) (fun x _ => Nat.le_add_right _ _) (fun x hx => by have := dLow_bound HS.out x; omega) (by omega) (by omega) (fun _ _ => rfl) (cloLow_next _ _ _ (some ⟨bb, o, none⟩) k c (ts.take k) lo 0 du _ _ _ _ ((blk_second w1 _ _ _).drewN 1) (((Blk.new w1 _ _).alloc _).drewN 1) ((HTk.out.below (bl_drewN (bl_alloc (bl_alloc (Below.refl w1.heap.size w1) _) _) 1)).more (bl_drewN (bl_alloc (bl_alloc (Below.refl w1.heap.size w1) _) _) 1).size) HS.out (by omega) (by omega))).mono ?_
    rintro e w2 ⟨rfl, hb2⟩
    go_wp2
    go_ret2
    exact ⟨rfl, bl_trans (bl_drewN (bl_alloc (bl_alloc HB1.out _) _) 1) hb2⟩
end

section
/- Contract of the reference's ResponseLow. Nothing that was there is written. -/
open Go.RowKit
set_option linter.unusedVariables false

theorem Tks.get {w : World} {B b o n : Nat} {ts : List Tk} (h : Tks w B (some ⟨b, o, none⟩) n ts) {i : Nat} {t : Tk} (ht : ts[i]? = some t) : b < B ∧ TkAt w b (o + i * 5) t := by
  obtain ⟨b', o', e, hb, hc⟩ := h.at_ i t ht
  injection e with e
  injection e with e1 e2
  subst e1 e2
  exact ⟨hb, hc⟩

set_option maxHeartbeats 1000000 in
theorem sAt_is (w : World) (A : Option Addr) (n c : Nat) (ts : List Tk) (a : Int) (h : Tks w w.heap.size A n ts) (hn : n ≤ 1048576) (b : Bool) (hb : (setB ts && (decide (0 ≤ a) && decide (a < (n : Int)))) = b) :
    Calls Tryd.prog 20 #[.slice A n c, .int .i64 a] w fun e w' => e = .returned (.bool b) ∧ Below w.heap.size w w' := by
  have H := Lib.hid h
  clear h
  cases hs : setB ts
  · subst hb
    go_enter Tryd.func20, Tryd.ntmps20
    go_wp2_with (go_at_call 30; refine (sSetValid_any _ A n c ts H.out hn).mono ?_; rintro e w2 ⟨rfl, hb2⟩)
    go_ret
    exact ⟨by simp [hs], hb2⟩
  rw [hs, Bool.true_and] at hb
  by_cases h0 : 0 ≤ a
  · by_cases h1 : a < (n : Int)
    · rw [decide_eq_true h0, decide_eq_true h1] at hb
      subst hb
      go_enter Tryd.func20, Tryd.ntmps20
      go_wp2_with (go_at_call 30; refine (sSetValid_any _ A n c ts H.out hn).mono ?_; rintro e w2 ⟨rfl, hb2⟩)
      go_ret
      exact ⟨by simp [*], hb2⟩
    · rw [decide_eq_true h0, decide_eq_false h1] at hb
      subst hb
      go_enter Tryd.func20, Tryd.ntmps20
      go_wp2_with (go_at_call 30; refine (sSetValid_any _ A n c ts H.out hn).mono ?_; rintro e w2 ⟨rfl, hb2⟩)
      go_ret
      exact ⟨by simp [*], hb2⟩
  · rw [decide_eq_false h0] at hb
    subst hb
    go_enter Tryd.func20, Tryd.ntmps20
    go_wp2_with (go_at_call 30; refine (sSetValid_any _ A n c ts H.out hn).mono ?_; rintro e w2 ⟨rfl, hb2⟩)
    go_ret
    exact ⟨by simp [*], hb2⟩

set_option maxRecDepth 100000 in
set_option maxHeartbeats 2000000 in
theorem sRLow_is (w : World) (A : Option Addr) (n c : Nat) (ts : List Tk) (a : Int) (h : Tks w w.heap.size A n ts) (hn : n ≤ 1048576) (v : Nat) (b : Bool) (hv : resN (atI (rLow ts) a) = (v, b)) :
    Calls Tryd.prog 86 #[.slice A n c, .int .i64 a] w (NbRes v b w) := by
  have H := Lib.hid h
  have HL := Lib.hid h.len
  clear h
  cases hh : (setB ts && (decide (0 ≤ a) && decide (a < (n : Int))))
  · have hr : atI (rLow ts) a = none := by
      unfold atI
      split
      · rename_i h0
        cases hs : setB ts
        · exact rLow_bad _ hs
        · rw [hs, Bool.true_and, decide_eq_true h0, Bool.true_and] at hh
          have h1 : ¬ a < (n : Int) := of_decide_eq_false hh
          exact rLow_past (List.getElem?_eq_none (by have := HL.out; omega))
      · rfl
    rw [hr] at hv
    obtain ⟨rfl, rfl⟩ := Prod.mk.inj hv
    have HH := Lib.hid hh
    clear hr hv hh
    go_enter Tryd.func86, Tryd.ntmps86
    go_wp2_with (go_at_call 20; refine (sAt_is _ A n c ts a H.out hn false HH.out).mono ?_; rintro e w1 ⟨rfl, hb⟩)
    go_ret2
    exact ⟨rfl, hb⟩
  have HH := Lib.hid hh
  rw [Bool.and_eq_true, Bool.and_eq_true, decide_eq_true_iff, decide_eq_true_iff] at hh
  obtain ⟨hs, h0, h1⟩ := hh
  obtain ⟨k, rfl⟩ := Int.eq_ofNat_of_zero_le h0
  have hk : k < n := by omega
  obtain ⟨t, ht⟩ := get_at HL.out hk
  have hr : atI (rLow ts) (k : Int) = respOf (ts.take k) t.lo.toNat t.du.toNat := by
    unfold atI; rw [if_pos h0]; exact rLow_at hs ht
  rw [hr] at hv
  have hok := ok_parts (set_ok hs (get_mem ht))
  have HSS := Lib.hid hs
  have HS := Lib.hid (set_take hs k)
  have HT := Lib.hid ht
  have HV := Lib.hid hv
  clear hr hv hs
  obtain ⟨bb, o, rfl, hbl, _⟩ := H.out.at_ k _ ht
  clear ht
  obtain ⟨lo, hi, du, ev, cr⟩ := t
  dsimp only at hok HV
  obtain ⟨p1, p2, p3, p4, p5, _⟩ := hok
  obtain ⟨lo, rfl⟩ := Int.eq_ofNat_of_zero_le (show 0 ≤ lo by omega)
  obtain ⟨du, rfl⟩ := Int.eq_ofNat_of_zero_le (show 0 ≤ du by omega)
  have HV' : Hid (resN (leastN (fun y => lo + dLow (ts.take k) y) lo du) = (v, b)) := HV.out
  go_enter Tryd.func86, Tryd.ntmps86
  go_wp2_with fail
  refine (sAt_is _ _ n c ts (k : Int) H.out hn true HH.out).mono ?_
  rintro e w1 ⟨rfl, hb⟩
  have HB1 := Lib.hid hb
  have hsz := hb.size
  have C1 := (Tks.get (H.out.below hb) HT.out).2
  have c0 := C1.c0
  clear C1 hb
  have i1 : (k : Int) < (n : Int) := h1
  go_wp2
  go_loopw [6] (fun i wr => ∃ x : Nat, i = .int .i64 x ∧ x ≤ 1000000 ∧ Hid (NoneBelow (fun y => lo + dLow (ts.take k) y) lo x) ∧ Below w.heap.size w wr) (fun i _ => du + 1 - (intOf i).toNat)
  case atStart => exact ⟨lo, rfl, by omega, none_start _ lo, HB1.out⟩
  case round =>
    obtain ⟨x, rfl, hx, HN, hb⟩ := hrel
    have HB := Lib.hid hb
    have hsz2 := hb.size
    have C2 := (Tks.get (H.out.below hb) HT.out).2
    have d0 := C2.c0
    have d2 := C2.c2
    dsimp only at d0 d2
    clear C2 hb
    by_cases hxd : x ≤ du
    · have hxd' : (x : Int) ≤ (du : Int) := by omega
      go_wp2
      go_loopw [7, 8] (fun s i wr => ∃ j m : Nat, j ≤ k ∧ i = .int .i64 j ∧ s = .int .i64 (m : Int) ∧ Hid (m = lo + dLow (ts.take j) x) ∧ Below w.heap.size w wr) (fun _ i _ => k - (intOf i).toNat)
      case atStart => exact ⟨0, lo, Nat.zero_le _, rfl, rfl, (show lo = _ by simp [dLow]), HB.out⟩
      case round =>
        obtain ⟨j, m, hj, rfl, rfl, HM, hb3⟩ := hrel
        have HB3 := Lib.hid hb3
        have hsz3 := hb3.size
        clear hb3
        by_cases hjk : j < k
        · obtain ⟨u, hu⟩ := get_at HL.out (show j < n by omega)
          have C3 := (Tks.get (H.out.below HB3.out) hu).2
          have HVu := Lib.hid (set_ok HSS.out (get_mem hu))
          have HTu := Lib.hid (dLow_take hu x)
          have hb1 := dLow_bound (set_take HSS.out j) x
          have hb2 := dmd_bound HVu.out x false
          obtain ⟨d, hd⟩ : ∃ d, dmd u x false = d := ⟨_, rfl⟩
          rw [hd] at hb2
          have hm1 : m ≤ lo + 100 * (x + 20) := by rw [HM.out]; omega
          have HM' : Hid (m + d = lo + dLow (ts.take (j + 1)) x) := by show _ = _; rw [HTu.out, hd, HM.out]; omega
          have HD := Lib.hid hd
          clear hd hu HTu hb1
          obtain ⟨lo', hi', du', ev', cr'⟩ := u
          obtain ⟨g0, g1, g2, g3, g4⟩ := C3
          dsimp only at g0 g1 g2 g3 g4
          have i2 : (j : Int) < (n : Int) := by omega
          go_wp2_with (go_at_call 87; refine (sDemand_is _ lo' hi' du' ev' cr' x false d HVu.out (by omega) HD.out).mono ?_; rintro e w2 ⟨rfl, rfl⟩)
          go_roundw
          case rel => exact ⟨j + 1, m + d, by omega, by go_num, by go_num, HM', bl_alloc HB3.out _⟩
          case measure => simp [intOf]; omega
        · obtain rfl : j = k := by omega
          have hmb : m ≤ lo + 100 * (x + 20) := by have := dLow_bound HS.out x; rw [HM.out]; omega
          by_cases he : m = x
          · have hei : (m : Int) = (x : Int) := by omega
            obtain ⟨rfl, rfl⟩ : x = v ∧ true = b := Prod.mk.inj (by rw [← HV'.out, least_hit HN.out hxd (by rw [← he]; exact (by rw [he]; exact HM.out.symm.trans he))]; rfl)
            go_wp2
            go_ret2
            exact ⟨rfl, HB3.out⟩
          · have hei : ¬ (m : Int) = (x : Int) := by omega
            have hnx := none_step (resp_mono (ts.take j) lo) (fun y _ => Nat.le_add_right lo (dLow (ts.take j) y)) HN.out
            have hlt := none_le (resp_mono (ts.take j) lo) (fun y _ => Nat.le_add_right lo (dLow (ts.take j) y)) HN.out
            have hnm : Hid (NoneBelow (fun y => lo + dLow (ts.take j) y) lo m) := by show NoneBelow _ _ _; rw [HM.out]; exact hnx
            have hlm : x ≤ m := by rw [HM.out]; exact hlt
            clear hnx hlt
            go_wp2
            go_roundw
            case rel => exact ⟨m, rfl, by omega, hnm, HB3.out⟩
            case measure => simp [intOf]; omega
    · have hxd' : ¬ (x : Int) ≤ (du : Int) := by omega
      obtain ⟨rfl, rfl⟩ : 0 = v ∧ false = b := Prod.mk.inj (by rw [← HV'.out, least_past HN.out (by omega)]; rfl)
      go_wp2
      go_ret2
      exact ⟨rfl, HB.out⟩
end

section
/- Contracts of ResponseHigh, in the program and in the reference. Nothing that was there is written. -/
open Go.RowKit
set_option linter.unusedVariables false

theorem own_le {w : World} {B c : Nat} {A : Option Addr} {ts : List Tk} (h : Own w B (.slice A ts.length c) ts) : ts.length ≤ c := by
  rcases h.2 with ⟨e, h0⟩ | ⟨g, cap, cur, e, _, _, h1, h2, _⟩
  · omega
  · injection e with e1 e2 e3
    subst e3
    exact h1
theorem has_no {ts : List Tk} {n : Nat} {a : Int} (hl : ts.length = n) (h : (setB ts && (decide (0 ≤ a) && decide (a < (n : Int)))) = false) (f : Nat → Option Nat) (hb : ∀ k, setB ts = false → f k = none) (hp : ∀ k, ts[k]? = none → f k = none) : atI f a = none := by
  unfold atI
  split
  · rename_i h0
    cases hs : setB ts
    · exact hb _ hs
    · rw [hs, Bool.true_and, decide_eq_true h0, Bool.true_and] at h
      have h1 : ¬ a < (n : Int) := of_decide_eq_false h
      exact hp _ (List.getElem?_eq_none (by omega))
  · rfl
end

section
/- What the walks of chapter 3's laws share (no program text). -/
open Go.RowKit
set_option linter.unusedVariables false

theorem tks_to {w1 W : World} {A : Option Addr} {n : Nat} {ts : List Tk} (h : Tks w1 w1.heap.size A n ts) (hb : Below w1.heap.size w1 W) : Tks W W.heap.size A n ts := (h.below hb).more hb.size
theorem res_false {o : Option Nat} {v : Nat} (h : resN o = (v, false)) : o = none ∧ 0 = v := by
  cases o with
  | none => exact ⟨rfl, (Prod.mk.inj h).1⟩
  | some x => cases (Prod.mk.inj h).2
theorem res_true {o : Option Nat} {v : Nat} (h : resN o = (v, true)) : o = some v := by
  cases o with
  | none => cases (Prod.mk.inj h).2
  | some x => rw [← (Prod.mk.inj h).1]; rfl
theorem at_some {f : Nat → Option Nat} {a : Int} {v : Nat} (h : atI f a = some v) : ∃ k : Nat, a = (k : Int) ∧ f k = some v := by
  unfold atI at h
  split at h
  · rename_i h0
    obtain ⟨k, rfl⟩ := Int.eq_ofNat_of_zero_le h0
    exact ⟨k, rfl, h⟩
  · cases h
theorem at_nat (f : Nat → Option Nat) (k : Nat) : atI f (k : Int) = f k := by unfold atI; rw [if_pos (by omega)]; rfl
/-- A task that responds. -/
theorem rLow_some {ts : List Tk} {k v : Nat} (h : rLow ts k = some v) : setB ts = true ∧ ∃ t, ts[k]? = some t ∧ respOf (ts.take k) t.lo.toNat t.du.toNat = some v := by
  cases hs : setB ts
  · rw [rLow_bad k hs] at h; cases h
  · cases ht : ts[k]? with
    | none => rw [rLow_past ht] at h; cases h
    | some t =>
      rw [rLow_at hs ht] at h
      exact ⟨rfl, t, rfl, h⟩
theorem resp_fix {xs : List Tk} {n d v : Nat} (h : respOf xs n d = some v) : n + dLow xs v = v ∧ n ≤ v ∧ v ≤ d ∧ ∀ x, n ≤ x → x < v → x < n + dLow xs x := by
  obtain ⟨h1, h2, _, h4⟩ := least_some.1 h
  exact ⟨least_fix (resp_mono xs n) (fun x _ => Nat.le_add_right _ _) h, h1, h2, h4⟩
theorem rHigh_some {ts : List Tk} {k v : Nat} (h : rHigh ts k = some v) : setB ts = true ∧ ∃ t, ts[k]? = some t ∧ t.cr = true ∧ respOf (critL (ts.take k)) t.hi.toNat t.du.toNat = some v := by
  cases hs : setB ts
  · rw [rHigh_bad k hs] at h; cases h
  · cases ht : ts[k]? with
    | none => rw [rHigh_past ht] at h; cases h
    | some t =>
      cases hc : t.cr
      · rw [rHigh_not ht hc] at h; cases h
      · rw [rHigh_is hs ht hc] at h
        exact ⟨rfl, t, rfl, hc, h⟩
/-- The demand of a valid task in a window that is no longer than may be. -/
theorem dm_ok {t : Tk} {x m : Nat} {hb : Bool} (h : t.ok = true) (hx : x ≤ 1000000) (hm : dmd t x hb = m) : dmOf t (x : Int) hb = (m, true) := by
  unfold dmOf
  rw [h, decide_eq_true (show (0 : Int) ≤ x by omega), decide_eq_true (show (x : Int) ≤ 1000000 by omega), ← hm]; rfl
theorem task_nat {t : Tk} (h : t.ok = true) : ∃ (a b d e : Nat) (c : Bool), t = ⟨a, b, d, e, c⟩ ∧ 1 ≤ a ∧ a ≤ b ∧ b ≤ d ∧ d ≤ e ∧ e ≤ 20 := by
  obtain ⟨h1, h2, h3, h4, h5, _⟩ := ok_parts h
  obtain ⟨lo, hi, du, ev, cr⟩ := t
  dsimp only at h1 h2 h3 h4 h5
  obtain ⟨a, rfl⟩ := Int.eq_ofNat_of_zero_le (show 0 ≤ lo by omega)
  obtain ⟨b, rfl⟩ := Int.eq_ofNat_of_zero_le (show 0 ≤ hi by omega)
  obtain ⟨d, rfl⟩ := Int.eq_ofNat_of_zero_le (show 0 ≤ du by omega)
  obtain ⟨e, rfl⟩ := Int.eq_ofNat_of_zero_le (show 0 ≤ ev by omega)
  exact ⟨a, b, d, e, cr, rfl, by omega, by omega, by omega, by omega, by omega⟩
theorem own_at0 {w : World} {B c : Nat} {A : Option Addr} {ts : List Tk} (h : Own w B (.slice A ts.length c) ts) (hl : 1 ≤ ts.length) : ∃ g, A = some ⟨g, 0, none⟩ := by
  rcases h.2 with ⟨e, h0⟩ | ⟨g, cap, cur, e, _, _, h1, h2, _⟩
  · omega
  · injection e with e1 e2 e3
    exact ⟨g, e1⟩
end

section
/- Switches, prefixes and critical tasks alone, as plain data (no program text). -/
open Go.RowKit
set_option linter.unusedVariables false

theorem rSwi_some {ts : List Tk} {k v : Nat} (h : rSwi ts k = some v) : setB ts = true ∧ ∃ t l, ts[k]? = some t ∧ t.cr = true ∧ rLow ts k = some l ∧ swiOf (ts.take k) l t.hi.toNat t.du.toNat = some v := by
  cases hl : rLow ts k with
  | none => rw [rSwi_none hl] at h; cases h
  | some l =>
    obtain ⟨hs, t, ht, hf⟩ := rLow_some hl
    cases hc : t.cr
    · rw [rSwi_not ht hc] at h; cases h
    · rw [rSwi_at hl ht hc] at h
      exact ⟨hs, t, l, ht, hc, rfl, h⟩
theorem swi_fix {xs : List Tk} {l n d v : Nat} (h : swiOf xs l n d = some v) : n + dSwi xs l v = v ∧ n ≤ v ∧ v ≤ d ∧ ∀ x, n ≤ x → x < v → x < n + dSwi xs l x := by
  obtain ⟨h1, h2, _, h4⟩ := least_some.1 h
  exact ⟨least_fix (swi_mono xs l n) (fun x _ => Nat.le_add_right _ _) h, h1, h2, h4⟩
theorem dLow_le_swi {ts : List Tk} (ho : ∀ t ∈ ts, t.ok = true) {l w : Nat} (h : w ≤ l) : dLow ts w ≤ dSwi ts l w := sum_le fun t ht => by
  unfold dmS; split
  · exact dmd_low (ho t ht) w true
  · exact dmd_mono t false h
/-- A response at the switch is no shorter than those in both modes. -/
theorem swi_longest {ts : List Tk} {k v : Nat} (h : rSwi ts k = some v) : ∃ l r, rLow ts k = some l ∧ rHigh ts k = some r ∧ l ≤ v ∧ r ≤ v := by
  obtain ⟨hs, t, l, ht, hc, hl, hf⟩ := rSwi_some h
  obtain ⟨x1, x2, x3, x4⟩ := swi_fix hf
  obtain ⟨_, t', ht', hr⟩ := rLow_some hl
  obtain rfl : t = t' := by rw [ht] at ht'; exact Option.some.inj ht'
  obtain ⟨y1, y2, y3, y4⟩ := resp_fix hr
  have o := ok_parts (set_ok hs (get_mem ht))
  have hh : ∃ r, rHigh ts k = some r ∧ r ≤ v := by
    rw [rHigh_is hs ht hc]
    have hd := dCrit_le (ts.take k) l v
    cases hx : respOf (critL (ts.take k)) t.hi.toNat t.du.toNat with
    | none =>
      have := least_none.1 hx v x2 x3
      omega
    | some r =>
      refine ⟨r, rfl, ?_⟩
      obtain ⟨z1, z2, z3, z4⟩ := resp_fix hx
      rcases Nat.lt_or_ge v r with hlt | hge
      · have := z4 v x2 hlt
        omega
      · exact hge
  obtain ⟨r, hr1, hr2⟩ := hh
  refine ⟨l, r, hl, hr1, ?_, hr2⟩
  rcases Nat.lt_or_ge v l with hlt | hge
  · have h1 := y4 v (by omega) hlt
    have h2 := dLow_le_swi (fun u hu => set_ok (set_take hs k) hu) (Nat.le_of_lt hlt) (l := l) (w := v)
    omega
  · exact hge

/-- The first task responds in what it needs. -/
theorem first_low {ts : List Tk} {t : Tk} (hs : setB ts = true) (h : ts[0]? = some t) : rLow ts 0 = some t.lo.toNat := by
  have o := ok_parts (set_ok hs (get_mem h))
  rw [rLow_at hs h]
  exact least_hit (none_start _ _) (by omega) (by simp [dLow])
theorem first_swi {ts : List Tk} {t : Tk} (hs : setB ts = true) (h : ts[0]? = some t) (hc : t.cr = true) : rSwi ts 0 = some t.hi.toNat := by
  have o := ok_parts (set_ok hs (get_mem h))
  rw [rSwi_at (first_low hs h) h hc]
  exact least_hit (none_start _ _) (by omega) (by simp [dSwi])
theorem first_both {ts : List Tk} {t : Tk} (hs : setB ts = true) (h : ts[0]? = some t) : bothAt ts 0 = true := by
  cases hc : t.cr
  · rw [both_no h hc, first_low hs h]; rfl
  · rw [both_cr h hc, first_swi hs h hc]; rfl
theorem one_good {t : Tk} (h : t.ok = true) : fBad [t] = none := by
  have hs : setB [t] = true := set_of (by simp) fun u hu => by simp at hu; rw [hu]; exact h
  refine fBad_none hs fun j hj => ?_
  obtain rfl : j = 0 := by simp at hj; exact hj
  exact first_both hs rfl

/-- What comes behind does not matter. -/
theorem take_get {ts : List Tk} {m j : Nat} (h : j < m) : (ts.take m)[j]? = ts[j]? := by rw [List.getElem?_take, if_pos h]
theorem take_take' {ts : List Tk} {m j : Nat} (h : j < m) : (ts.take m).take j = ts.take j := by rw [List.take_take, Nat.min_eq_left (Nat.le_of_lt h)]
theorem rLow_pre {ts : List Tk} {m j : Nat} (hs : setB ts = true) (h : j < m) : rLow (ts.take m) j = rLow ts j := by
  cases ht : ts[j]? with
  | none => rw [rLow_past ht, rLow_past (by rw [take_get h]; exact ht)]
  | some t => rw [rLow_at hs ht, rLow_at (set_take hs m) (by rw [take_get h]; exact ht), take_take' h]
theorem rSwi_pre {ts : List Tk} {m j : Nat} (hs : setB ts = true) (h : j < m) : rSwi (ts.take m) j = rSwi ts j := by
  cases hl : rLow ts j with
  | none => rw [rSwi_none hl, rSwi_none (by rw [rLow_pre hs h]; exact hl)]
  | some l =>
    obtain ⟨_, t, ht, _⟩ := rLow_some hl
    cases hc : t.cr
    · rw [rSwi_not ht hc, rSwi_not (by rw [take_get h]; exact ht) hc]
    · rw [rSwi_at hl ht hc, rSwi_at (by rw [rLow_pre hs h]; exact hl) (by rw [take_get h]; exact ht) hc, take_take' h]
theorem both_pre {ts : List Tk} {m j : Nat} (hs : setB ts = true) (h : j < m) : bothAt (ts.take m) j = bothAt ts j := by
  unfold bothAt
  rw [take_get h, rSwi_pre hs h, rLow_pre hs h]
theorem hBoth_pre {ts : List Tk} (h : hBoth ts = true) (m : Nat) : hBoth (ts.take m) = true := by
  obtain ⟨h1, h2⟩ := hBoth_iff.1 h
  refine hBoth_iff.2 ⟨set_take h1 m, fun k hk => ?_⟩
  rw [List.length_take] at hk
  rw [both_pre h1 (by omega)]
  exact h2 k (by omega)
theorem bad_pre {ts : List Tk} {k : Nat} (h : fBad ts = some k) : k < ts.length ∧ hBoth (ts.take k) = true ∧ hBoth (ts.take (k + 1)) = false := by
  obtain ⟨hs, hk, hb, ha⟩ := fBad_at h
  refine ⟨hk, hBoth_iff.2 ⟨set_take hs k, fun j hj => ?_⟩, ?_⟩
  · rw [List.length_take] at hj
    rw [both_pre hs (by omega)]
    exact ha j (by omega)
  · refine hBoth_no (k := k) (by rw [List.length_take]; omega) ?_
    rw [both_pre hs (by omega)]
    exact hb
theorem hBoth_low {ts : List Tk} (h : hBoth ts = true) : hLow ts = true := by
  obtain ⟨h1, h2⟩ := hBoth_iff.1 h
  exact hLow_iff.2 ⟨h1, fun k hk => both_low (h2 k hk)⟩

/-- Where a critical task comes from. -/
theorem crit_from : ∀ {ts : List Tk} {i : Nat}, i < (critL ts).length → ∃ k t, ts[k]? = some t ∧ t.cr = true ∧ (critL (ts.take k)).length = i
  | [], i, h => by simp [critL] at h
  | t :: ts, i, h => by
    have hc : critL (t :: ts) = critL [t] ++ critL ts := crit_app [t] ts
    cases hcr : t.cr
    · have h1 : critL [t] = [] := by simp [critL, hcr]
      rw [hc, h1, List.nil_append] at h
      obtain ⟨k, u, h2, h3, h4⟩ := crit_from h
      refine ⟨k + 1, u, by simpa using h2, h3, ?_⟩
      rw [List.take_succ_cons, show t :: ts.take k = [t] ++ ts.take k from rfl, crit_app, h1, List.nil_append]
      exact h4
    · have h1 : (critL [t]).length = 1 := by simp [critL, hcr]
      rcases Nat.eq_zero_or_pos i with rfl | hi
      · exact ⟨0, t, rfl, hcr, by simp [critL]⟩
      · rw [hc, List.length_append, h1] at h
        obtain ⟨k, u, h2, h3, h4⟩ := crit_from (ts := ts) (i := i - 1) (by omega)
        refine ⟨k + 1, u, by simpa using h2, h3, ?_⟩
        rw [List.take_succ_cons, show t :: ts.take k = [t] ++ ts.take k from rfl, crit_app, List.length_append, h1, h4]
        omega
theorem crit_mem' {ts : List Tk} {t : Tk} (h : t ∈ critL ts) : t.cr = true ∧ t.lo = t.hi := by
  rw [critL_eq, List.mem_map] at h
  obtain ⟨u, hu, rfl⟩ := h
  exact ⟨(List.mem_filter.1 hu).2, rfl⟩
/-- Tasks that are critical and need no more in the high mode need the same around a switch. -/
theorem swi_same {xs : List Tk} (h : ∀ t ∈ xs, t.cr = true ∧ t.lo = t.hi) (l w : Nat) : dSwi xs l w = dLow xs w := by
  unfold dSwi dLow
  congr 1
  refine List.map_congr_left fun t ht => ?_
  obtain ⟨h1, h2⟩ := h t ht
  unfold dmS dmd
  rw [h1, ← h2]; rfl
theorem crit_both {ts : List Tk} (hs : setB ts = true) {i : Nat} (h : (rLow (critL ts) i).isSome = true) : bothAt (critL ts) i = true := by
  obtain ⟨l, hl⟩ := some_of h
  obtain ⟨_, t, ht, hf⟩ := rLow_some hl
  obtain ⟨h1, h2⟩ := crit_mem' (get_mem ht)
  rw [both_cr ht h1, rSwi_at hl ht h1]
  have he : swiOf ((critL ts).take i) l t.hi.toNat t.du.toNat = respOf ((critL ts).take i) t.lo.toNat t.du.toNat := by
    unfold swiOf respOf
    congr 1
    · funext w
      rw [swi_same (fun u hu => crit_mem' ((List.take_sublist i _).subset hu)), h2]
    · rw [h2]
  rw [he, hf]; rfl
theorem crit_holds {ts : List Tk} (h : hBoth ts = true) : hLow (critL ts) = true ∧ hBoth (critL ts) = true := by
  obtain ⟨h1, h2⟩ := hBoth_iff.1 h
  have key : ∀ i, i < (critL ts).length → (rLow (critL ts) i).isSome = true := by
    intro i hi
    obtain ⟨k, t, ht, hc, hk⟩ := crit_from hi
    have hb := h2 k (List.getElem?_eq_some_iff.1 ht).1
    rw [both_cr ht hc] at hb
    obtain ⟨v, hv⟩ := some_of hb
    obtain ⟨l, r, _, hr, _, _⟩ := swi_longest hv
    rw [rHigh_at h1 ht hc, hk] at hr
    rw [hr]; rfl
  exact ⟨hLow_iff.2 ⟨set_crit h1, key⟩, hBoth_iff.2 ⟨set_crit h1, fun i hi => crit_both h1 (key i hi)⟩⟩
end

section
/- Orders of tasks as plain data: what holds last, orders that are found, all orders (no program text). -/
open Go.RowKit
set_option linter.unusedVariables false

/-- Whether a task holds in both modes behind other tasks. -/
def bothL (xs : List Tk) (t : Tk) : Bool :=
  match respOf xs t.lo.toNat t.du.toNat with
  | none => false
  | some l => !t.cr || (swiOf xs l t.hi.toNat t.du.toNat).isSome
theorem both_is {ts : List Tk} {k : Nat} {t : Tk} (hs : setB ts = true) (ht : ts[k]? = some t) : bothAt ts k = bothL (ts.take k) t := by
  unfold bothL
  have hr := rLow_at hs ht
  cases hc : t.cr
  · rw [both_no ht hc, hr]
    cases respOf (ts.take k) t.lo.toNat t.du.toNat <;> rfl
  · rw [both_cr ht hc]
    cases hx : respOf (ts.take k) t.lo.toNat t.du.toNat with
    | none => rw [rSwi_none (hr.trans hx)]; rfl
    | some l => rw [rSwi_at (hr.trans hx) ht hc]; simp
def Holds (ts : List Tk) : Prop := ∀ k t, ts[k]? = some t → bothL (ts.take k) t = true
theorem hBoth_holds {ts : List Tk} : hBoth ts = true ↔ setB ts = true ∧ Holds ts := by
  rw [hBoth_iff]
  constructor
  · rintro ⟨h1, h2⟩
    exact ⟨h1, fun k t ht => by rw [← both_is h1 ht]; exact h2 k (List.getElem?_eq_some_iff.1 ht).1⟩
  · rintro ⟨h1, h2⟩
    refine ⟨h1, fun k hk => ?_⟩
    obtain ⟨t, ht⟩ := get_at (n := ts.length) rfl hk
    rw [both_is h1 ht]
    exact h2 k t ht
theorem sum_perm_nat {f : Tk → Nat} {xs ys : List Tk} (h : xs.Perm ys) : (xs.map f).sum = (ys.map f).sum := (h.map f).sum_nat
theorem bothL_perm {xs ys : List Tk} (h : xs.Perm ys) (t : Tk) : bothL xs t = bothL ys t := by
  unfold bothL respOf swiOf dLow dSwi
  simp only [sum_perm_nat h]
theorem bothL_sub {xs ys : List Tk} (h : xs.Sublist ys) {t : Tk} (hb : bothL ys t = true) : bothL xs t = true := by
  unfold bothL at hb ⊢
  cases hy : respOf ys t.lo.toNat t.du.toNat with
  | none => rw [hy] at hb; cases hb
  | some l =>
    rw [hy] at hb
    obtain ⟨l', hl', hle⟩ := least_less (G := fun w => t.lo.toNat + dLow xs w) (lo' := t.lo.toNat) (hi' := t.du.toNat) (fun v _ _ => Nat.add_le_add_left (sum_sub (fun t => dmd t v false) h) _) (Nat.le_refl _) (Nat.le_refl _) hy
    have hl2 : respOf xs t.lo.toNat t.du.toNat = some l' := hl'
    rw [hl2]
    cases hc : t.cr
    · rfl
    · rw [hc] at hb
      simp only [Bool.not_true, Bool.false_or] at hb ⊢
      obtain ⟨v, hv⟩ := some_of hb
      obtain ⟨v', hv', _⟩ := least_less (G := fun w => t.hi.toNat + dSwi xs l' w) (lo' := t.hi.toNat) (hi' := t.du.toNat) (fun w _ _ => Nat.add_le_add_left (Nat.le_trans (sum_le (g := dmS l w) fun u _ => by
        unfold dmS; split
        · exact Nat.le_refl _
        · exact dmd_mono u false hle) (sum_sub (dmS l w) h)) _) (Nat.le_refl _) (Nat.le_refl _) hv
      have : swiOf xs l' t.hi.toNat t.du.toNat = some v' := hv'
      rw [this]; rfl
theorem holds_nil : Holds [] := fun k t h => by simp at h
theorem holds_snoc {xs : List Tk} {t : Tk} : Holds (xs ++ [t]) ↔ Holds xs ∧ bothL xs t = true := by
  constructor
  · intro h
    refine ⟨fun k u hu => ?_, ?_⟩
    · have hk := (List.getElem?_eq_some_iff.1 hu).1
      have := h k u (by rw [List.getElem?_append_left hk]; exact hu)
      rwa [List.take_append_of_le_length (by omega)] at this
    · have := h xs.length t (by simp)
      rwa [List.take_left] at this
  · rintro ⟨h1, h2⟩ k u hu
    rcases Nat.lt_or_ge k xs.length with hk | hk
    · rw [List.getElem?_append_left hk] at hu
      rw [List.take_append_of_le_length (by omega)]
      exact h1 k u hu
    · rw [List.getElem?_append_right hk] at hu
      have hk2 : k - xs.length = 0 := by
        have := (List.getElem?_eq_some_iff.1 hu).1
        simp at this; omega
      rw [hk2] at hu
      simp at hu
      subst hu
      obtain rfl : k = xs.length := by omega
      rw [List.take_left]; exact h2
theorem snoc_of {α : Type} : ∀ {xs : List α}, xs ≠ [] → ∃ ys y, xs = ys ++ [y]
  | xs, h => ⟨xs.dropLast, xs.getLast h, (List.dropLast_concat_getLast h).symm⟩
theorem holds_sub : ∀ {n : Nat} {xs ys : List Tk}, ys.length = n → xs.Sublist ys → Holds ys → Holds xs
  | 0, xs, ys, hn, hs, hy => by
    obtain rfl : ys = [] := List.eq_nil_of_length_eq_zero hn
    obtain rfl : xs = [] := by simpa using hs
    exact holds_nil
  | n + 1, xs, ys, hn, hs, hy => by
    obtain ⟨ys', y, rfl⟩ := snoc_of (xs := ys) (by rintro rfl; simp at hn)
    obtain ⟨h1, h2⟩ := holds_snoc.1 hy
    have hl : ys'.length = n := by simpa using hn
    rw [List.sublist_append_iff] at hs
    obtain ⟨a, b, rfl, ha, hb⟩ := hs
    cases b with
    | nil => rw [List.append_nil]; exact holds_sub hl ha h1
    | cons c b =>
      have hlen := hb.length_le
      simp at hlen
      subst hlen
      have hc : c = y := by simpa using hb
      subst hc
      exact holds_snoc.2 ⟨holds_sub hl ha h1, bothL_sub ha h2⟩
theorem holds_perm_last {xs ys : List Tk} {t : Tk} (h : xs.Perm ys) (hx : Holds xs) (hb : bothL ys t = true) : Holds (xs ++ [t]) := holds_snoc.2 ⟨hx, by rw [bothL_perm h]; exact hb⟩

/-- Whether a task can be last. -/
def canL (ts : List Tk) (k : Nat) : Bool :=
  match ts[k]? with
  | some t => setB ts && bothL (ts.eraseIdx k) t
  | none => false
def endOf (ts : List Tk) (k : Nat) (t : Tk) : List Tk := ts.eraseIdx k ++ [t]
theorem erase_perm {ts : List Tk} {k : Nat} {t : Tk} (h : ts[k]? = some t) : (t :: ts.eraseIdx k).Perm ts := by
  obtain ⟨hk, rfl⟩ := List.getElem?_eq_some_iff.1 h
  rw [List.eraseIdx_eq_take_drop_succ]
  have : ts = ts.take k ++ ts[k] :: ts.drop (k + 1) := by rw [← List.drop_eq_getElem_cons hk, List.take_append_drop]
  exact (List.perm_middle.symm).trans (List.Perm.of_eq this.symm)
theorem end_perm {ts : List Tk} {k : Nat} {t : Tk} (h : ts[k]? = some t) : (endOf ts k t).Perm ts := List.perm_append_comm.trans (erase_perm h)
theorem set_perm {xs ys : List Tk} (h : xs.Perm ys) : setB xs = setB ys := by
  unfold setB
  rw [h.length_eq]
  congr 1
  rw [Bool.eq_iff_iff, List.all_eq_true, List.all_eq_true]
  exact ⟨fun g x hx => g x (h.mem_iff.2 hx), fun g x hx => g x (h.mem_iff.1 hx)⟩
theorem end_last {ts : List Tk} {k : Nat} {t : Tk} (h : ts[k]? = some t) : (endOf ts k t)[ts.length - 1]? = some t ∧ (endOf ts k t).take (ts.length - 1) = ts.eraseIdx k ∧ (endOf ts k t).length = ts.length := by
  have hk := (List.getElem?_eq_some_iff.1 h).1
  have hl : (ts.eraseIdx k).length = ts.length - 1 := by rw [List.length_eraseIdx, if_pos hk]
  unfold endOf
  refine ⟨?_, ?_, ?_⟩
  · rw [List.getElem?_append_right (by omega), hl, Nat.sub_self]; rfl
  · rw [← hl, List.take_left]
  · rw [List.length_append, hl]; simp; omega
theorem can_end {ts : List Tk} {k : Nat} {t : Tk} (hs : setB ts = true) (h : ts[k]? = some t) : canL ts k = bothAt (endOf ts k t) (ts.length - 1) := by
  obtain ⟨h1, h2, _⟩ := end_last h
  rw [both_is (by rw [set_perm (end_perm h)]; exact hs) h1, h2]
  unfold canL
  rw [h, hs]; rfl
theorem can_bad {ts : List Tk} (k : Nat) (hs : setB ts = false) : canL ts k = false := by unfold canL; split <;> simp [hs]
theorem can_past {ts : List Tk} {k : Nat} (h : ts[k]? = none) : canL ts k = false := by unfold canL; rw [h]
theorem can_at {ts : List Tk} {k : Nat} {t : Tk} (hs : setB ts = true) (h : ts[k]? = some t) : canL ts k = bothL (ts.eraseIdx k) t := by unfold canL; rw [h, hs]; rfl

/-- Tasks in an order. -/
instance : Inhabited Tk := ⟨⟨0, 0, 0, 0, false⟩⟩
def putN (ts : List Tk) (o : List Nat) : List Tk := o.map fun i => ts.getD i default
theorem put_range (ts : List Tk) : putN ts (List.range ts.length) = ts := by
  refine List.ext_getElem? fun i => ?_
  unfold putN
  rw [List.getElem?_map]
  rcases Nat.lt_or_ge i ts.length with h | h
  · rw [List.getElem?_range h, Option.map_some, List.getD_eq_getElem?_getD, List.getElem?_eq_getElem h]; rfl
  · rw [List.getElem?_eq_none (by simpa using h), List.getElem?_eq_none h]; rfl
theorem put_perm {ts : List Tk} {o p : List Nat} (h : o.Perm p) : (putN ts o).Perm (putN ts p) := h.map _
theorem put_len (ts : List Tk) (o : List Nat) : (putN ts o).length = o.length := by simp [putN]
theorem put_get {ts : List Tk} {o : List Nat} {i x : Nat} {t : Tk} (h : o[i]? = some x) (ht : ts[x]? = some t) : (putN ts o)[i]? = some t := by
  unfold putN
  rw [List.getElem?_map, h, Option.map_some, List.getD_eq_getElem?_getD, ht]; rfl
theorem put_all {ts : List Tk} {o : List Nat} (h : o.Perm (List.range ts.length)) : (putN ts o).Perm ts := (put_perm h).trans (List.Perm.of_eq (put_range ts))
theorem put_erase (ts : List Tk) (o : List Nat) (k : Nat) : putN ts (o.eraseIdx k) = (putN ts o).eraseIdx k := by
  unfold putN
  rw [List.eraseIdx_eq_take_drop_succ, List.eraseIdx_eq_take_drop_succ, List.map_append, List.map_take, List.map_drop]
theorem put_app (ts : List Tk) (o p : List Nat) : putN ts (o ++ p) = putN ts o ++ putN ts p := by simp [putN]
/-- What is a permutation of an image comes from a permutation. -/
theorem perm_from {α β : Type} [DecidableEq α] (f : α → β) : ∀ (us : List β) (l : List α), us.Perm (l.map f) → ∃ p : List α, p.Perm l ∧ p.map f = us
  | [], l, h => by
    have : l = [] := by simpa using h.symm
    exact ⟨[], by rw [this], rfl⟩
  | u :: us, l, h => by
    have hm : u ∈ l.map f := h.mem_iff.1 (by simp)
    obtain ⟨x, hx, rfl⟩ := List.mem_map.1 hm
    have hp : l.Perm (x :: l.erase x) := List.perm_cons_erase hx
    have h2 := (h.trans (hp.map f))
    rw [List.map_cons] at h2
    obtain ⟨p, hp1, hp2⟩ := perm_from f us (l.erase x) h2.cons_inv
    exact ⟨x :: p, (hp1.cons x).trans hp.symm, by rw [List.map_cons, hp2]⟩
theorem put_from {ts us : List Tk} (h : us.Perm ts) : ∃ p, p.Perm (List.range ts.length) ∧ putN ts p = us := by
  rw [← put_range ts] at h
  obtain ⟨p, h1, h2⟩ := perm_from (fun i => ts.getD i default) us (List.range (putN ts (List.range ts.length)).length) (by
    have : (putN ts (List.range ts.length)).length = ts.length := by rw [put_len]; simp
    rw [this]
    exact h)
  rw [put_len, List.length_range] at h1
  exact ⟨p, h1, h2⟩

/-- The last place that can be last. -/
def pickL (ts : List Tk) (left : List Nat) : Option Nat := (List.range left.length).reverse.find? fun i => canL (putN ts left) i
def asg (ts : List Tk) : Nat → List Nat → List Nat → Option (List Nat)
  | 0, _, acc => some acc
  | n + 1, left, acc =>
    match pickL ts left with
    | none => none
    | some i => asg ts n (left.eraseIdx i) (left.getD i 0 :: acc)
def assignOf (ts : List Tk) : Option (List Nat) := if setB ts then asg ts ts.length (List.range ts.length) [] else none

theorem find_rev {p : Nat → Bool} : ∀ {n i : Nat}, (List.range n).reverse.find? p = some i ↔ i < n ∧ p i = true ∧ ∀ j, i < j → j < n → p j = false
  | 0, i => by simp
  | n + 1, i => by
    rw [List.range_succ, List.reverse_append, List.reverse_singleton, List.singleton_append, List.find?_cons]
    cases hp : p n
    · rw [find_rev (n := n)]
      constructor
      · rintro ⟨h1, h2, h3⟩
        refine ⟨by omega, h2, fun j hj hn => ?_⟩
        rcases Nat.lt_or_ge j n with h | h
        · exact h3 j hj h
        · obtain rfl : j = n := by omega
          exact hp
      · rintro ⟨h1, h2, h3⟩
        have : i ≠ n := by rintro rfl; rw [hp] at h2; cases h2
        exact ⟨by omega, h2, fun j hj hn => h3 j hj (by omega)⟩
    · simp only [Option.some.injEq]
      constructor
      · rintro rfl; exact ⟨by omega, hp, fun j h1 h2 => by omega⟩
      · rintro ⟨h1, h2, h3⟩
        rcases Nat.lt_or_ge i n with h | h
        · have := h3 n h (by omega); rw [hp] at this; cases this
        · omega
theorem pick_some {ts : List Tk} {left : List Nat} {i : Nat} (h : pickL ts left = some i) : i < left.length ∧ canL (putN ts left) i = true ∧ ∀ j, i < j → j < left.length → canL (putN ts left) j = false := find_rev.1 h
theorem pick_none {ts : List Tk} {left : List Nat} (h : pickL ts left = none) : ∀ i, i < left.length → canL (putN ts left) i = false := by
  unfold pickL at h
  rw [List.find?_eq_none] at h
  intro i hi
  have := h i (by simpa using hi)
  simpa using this
theorem nat_erase {l : List Nat} {k x : Nat} (h : l[k]? = some x) : (x :: l.eraseIdx k).Perm l := by
  obtain ⟨hk, rfl⟩ := List.getElem?_eq_some_iff.1 h
  rw [List.eraseIdx_eq_take_drop_succ]
  have : l = l.take k ++ l[k] :: l.drop (k + 1) := by rw [← List.drop_eq_getElem_cons hk, List.take_append_drop]
  exact (List.perm_middle.symm).trans (List.Perm.of_eq this.symm)
theorem nat_at {l : List Nat} {k : Nat} (h : k < l.length) : l[k]? = some (l.getD k 0) := by
  rw [List.getD_eq_getElem?_getD, List.getElem?_eq_getElem h]; rfl
/-- What is found holds. -/
theorem asg_some (ts : List Tk) : ∀ {n : Nat} {left acc o : List Nat}, left.length = n → asg ts n left acc = some o → ∃ p, o = p ++ acc ∧ p.Perm left ∧ Holds (putN ts p)
  | 0, left, acc, o, hn, h => by
    obtain rfl : left = [] := List.eq_nil_of_length_eq_zero hn
    exact ⟨[], by simpa [asg] using h.symm, List.Perm.refl _, holds_nil⟩
  | n + 1, left, acc, o, hn, h => by
    unfold asg at h
    cases hp : pickL ts left with
    | none => rw [hp] at h; cases h
    | some i =>
      rw [hp] at h
      obtain ⟨hi, hc, _⟩ := pick_some hp
      have hx := nat_at hi
      have hlen : (left.eraseIdx i).length = n := by rw [List.length_eraseIdx, if_pos hi]; omega
      obtain ⟨p, rfl, h2, h3⟩ := asg_some ts hlen h
      have hs : setB (putN ts left) = true := by
        cases hs : setB (putN ts left)
        · rw [can_bad _ hs] at hc; cases hc
        · rfl
      have hget : (putN ts left)[i]? = some (ts.getD (left.getD i 0) default) := by unfold putN; rw [List.getElem?_map, hx]; rfl
      rw [can_at hs hget, ← put_erase] at hc
      refine ⟨p ++ [left.getD i 0], by simp, ?_, ?_⟩
      · exact (List.perm_append_comm.trans (h2.cons _)).trans (nat_erase hx)
      · rw [put_app]
        exact holds_perm_last (put_perm h2) h3 hc
/-- If there is none that holds, none is found; else one is. -/
theorem asg_none (ts : List Tk) : ∀ {n : Nat} {left acc : List Nat}, left.length = n → setB (putN ts left) = true → asg ts n left acc = none → ∀ p, p.Perm left → ¬ Holds (putN ts p)
  | 0, left, acc, hn, hs, h => by simp [asg] at h
  | n + 1, left, acc, hn, hs, h => by
    intro p hp hh
    unfold asg at h
    cases hpk : pickL ts left with
    | none =>
      obtain ⟨p', x, rfl⟩ := snoc_of (xs := p) (by rintro rfl; have := hp.length_eq; simp at this; omega)
      obtain ⟨i, hi⟩ := List.mem_iff_getElem?.1 (hp.mem_iff.1 (show x ∈ p' ++ [x] by simp))
      have hil := (List.getElem?_eq_some_iff.1 hi).1
      have hper : p'.Perm (left.eraseIdx i) := (((List.perm_append_comm (l₁ := [x]) (l₂ := p')).trans hp).trans (nat_erase hi).symm).cons_inv
      rw [put_app] at hh
      have hb := (holds_snoc.1 hh).2
      have hget : (putN ts left)[i]? = some (ts.getD x default) := by unfold putN; rw [List.getElem?_map, hi]; rfl
      have hno := pick_none hpk i hil
      rw [can_at hs hget, ← put_erase, ← bothL_perm (put_perm hper)] at hno
      rw [hno] at hb; cases hb
    | some i =>
      rw [hpk] at h
      obtain ⟨hi, _, _⟩ := pick_some hpk
      have hx := nat_at hi
      have hlen : (left.eraseIdx i).length = n := by rw [List.length_eraseIdx, if_pos hi]; omega
      have hs2 : setB (putN ts (left.eraseIdx i)) = true := by rw [put_erase]; exact set_sub hs (List.eraseIdx_sublist _ _)
      have hm : left.getD i 0 ∈ p := hp.mem_iff.2 (List.mem_of_getElem? hx)
      have hper : (p.erase (left.getD i 0)).Perm (left.eraseIdx i) := (((List.perm_cons_erase hm).symm.trans hp).trans (nat_erase hx).symm).cons_inv
      refine asg_none ts hlen hs2 h _ hper ?_
      exact holds_sub rfl ((List.erase_sublist).map _) hh
/-- Whether there is an order. -/
def Can (ts : List Tk) : Prop := ∃ us : List Tk, us.Perm ts ∧ Holds us
theorem can_order {ts : List Tk} : Can ts ↔ ∃ p, p.Perm (List.range ts.length) ∧ Holds (putN ts p) := by
  constructor
  · rintro ⟨us, h1, h2⟩
    obtain ⟨p, h3, rfl⟩ := put_from h1
    exact ⟨p, h3, h2⟩
  · rintro ⟨p, h1, h2⟩
    exact ⟨_, put_all h1, h2⟩
theorem assign_some {ts : List Tk} {o : List Nat} (h : assignOf ts = some o) : setB ts = true ∧ o.Perm (List.range ts.length) ∧ Holds (putN ts o) := by
  unfold assignOf at h
  cases hs : setB ts
  · rw [hs] at h; cases h
  · rw [if_pos hs] at h
    obtain ⟨p, rfl, h1, h2⟩ := asg_some ts (by simp) h
    rw [List.append_nil]
    exact ⟨rfl, h1, h2⟩
theorem assign_iff {ts : List Tk} (hs : setB ts = true) : (assignOf ts).isSome = true ↔ Can ts := by
  rw [can_order]
  constructor
  · intro h
    obtain ⟨o, ho⟩ := Option.isSome_iff_exists.1 h
    exact ⟨o, (assign_some ho).2⟩
  · rintro ⟨p, h1, h2⟩
    cases h : assignOf ts with
    | some o => rfl
    | none =>
      unfold assignOf at h
      rw [if_pos hs] at h
      exact absurd h2 (asg_none ts (by simp) (by rw [put_range]; exact hs) h p h1)
theorem can_perm {xs ys : List Tk} (h : xs.Perm ys) : Can xs ↔ Can ys := ⟨fun ⟨us, a, b⟩ => ⟨us, a.trans h, b⟩, fun ⟨us, a, b⟩ => ⟨us, a.trans h.symm, b⟩⟩
/-- Fewer tasks have an order. -/
theorem can_less {t : Tk} {ts : List Tk} (h : Can (t :: ts)) : Can ts := by
  obtain ⟨us, h1, h2⟩ := h
  have hm : t ∈ us := h1.mem_iff.2 (by simp)
  obtain ⟨a, b, rfl⟩ := List.append_of_mem hm
  refine ⟨a ++ b, ?_, holds_sub rfl ?_ h2⟩
  · exact ((List.perm_middle.symm).trans h1).cons_inv
  · exact (List.Sublist.refl a).append (List.sublist_cons_self t b)
end

section
/- Contracts of the reference's OrderValid and PutOrder. Nothing that was there is written. -/
open Go.RowKit
set_option linter.unusedVariables false

theorem info_bool : (Tryd.prog.info? 4).map (fun i => (i.zero, i.size, i.bytes)) = some (some (.bool false), 1, 1) := by kernel_rfl
/-- Which numbers have been seen. -/
def seenL (zs : List Int) (n : Nat) : List Value := (List.range n).map fun (x : Nat) => Value.bool (zs.contains (Int.ofNat x))
theorem blk_of_own1 {w : World} {B g n : Nat} {e : TypeId} {xs : List Value} (h : w.ownsRow B e 1 (.slice (some ⟨g, 0, none⟩) n n) n xs) : Blk w g e xs.toArray := by
  rcases h.2 with ⟨e0, h0⟩ | ⟨g', cap, cur, e0, _, hg, h1, h2, h3, h4⟩
  · injection e0 with e1; cases e1
  · injection e0 with e1 e2 e3
    injection e1 with e1
    injection e1 with e1
    subst e1 e3
    have hc : cur.toList = xs := by
      rw [List.take_of_length_le (by rw [Array.length_toList, h3]; exact Nat.le_refl _)] at h4
      exact h4
    rw [← hc]
    exact hg
theorem made_bool (n : Nat) : (madeCells (Value.bool false).cells (n * 1)).toList = seenL [] n := by
  unfold madeCells seenL
  rw [Array.toList_map, Array.toList_range, Nat.mul_one]
  refine List.map_congr_left fun j _ => ?_
  show (#[Value.bool false])[j % 1]! = _
  rw [Nat.mod_one]; rfl
theorem seen_get {zs : List Int} {n x : Nat} (h : x < n) : ((seenL zs n).toArray)[x]? = some (.bool (zs.contains (x : Int))) := by
  simp [seenL, h]
theorem seen_set {zs : List Int} {n k x : Nat} (h : zs[k]? = some (x : Int)) : (seenL (zs.take k) n).toArray.setIfInBounds x (.bool true) = (seenL (zs.take (k + 1)) n).toArray := by
  have ht : zs.take (k + 1) = zs.take k ++ [(x : Int)] := by rw [List.take_add_one, h]; rfl
  rw [ht]
  unfold seenL
  simp only [List.setIfInBounds_toArray]
  congr 1
  refine List.ext_getElem? fun j => ?_
  rw [List.getElem?_set]
  by_cases hj : j < n
  · by_cases hx : x = j
    · subst hx
      simp [hj]
    · have hxj : ¬ ((j : Int) = (x : Int)) := by omega
      simp [hj, hx, hxj]
  · simp [hj]
    intro hx; subst hx; first | omega | exact hj | (simp; omega)
end

section
/- Contracts of the reference's PutOrder. Nothing that was there is written. -/
open Go.RowKit
set_option linter.unusedVariables false

/-- The numbers are places of the tasks. -/
def InL (ts : List Tk) (o : List Nat) : Prop := ∀ i ∈ o, i < ts.length
theorem put_take {ts : List Tk} {o : List Nat} {k x : Nat} {t : Tk} (h : o[k]? = some x) (ht : ts[x]? = some t) : putN ts (o.take (k + 1)) = putN ts (o.take k) ++ [t] := by
  rw [List.take_add_one, h, put_app]
  congr 1
  show [ts.getD x default] = [t]
  rw [List.getD_eq_getElem?_getD, ht]; rfl
theorem toZ_get {o : List Nat} {k x : Nat} (h : o[k]? = some x) : (toZ o)[k]? = some (x : Int) := by unfold toZ; rw [List.getElem?_map, h]; rfl

set_option maxRecDepth 100000 in
set_option maxHeartbeats 2000000 in
theorem sPut_is (w : World) (A : Option Addr) (n c : Nat) (ts : List Tk) (A2 : Option Addr) (n2 c2 : Nat) (o : List Nat) (h : Tks w w.heap.size A n ts) (h2 : Zs w w.heap.size A2 n2 (toZ o)) (ho : InL ts o) (hl : o.length ≤ 100) :
    Calls Tryd.prog 65 #[.slice A n c, .slice A2 n2 c2] w (LsRes (putN ts o) w) := by
  obtain ⟨i0, hi, hz0, hz1, hz2⟩ := info_parts info_task
  have H := Lib.hid h
  have H2 := Lib.hid h2
  have HL := Lib.hid h.len
  have HL2 : Hid (o.length = n2) := by show _ = _; rw [← toZ_len]; exact h2.len
  have HI := Lib.hid ho
  clear h h2 ho
  have hn2 : n2 ≤ 100 := by rw [← HL2.out]; exact hl
  go_enter Tryd.func65, Tryd.ntmps65
  go_wp2
  go_loopw [5, 6] (fun v i wr => ∃ k : Nat, k ≤ n2 ∧ i = .int .i64 k ∧ Own wr w.heap.size v (putN ts (o.take k)) ∧ Below w.heap.size w wr) (fun _ i _ => n2 - (intOf i).toNat)
  case atStart => exact ⟨0, Nat.zero_le _, rfl, Own.empty w, bl_alloc (Below.refl _ _) _⟩
  case round =>
    obtain ⟨k, hk, rfl, ho, hb⟩ := hrel
    have HO := Lib.hid ho
    have HB := Lib.hid hb
    have hsz : w.heap.size ≤ wr.heap.size := hb.size
    clear ho hb
    by_cases hlt : k < n2
    · have hlti : (k : Int) < (n2 : Int) := by omega
      obtain ⟨x, hx⟩ : ∃ x, o[k]? = some x := ⟨o[k]'(by rw [HL2.out]; exact hlt), List.getElem?_eq_getElem _⟩
      obtain ⟨b2, o2, rfl, hb2, g0⟩ := (H2.out.below HB.out).at_ k _ (toZ_get hx)
      have hxn : x < n := by rw [← HL.out]; exact HI.out x (List.mem_of_getElem? hx)
      have hxi : (x : Int) < (n : Int) := by omega
      obtain ⟨t, ht⟩ : ∃ t, ts[x]? = some t := ⟨ts[x]'(by rw [HL.out]; exact hxn), List.getElem?_eq_getElem _⟩
      obtain ⟨b, of, rfl, hbl, c0, c1, c2', c3, c4⟩ := (H.out.below HB.out).at_ x t ht
      have HT := Lib.hid (put_take hx ht)
      have hlen : (putN ts (o.take k)).length ≤ 100 := by rw [put_len, List.length_take]; omega
      clear hx ht
      obtain ⟨lo, hi', du, ev, cr⟩ := t
      dsimp only at c0 c1 c2' c3 c4
      have b1 : (putN ts (o.take k)).length + 1 ≤ maxLen := by unfold maxLen; omega
      have b2' : ((putN ts (o.take k)).length + 1) * 40 ≤ 140737488355328 := by omega
      go_wp2_with (at_builtin; refine wpList_append_own _ rfl (.tmp 14) (.tmp 22) 23 rfl w.heap.size 29 i0 _ 5 40 Tryd.underlying23 hi hz0 hz1 hz2 rfl (by decide) _ (putN ts (o.take k)).length ((putN ts (o.take k)).flatMap Tk.cells) rfl (HO.out.alloc _) ⟨wr.heap.size, 0, none⟩ 1 1 (Tk.cells ⟨lo, hi', du, ev, cr⟩) rfl rfl (cell_new5 _ ⟨lo, hi', du, ev, cr⟩ _) (by intro u hu; exact cells_one [⟨lo, hi', du, ev, cr⟩] u (by simpa using hu)) b1 b2' (by simp; omega) ?_; intro v' w4 hown' hgrow _)
      have HO4 := Lib.hid (Own.snoc hown')
      have HB4 := Lib.hid ((bl_alloc HB.out _).grown hgrow (by simp; omega) (fun k e => (World.ownsRow.lt HO.out k e).1))
      clear hown' hgrow hlen b1 b2'
      go_wp2
      go_roundw
      case rel => exact ⟨k + 1, by omega, by go_num, by rw [HT.out]; exact HO4.out, HB4.out⟩
      case measure => simp [intOf]; omega
    · obtain rfl : k = n2 := by omega
      have hlti : ¬ (k : Int) < (k : Int) := by omega
      go_wp2
      go_ret
      exact lsRes_of HO.out HB.out (by rw [List.take_of_length_le (by rw [HL2.out]; exact Nat.le_refl _)])

theorem ord_nat {zs : List Int} {n : Nat} (h : ordB zs n = true) : ∃ o : List Nat, zs = toZ o ∧ o.length = n ∧ (∀ i ∈ o, i < n) ∧ o.Nodup := by
  obtain ⟨h1, h2, h3⟩ := ordB_iff.1 h
  have hz : zs = toZ (zs.map Int.toNat) := by
    unfold toZ
    rw [List.map_map]
    conv => lhs; rw [← List.map_id zs]
    refine List.map_congr_left fun z hz => ?_
    have := h2 z hz
    simp only [id, Function.comp]
    show z = ((z.toNat : Nat) : Int)
    omega
  refine ⟨zs.map Int.toNat, hz, by simp [h1], fun i hi => ?_, ?_⟩
  · obtain ⟨z, hz, rfl⟩ := List.mem_map.1 hi
    have := h2 z hz
    omega
  · rw [hz] at h3
    exact (List.pairwise_map.1 h3).imp fun hab e => hab (by rw [e])
end

section
/- Contracts of ResponseSwitch, in the program and in the reference, and of what the program's calls. Nothing that was there is written. -/
open Go.RowKit
set_option linter.unusedVariables false

set_option maxHeartbeats 1000000 in
theorem iDemSwi_is (w : World) (A : Option Addr) (n c : Nat) (ts : List Tk) (h : Tks w w.heap.size A n ts) (hs : setB ts = true) (l x m : Nat) (hl : l ≤ 10000000) (hx : x ≤ 10000000) (hm : dSwi ts l x = m) :
    Calls Tryd.prog 83 #[.slice A n c, .int .i64 (l : Int), .int .i64 (x : Int)] w (NumIs m w) := by
  have H := Lib.hid h
  have HL := Lib.hid h.len
  have HS := Lib.hid hs
  have HM := Lib.hid hm
  have h5 : n ≤ 5 := by have := setB_len hs; rw [HL.out] at this; exact this
  clear h hs hm
  go_enter Tryd.func83, Tryd.ntmps83
  go_wp2
  go_loopw [7, 12] (fun s i wr => ∃ k : Nat, k ≤ n ∧ i = .int .i64 k ∧ s = .int .i64 (dSwi (ts.take k) l x : Nat) ∧ Below w.heap.size w wr) (fun _ i _ => n - (intOf i).toNat)
  case atStart => exact ⟨0, Nat.zero_le _, rfl, rfl, Below.refl _ _⟩
  case round =>
    obtain ⟨k, hk, rfl, rfl, hb⟩ := hrel
    have HB := Lib.hid hb
    clear hb
    by_cases hlt : k < n
    · obtain ⟨t, ht⟩ := get_at HL.out hlt
      obtain ⟨b, o, rfl, hbl, c0, c1, c2, c3, c4⟩ := (H.out.below HB.out).at_ k t ht
      have HT := Lib.hid (dSwi_take ht l x)
      have HV := Lib.hid (set_ok HS.out (get_mem ht))
      have hb1 := dSwi_bound (set_take HS.out k) l x
      have hb2 := dmS_bound HV.out l x
      have hsz := HB.out.size
      obtain ⟨d, hd⟩ : ∃ d, dmS l x t = d := ⟨_, rfl⟩
      rw [hd] at hb2
      have HT' : Hid (dSwi (ts.take (k + 1)) l x = dSwi (ts.take k) l x + d) := by have := HT.out; rw [hd] at this; exact this
      generalize dSwi (ts.take k) l x = s at *
      cases hc : t.cr
      · have HD : Hid (dmd t l false = d) := by show _ = _; rw [← hd]; unfold dmS; rw [hc]; rfl
        clear ht hd HT
        obtain ⟨lo, hi, du, ev, cr⟩ := t
        dsimp only at c0 c1 c2 c3 c4 hc
        subst hc
        go_wp2_with (go_at_call 89; refine (iDemand_is _ lo hi du ev false l false d HV.out (by omega) HD.out).mono ?_; rintro e w2 ⟨rfl, rfl⟩)
        go_roundw
        case rel => exact ⟨k + 1, by omega, by go_num, by rw [HT'.out]; go_num, by repeat (first | with_reducible exact HB.out | refine bl_alloc ?_ _ | refine bl_set ?_ (by simp; omega) _)⟩
        case measure => simp [intOf]; omega
      · have HD : Hid (dmd t x true = d) := by show _ = _; rw [← hd]; unfold dmS; rw [hc]; rfl
        clear ht hd HT
        obtain ⟨lo, hi, du, ev, cr⟩ := t
        dsimp only at c0 c1 c2 c3 c4 hc
        subst hc
        go_wp2_with (go_at_call 89; refine (iDemand_is _ lo hi du ev true x true d HV.out (by omega) HD.out).mono ?_; rintro e w2 ⟨rfl, rfl⟩)
        go_roundw
        case rel => exact ⟨k + 1, by omega, by go_num, by rw [HT'.out]; go_num, by repeat (first | with_reducible exact HB.out | refine bl_alloc ?_ _ | refine bl_set ?_ (by simp; omega) _)⟩
        case measure => simp [intOf]; omega
    · obtain rfl : k = n := by omega
      have HE : Hid (dSwi (ts.take k) l x = m) := by show _ = _; rw [take_all (by rw [HL.out]; omega)]; exact HM.out
      go_wp2
      go_ret
      exact ⟨by rw [HE.out]; rfl, HB.out⟩

set_option maxHeartbeats 1000000 in
theorem iCloSwi_is (w : World) (Bt Bs Bl : Nat) (A : Option Addr) (k c : Nat) (us : List Tk) (hi l : Nat) (hT : w.cell? ⟨Bt, 1, none⟩ = some (.int .i64 (hi : Int))) (hS : w.cell? ⟨Bs, 0, none⟩ = some (.slice A k c)) (hL : w.cell? ⟨Bl, 0, none⟩ = some (.int .i64 (l : Int))) (hTs : Tks w w.heap.size A k us) (hs : setB us = true) (hhi : hi ≤ 20) (x m : Nat) (hl : l ≤ 10000000) (hx : x ≤ 10000000) (hm : hi + dSwi us l x = m) (hbt : Bt < w.heap.size) (hbs : Bs < w.heap.size) (hbl : Bl < w.heap.size) :
    Calls Tryd.prog 82 #[.int .i64 (x : Int), .pointer (some ⟨Bt, 0, none⟩), .pointer (some ⟨Bs, 0, none⟩), .pointer (some ⟨Bl, 0, none⟩)] w (NumIs m w) := by
  have H := Lib.hid hTs
  have HS := Lib.hid hs
  obtain ⟨d, hd⟩ : ∃ d, dSwi us l x = d := ⟨_, rfl⟩
  have hdb := dSwi_bound hs l x
  rw [hd] at hm hdb
  subst hm
  have HD := Lib.hid hd
  have kw : IntKind.i64.wrap ((hi : Int) + (d : Int)) = (hi : Int) + (d : Int) := IntWalk.i64_in _ (by omega)
  have hS0 : w.cell? ⟨Bt, 1, none⟩ = some (.int .i64 (hi : Int)) ∧ w.cell? ⟨Bs, 0, none⟩ = some (.slice A k c) ∧ w.cell? ⟨Bl, 0, none⟩ = some (.int .i64 (l : Int)) := ⟨hT, hS, hL⟩
  clear hTs hs hd
  go_enter Tryd.func82, Tryd.ntmps82
  go_wp2_with fail
  go_region_held3 (fun W => W.cell? ⟨Bt, 1, none⟩ = some (.int .i64 (hi : Int)) ∧ W.cell? ⟨Bs, 0, none⟩ = some (.slice A k c) ∧ W.cell? ⟨Bl, 0, none⟩ = some (.int .i64 (l : Int))) (first | exact hS0 | exact hS2)
    ((first
      | (go_at_call 83; refine (iDemSwi_is _ A k c us ?_ HS.out l x d hl hx HD.out).mono ?_; exact H.out.below (by repeat (first | with_reducible exact Below.refl w.heap.size w | with_reducible refine Below.drew ?_ | with_reducible refine bl_drewN ?_ _)); rintro e w2 ⟨rfl, hb⟩; have HB2 := Lib.hid (show Below w.heap.size w w2 from bl_trans (by repeat (first | with_reducible exact Below.refl w.heap.size w | with_reducible refine bl_drewN ?_ _ | with_reducible refine Below.drew ?_)) hb); have hS2 : w2.cell? ⟨Bt, 1, none⟩ = some (.int .i64 (hi : Int)) ∧ w2.cell? ⟨Bs, 0, none⟩ = some (.slice A k c) ∧ w2.cell? ⟨Bl, 0, none⟩ = some (.int .i64 (l : Int)) := ⟨(HB2.out.cell (p := ⟨Bt, 1, none⟩) hbt).trans hT, (HB2.out.cell (p := ⟨Bs, 0, none⟩) hbs).trans hS, (HB2.out.cell (p := ⟨Bl, 0, none⟩) hbl).trans hL⟩; clear hb)))
  go_wp2
  go_ret
  exact ⟨by first | rfl | go_num, HB2.out⟩
theorem cloSwi_next (w : World) (Bt Bs Bl : Nat) (A : Option Addr) (k c : Nat) (us : List Tk) (hi lo up l : Nat) (h1 h2 h3 h4 : Value) (hT : Blk w Bt 29 #[h1, .int .i64 (hi : Int), h2, h3, h4]) (hS : Blk w Bs 23 #[.slice A k c]) (hL : Blk w Bl 3 #[.int .i64 (l : Int)]) (hTs : Tks w w.heap.size A k us) (hs : setB us = true) (hhi : hi ≤ 20) (hl : l ≤ 10000000) (hup : up ≤ 10000000) :
    NextIs 82 #[.pointer (some ⟨Bt, 0, none⟩), .pointer (some ⟨Bs, 0, none⟩), .pointer (some ⟨Bl, 0, none⟩)] (fun x => hi + dSwi us l x) lo up w := fun W x h1 h2 hb =>
  iCloSwi_is W Bt Bs Bl A k c us hi l ((hb.cell (p := ⟨Bt, 1, none⟩) hT.lt).trans (hT.cell 1)) ((hb.cell (p := ⟨Bs, 0, none⟩) hS.lt).trans (hS.cell 0)) ((hb.cell (p := ⟨Bl, 0, none⟩) hL.lt).trans (hL.cell 0)) ((hTs.below hb).more hb.size) hs hhi x _ hl (by omega) rfl (Nat.lt_of_lt_of_le hT.lt hb.size) (Nat.lt_of_lt_of_le hS.lt hb.size) (Nat.lt_of_lt_of_le hL.lt hb.size)
theorem blk_third (w : World) (o o' : Obj) (t : TypeId) (cs : Array Value) : Blk (((w.alloc o).alloc o').alloc (.cells cs t)) (w.heap.size + 1 + 1) t cs := by
  have h := Blk.new ((w.alloc o).alloc o') t cs
  simp only [World.size_alloc] at h
  exact h
theorem swi_none {ts : List Tk} {a : Int} (h : atI (rLow ts) a = none) : atI (rSwi ts) a = none := by
  unfold atI at h ⊢
  split
  · rename_i h0
    rw [if_pos h0] at h
    exact rSwi_none h
  · rfl

set_option maxRecDepth 100000 in
set_option maxHeartbeats 2000000 in
theorem iRSwi_is (w : World) (A : Option Addr) (n c : Nat) (ts : List Tk) (a : Int) (h : Tks w w.heap.size A n ts) (hn : n ≤ 1048576) (hnc : n ≤ c) (v : Nat) (b : Bool) (hv : resN (atI (rSwi ts) a) = (v, b)) :
    Calls Tryd.prog 67 #[.slice A n c, .int .i64 a] w (NbRes v b w) := by
  have H := Lib.hid h
  have HL := Lib.hid h.len
  clear h
  obtain ⟨l, b0, h0⟩ : ∃ l b0, resN (atI (rLow ts) a) = (l, b0) := ⟨_, _, rfl⟩
  have H0 := Lib.hid h0
  cases b0
  · obtain ⟨hno, rfl⟩ := res_false h0
    rw [swi_none hno] at hv
    obtain ⟨rfl, rfl⟩ := Prod.mk.inj hv
    clear hv hno h0
    go_enter Tryd.func67, Tryd.ntmps67
    go_wp2_with (go_at_call 66; refine (iRLow_is _ A n c ts a H.out hn hnc 0 false H0.out).mono ?_; rintro e w1 ⟨rfl, hb⟩)
    go_ret2
    exact ⟨rfl, bl_alloc hb _⟩
  obtain ⟨k, rfl, hr⟩ := at_some (res_true h0)
  obtain ⟨hset, t, ht, hf⟩ := rLow_some hr
  obtain ⟨_, _, x3, _⟩ := resp_fix hf
  have hk : k < n := by have := (List.getElem?_eq_some_iff.1 ht).1; rw [HL.out] at this; exact this
  obtain ⟨bb, o, rfl, hbl, _⟩ := H.out.at_ k _ ht
  have hok := ok_parts (set_ok hset (get_mem ht))
  have HT := Lib.hid ht
  have HS := Lib.hid (set_take hset k)
  rw [at_nat] at hv
  have i1 : (k : Int) < (n : Int) := by omega
  have i2 : (k : Int) ≤ (c : Int) := by omega
  have i3 : ¬ (c : Int) < (k : Int) := by omega
  cases hc : t.cr
  · rw [rSwi_not ht hc] at hv
    obtain ⟨rfl, rfl⟩ := Prod.mk.inj hv
    clear hv hf hr h0 ht hset
    go_enter Tryd.func67, Tryd.ntmps67
    go_wp2_with fail
    refine (iRLow_is _ _ n c ts (k : Int) H.out hn hnc l true H0.out).mono ?_
    rintro e w1 ⟨rfl, hb⟩
    have HB1 := Lib.hid hb
    have hsz := hb.size
    have C1 := (Tks.get (H.out.below hb) HT.out).2.c4
    rw [hc] at C1
    have hbl1 : bb < w1.heap.size := by omega
    clear hb
    go_wp2
    go_ret2
    exact ⟨rfl, bl_alloc HB1.out _⟩
  rw [rSwi_at hr ht hc] at hv
  have HV := Lib.hid hv
  clear hv hf hr h0 ht hset
  obtain ⟨lo, hi, du, ev, cr⟩ := t
  dsimp only at hok HV hc x3
  subst hc
  obtain ⟨p1, p2, p3, p4, p5, _⟩ := hok
  obtain ⟨hi, rfl⟩ := Int.eq_ofNat_of_zero_le (show 0 ≤ hi by omega)
  obtain ⟨du, rfl⟩ := Int.eq_ofNat_of_zero_le (show 0 ≤ du by omega)
  have hl20 : l ≤ 20 := by omega
  go_enter Tryd.func67, Tryd.ntmps67
  go_wp2_with fail
  refine (iRLow_is _ _ n c ts (k : Int) H.out hn hnc l true H0.out).mono ?_
  rintro e w1 ⟨rfl, hb⟩
  have HB1 := Lib.hid hb
  have hsz := hb.size
  obtain ⟨c0, c1, c2, c3, c4⟩ := (Tks.get (H.out.below hb) HT.out).2
  dsimp only at c0 c1 c2 c3 c4
  have HTk := Lib.hid (Tks.take ((H.out.below hb).more hb.size) (show k ≤ n by omega))
  clear hb
  have hbl1 : bb < w1.heap.size := by omega
  have hbl2 : bb < w1.heap.size + 1 := by omega
  have hbl3 : bb < w1.heap.size + 1 + 1 := by omega
  go_wp2
  go_region
  all_goals go_wp2_with fail
  · refine (iLeast_is _ hi du 82 _ (fun x => hi + dSwi (ts.take k) l x) v b HV.out (swi_mono _ l hi) (fun x _ => Nat.le_add_right _ _) (fun x hx => by have := dSwi_bound HS.out l x; omega) (by omega) (by omega) (fun _ _ => rfl) (cloSwi_next _ _ _ _ (some ⟨bb, o, none⟩) k c (ts.take k) hi hi du l _ _ _ _ ((((blk_second w1 _ _ _).alloc _)).drewN 1) ((blk_third w1 _ _ _ _).drewN 1) ((((Blk.new w1 _ _).alloc _).alloc _).drewN 1) ((HTk.out.below (bl_drewN (bl_alloc (bl_alloc (bl_alloc (Below.refl w1.heap.size w1) _) _) _) 1)).more (bl_drewN (bl_alloc (bl_alloc (bl_alloc (Below.refl w1.heap.size w1) _) _) _) 1).size) HS.out (by omega) (by omega) (by omega))).mono ?_
    rintro e w2 ⟨rfl, hb2⟩
    go_wp2
    go_ret2
    exact ⟨rfl, bl_trans (bl_drewN (bl_alloc (bl_alloc (bl_alloc HB1.out _) _) _) 1) hb2⟩
  · refine (iLeast_is _ hi du 82 _ (fun x => hi + dSwi (ts.take k) l x) v b HV.out (swi_mono _ l hi) (fun x _ => Nat.le_add_right _ _) (fun x hx => by have := dSwi_bound HS.out l x; omega) (by omega) (by omega) (fun _ _ => rfl) (cloSwi_next _ _ _ _ (some ⟨bb, o, none⟩) k c (ts.take k) hi hi du l _ _ _ _ ((blk_third w1 _ _ _ _).drewN 1) ((((blk_second w1 _ _ _).alloc _)).drewN 1) ((((Blk.new w1 _ _).alloc _).alloc _).drewN 1) ((HTk.out.below (bl_drewN (bl_alloc (bl_alloc (bl_alloc (Below.refl w1.heap.size w1) _) _) _) 1)).more (bl_drewN (bl_alloc (bl_alloc (bl_alloc (Below.refl w1.heap.size w1) _) _) _) 1).size) HS.out (by omega) (by omega) (by omega))).mono ?_
    rintro e w2 ⟨rfl, hb2⟩
    go_wp2
    go_ret2
    exact ⟨rfl, bl_trans (bl_drewN (bl_alloc (bl_alloc (bl_alloc HB1.out _) _) _) 1) hb2⟩
end

section
/- Contracts of the reference's ResponseSwitch. Nothing that was there is written. -/
open Go.RowKit
set_option linter.unusedVariables false

set_option maxRecDepth 100000 in
set_option maxHeartbeats 4000000 in
theorem sRSwi_is (w : World) (A : Option Addr) (n c : Nat) (ts : List Tk) (a : Int) (h : Tks w w.heap.size A n ts) (hn : n ≤ 1048576) (v : Nat) (b : Bool) (hv : resN (atI (rSwi ts) a) = (v, b)) :
    Calls Tryd.prog 74 #[.slice A n c, .int .i64 a] w (NbRes v b w) := by
  have H := Lib.hid h
  have HL := Lib.hid h.len
  clear h
  obtain ⟨l, b0, h0⟩ : ∃ l b0, resN (atI (rLow ts) a) = (l, b0) := ⟨_, _, rfl⟩
  have H0 := Lib.hid h0
  cases b0
  · obtain ⟨hno, rfl⟩ := res_false h0
    rw [swi_none hno] at hv
    obtain ⟨rfl, rfl⟩ := Prod.mk.inj hv
    clear hv hno h0
    go_enter Tryd.func74, Tryd.ntmps74
    go_wp2_with (go_at_call 86; refine (sRLow_is _ A n c ts a H.out hn 0 false H0.out).mono ?_; rintro e w1 ⟨rfl, hb⟩)
    go_ret2
    exact ⟨rfl, hb⟩
  obtain ⟨k, rfl, hr⟩ := at_some (res_true h0)
  obtain ⟨hset, t, ht, hf⟩ := rLow_some hr
  obtain ⟨_, _, x3, _⟩ := resp_fix hf
  have hk : k < n := by have := (List.getElem?_eq_some_iff.1 ht).1; rw [HL.out] at this; exact this
  obtain ⟨bb, o, rfl, hbl, _⟩ := H.out.at_ k _ ht
  have hok := ok_parts (set_ok hset (get_mem ht))
  have HT := Lib.hid ht
  have HSS := Lib.hid hset
  have HS := Lib.hid (set_take hset k)
  rw [at_nat] at hv
  have i1 : (k : Int) < (n : Int) := by omega
  cases hc : t.cr
  · rw [rSwi_not ht hc] at hv
    obtain ⟨rfl, rfl⟩ := Prod.mk.inj hv
    clear hv hf hr h0 ht hset
    go_enter Tryd.func74, Tryd.ntmps74
    go_wp2_with fail
    refine (sRLow_is _ _ n c ts (k : Int) H.out hn l true H0.out).mono ?_
    rintro e w1 ⟨rfl, hb⟩
    have HB1 := Lib.hid hb
    have hsz := hb.size
    have C1 := (Tks.get (H.out.below hb) HT.out).2.c4
    rw [hc] at C1
    clear hb
    go_wp2
    go_ret2
    exact ⟨rfl, HB1.out⟩
  rw [rSwi_at hr ht hc] at hv
  have HV := Lib.hid hv
  clear hv hf hr h0 ht hset
  obtain ⟨lo, hi, du, ev, cr⟩ := t
  dsimp only at hok HV hc x3
  subst hc
  obtain ⟨p1, p2, p3, p4, p5, _⟩ := hok
  obtain ⟨hi, rfl⟩ := Int.eq_ofNat_of_zero_le (show 0 ≤ hi by omega)
  obtain ⟨du, rfl⟩ := Int.eq_ofNat_of_zero_le (show 0 ≤ du by omega)
  have hl20 : l ≤ 20 := by omega
  have HV' : Hid (resN (leastN (fun y => hi + dSwi (ts.take k) l y) hi du) = (v, b)) := HV.out
  go_enter Tryd.func74, Tryd.ntmps74
  go_wp2_with fail
  refine (sRLow_is _ _ n c ts (k : Int) H.out hn l true H0.out).mono ?_
  rintro e w1 ⟨rfl, hb⟩
  have HB1 := Lib.hid hb
  have hsz := hb.size
  obtain ⟨c0, c1, c2, c3, c4⟩ := (Tks.get (H.out.below hb) HT.out).2
  dsimp only at c0 c1 c2 c3 c4
  clear hb
  go_wp2
  go_loopw [8] (fun i wr => ∃ x : Nat, i = .int .i64 x ∧ x ≤ 1000000 ∧ Hid (NoneBelow (fun y => hi + dSwi (ts.take k) l y) hi x) ∧ Below w.heap.size w wr) (fun i _ => du + 1 - (intOf i).toNat)
  case atStart => exact ⟨hi, rfl, by omega, none_start _ hi, HB1.out⟩
  case round =>
    obtain ⟨x, rfl, hx, HN, hb⟩ := hrel
    have HB := Lib.hid hb
    have hsz2 := hb.size
    have C2 := (Tks.get (H.out.below hb) HT.out).2
    have d1 := C2.c1
    have d2 := C2.c2
    dsimp only at d1 d2
    clear C2 hb
    by_cases hxd : x ≤ du
    · have hxd' : (x : Int) ≤ (du : Int) := by omega
      go_wp2
      go_loopw [9, 10] (fun s i wr => ∃ j m : Nat, j ≤ k ∧ i = .int .i64 j ∧ s = .int .i64 (m : Int) ∧ Hid (m = hi + dSwi (ts.take j) l x) ∧ Below w.heap.size w wr) (fun _ i _ => k - (intOf i).toNat)
      case atStart => exact ⟨0, hi, Nat.zero_le _, rfl, rfl, (show hi = _ by simp [dSwi]), HB.out⟩
      case round =>
        obtain ⟨j, m, hj, rfl, rfl, HM, hb3⟩ := hrel
        have HB3 := Lib.hid hb3
        have hsz3 := hb3.size
        clear hb3
        by_cases hjk : j < k
        · obtain ⟨u, hu⟩ := get_at HL.out (show j < n by omega)
          have C3 := (Tks.get (H.out.below HB3.out) hu).2
          have HVu := Lib.hid (set_ok HSS.out (get_mem hu))
          have HTu := Lib.hid (dSwi_take hu l x)
          have hb1 := dSwi_bound (set_take HSS.out j) l x
          have hb2 := dmS_bound HVu.out l x
          obtain ⟨d, hd⟩ : ∃ d, dmS l x u = d := ⟨_, rfl⟩
          rw [hd] at hb2
          have hm1 : m ≤ hi + 100 * (l + x + 20) := by rw [HM.out]; omega
          have HM' : Hid (m + d = hi + dSwi (ts.take (j + 1)) l x) := by show _ = _; rw [HTu.out, hd, HM.out]; omega
          have i2 : (j : Int) < (n : Int) := by omega
          cases hcu : u.cr
          · have HD : Hid (dmd u l false = d) := by show _ = _; rw [← hd]; unfold dmS; rw [hcu]; rfl
            clear hd hu HTu hb1
            obtain ⟨lo', hi', du', ev', cr'⟩ := u
            obtain ⟨g0, g1, g2, g3, g4⟩ := C3
            dsimp only at g0 g1 g2 g3 g4 hcu
            subst hcu
            go_wp2_with (go_at_call 87; refine (sDemand_is _ lo' hi' du' ev' false l false d HVu.out (by omega) HD.out).mono ?_; rintro e w2 ⟨rfl, rfl⟩)
            go_roundw
            case rel => exact ⟨j + 1, m + d, by omega, by go_num, by go_num, HM', bl_alloc HB3.out _⟩
            case measure => simp [intOf]; omega
          · have HD : Hid (dmd u x true = d) := by show _ = _; rw [← hd]; unfold dmS; rw [hcu]; rfl
            clear hd hu HTu hb1
            obtain ⟨lo', hi', du', ev', cr'⟩ := u
            obtain ⟨g0, g1, g2, g3, g4⟩ := C3
            dsimp only at g0 g1 g2 g3 g4 hcu
            subst hcu
            go_wp2_with (go_at_call 87; refine (sDemand_is _ lo' hi' du' ev' true x true d HVu.out (by omega) HD.out).mono ?_; rintro e w2 ⟨rfl, rfl⟩)
            go_roundw
            case rel => exact ⟨j + 1, m + d, by omega, by go_num, by go_num, HM', bl_alloc HB3.out _⟩
            case measure => simp [intOf]; omega
        · obtain rfl : j = k := by omega
          have hmb : m ≤ hi + 100 * (l + x + 20) := by have := dSwi_bound HS.out l x; rw [HM.out]; omega
          by_cases he : m = x
          · have hei : (m : Int) = (x : Int) := by omega
            obtain ⟨rfl, rfl⟩ : x = v ∧ true = b := Prod.mk.inj (by rw [← HV'.out, least_hit HN.out hxd (HM.out.symm.trans he)]; rfl)
            go_wp2
            go_ret2
            exact ⟨rfl, HB3.out⟩
          · have hei : ¬ (m : Int) = (x : Int) := by omega
            have hnx := none_step (swi_mono (ts.take j) l hi) (fun y _ => Nat.le_add_right hi (dSwi (ts.take j) l y)) HN.out
            have hlt := none_le (swi_mono (ts.take j) l hi) (fun y _ => Nat.le_add_right hi (dSwi (ts.take j) l y)) HN.out
            have hnm : Hid (NoneBelow (fun y => hi + dSwi (ts.take j) l y) hi m) := by show NoneBelow _ _ _; rw [HM.out]; exact hnx
            have hlm : x ≤ m := by rw [HM.out]; exact hlt
            clear hnx hlt
            go_wp2
            go_roundw
            case rel => exact ⟨m, rfl, by omega, hnm, HB3.out⟩
            case measure => simp [intOf]; omega
    · have hxd' : ¬ (x : Int) ≤ (du : Int) := by omega
      obtain ⟨rfl, rfl⟩ : 0 = v ∧ false = b := Prod.mk.inj (by rw [← HV'.out, least_past HN.out (by omega)]; rfl)
      go_wp2
      go_ret2
      exact ⟨rfl, HB.out⟩
end

section
/- Contracts of what tells whether tasks hold, in the program and in the reference. Nothing that was there is written. -/
open Go.RowKit
set_option linter.unusedVariables false

def BoRes (b : Bool) (w : World) (e : Ending) (w' : World) : Prop := e = .returned (.bool b) ∧ Below w.heap.size w w'
theorem res_some (o : Option Nat) : resN o = (o.getD 0, o.isSome) := rfl

set_option maxHeartbeats 1000000 in
theorem iHoldsAt_is (w : World) (A : Option Addr) (n c : Nat) (ts : List Tk) (k : Nat) (h : Tks w w.heap.size A n ts) (hn : n ≤ 1048576) (hnc : n ≤ c) (hk : k < n) (b : Bool) (hv : bothAt ts k = b) :
    Calls Tryd.prog 45 #[.slice A n c, .int .i64 (k : Int)] w (BoRes b w) := by
  have H := Lib.hid h
  obtain ⟨t, ht⟩ := get_at h.len hk
  obtain ⟨bb, o, rfl, hbl, _⟩ := h.at_ k _ ht
  have C1 := (Tks.get h ht).2.c4
  clear h
  have i1 : (k : Int) < (n : Int) := by omega
  cases hc : t.cr
  · rw [both_no ht hc] at hv
    rw [hc] at C1
    obtain ⟨v, hvv⟩ : ∃ v, resN (atI (rLow ts) (k : Int)) = (v, b) := ⟨_, by rw [at_nat, res_some, hv]⟩
    have HV := Lib.hid hvv
    clear hv hvv ht
    go_enter Tryd.func45, Tryd.ntmps45
    go_wp2_with (go_at_call 66; refine (iRLow_is _ _ n c ts (k : Int) H.out hn hnc v b HV.out).mono ?_; rintro e w1 ⟨rfl, hb⟩)
    go_ret
    exact ⟨rfl, hb⟩
  · rw [both_cr ht hc] at hv
    rw [hc] at C1
    obtain ⟨v, hvv⟩ : ∃ v, resN (atI (rSwi ts) (k : Int)) = (v, b) := ⟨_, by rw [at_nat, res_some, hv]⟩
    have HV := Lib.hid hvv
    clear hv hvv ht
    go_enter Tryd.func45, Tryd.ntmps45
    go_wp2_with (go_at_call 67; refine (iRSwi_is _ _ n c ts (k : Int) H.out hn hnc v b HV.out).mono ?_; rintro e w1 ⟨rfl, hb⟩)
    go_ret
    exact ⟨rfl, hb⟩

set_option maxHeartbeats 1000000 in
theorem sLowAt_is (w : World) (A : Option Addr) (n c : Nat) (ts : List Tk) (k : Nat) (h : Tks w w.heap.size A n ts) (hn : n ≤ 1048576) (b : Bool) (hv : (rLow ts k).isSome = b) :
    Calls Tryd.prog 73 #[.slice A n c, .int .i64 (k : Int)] w (BoRes b w) := by
  have H := Lib.hid h
  clear h
  obtain ⟨v, hvv⟩ : ∃ v, resN (atI (rLow ts) (k : Int)) = (v, b) := ⟨_, by rw [at_nat, res_some, hv]⟩
  have HV := Lib.hid hvv
  clear hv hvv
  go_enter Tryd.func73, Tryd.ntmps73
  go_wp2_with (go_at_call 86; refine (sRLow_is _ A n c ts (k : Int) H.out hn v b HV.out).mono ?_; rintro e w1 ⟨rfl, hb⟩)
  go_ret
  exact ⟨rfl, hb⟩

set_option maxHeartbeats 1000000 in
theorem sBothAt_is (w : World) (A : Option Addr) (n c : Nat) (ts : List Tk) (k : Nat) (h : Tks w w.heap.size A n ts) (hn : n ≤ 1048576) (hk : k < n) (b : Bool) (hv : bothAt ts k = b) :
    Calls Tryd.prog 54 #[.slice A n c, .int .i64 (k : Int)] w (BoRes b w) := by
  have H := Lib.hid h
  obtain ⟨t, ht⟩ := get_at h.len hk
  obtain ⟨bb, o, rfl, hbl, _⟩ := h.at_ k _ ht
  have C1 := (Tks.get h ht).2.c4
  clear h
  have i1 : (k : Int) < (n : Int) := by omega
  cases hc : t.cr
  · rw [both_no ht hc] at hv
    rw [hc] at C1
    have HV := Lib.hid hv
    clear hv ht
    go_enter Tryd.func54, Tryd.ntmps54
    go_wp2_with (go_at_call 73; refine (sLowAt_is _ _ n c ts k H.out hn b HV.out).mono ?_; rintro e w1 ⟨rfl, hb⟩)
    go_ret
    exact ⟨rfl, hb⟩
  · rw [both_cr ht hc] at hv
    rw [hc] at C1
    obtain ⟨v, hvv⟩ : ∃ v, resN (atI (rSwi ts) (k : Int)) = (v, b) := ⟨_, by rw [at_nat, res_some, hv]⟩
    have HV := Lib.hid hvv
    clear hv hvv ht
    go_enter Tryd.func54, Tryd.ntmps54
    go_wp2_with (go_at_call 74; refine (sRSwi_is _ _ n c ts (k : Int) H.out hn v b HV.out).mono ?_; rintro e w1 ⟨rfl, hb⟩)
    go_ret
    exact ⟨rfl, hb⟩

set_option maxHeartbeats 2000000 in
theorem iFBad_is (w : World) (A : Option Addr) (n c : Nat) (ts : List Tk) (h : Tks w w.heap.size A n ts) (hn : n ≤ 1048576) (hnc : n ≤ c) (v : Nat) (b : Bool) (hv : resN (fBad ts) = (v, b)) :
    Calls Tryd.prog 31 #[.slice A n c] w (NbRes v b w) := by
  have H := Lib.hid h
  have HL := Lib.hid h.len
  clear h
  cases hs : setB ts
  · obtain ⟨rfl, rfl⟩ : 0 = v ∧ false = b := Prod.mk.inj (by rw [← hv, fBad_bad hs]; rfl)
    clear hv
    go_enter Tryd.func31, Tryd.ntmps31
    go_wp2_with (go_at_call 29; refine (iSetValid_any _ A n c ts H.out hn).mono ?_; rintro e w1 ⟨rfl, hb⟩)
    go_ret2
    exact ⟨rfl, hb⟩
  have HS := Lib.hid hs
  have HV := Lib.hid hv
  clear hs hv
  go_enter Tryd.func31, Tryd.ntmps31
  go_wp2_with fail
  refine (iSetValid_any _ A n c ts H.out hn).mono ?_
  rintro e w1 ⟨rfl, hb⟩
  rw [HS.out]
  have HB1 := Lib.hid hb
  clear hb
  go_wp2
  go_loopw [10] (fun i wr => ∃ k : Nat, k ≤ n ∧ i = .int .i64 k ∧ Hid (∀ j, j < k → bothAt ts j = true) ∧ Below w.heap.size w wr) (fun i _ => n - (intOf i).toNat)
  case atStart => exact ⟨0, Nat.zero_le _, rfl, (show ∀ j, j < 0 → _ from fun j hj => absurd hj (Nat.not_lt_zero _)), HB1.out⟩
  case round =>
    obtain ⟨k, hk, rfl, HA, hb⟩ := hrel
    have HB := Lib.hid hb
    clear hb
    by_cases hlt : k < n
    · have hlti : (k : Int) < (n : Int) := by omega
      have hkl : k < ts.length := by rw [HL.out]; exact hlt
      obtain ⟨p, hp⟩ : ∃ p, bothAt ts k = p := ⟨_, rfl⟩
      have HP := Lib.hid hp
      clear hp
      go_wp2_with fail
      refine (iHoldsAt_is _ A n c ts k ((H.out.below HB.out).more HB.out.size) hn hnc hlt p HP.out).mono ?_
      rintro e w3 ⟨rfl, hb⟩
      have HB3 := Lib.hid (bl_trans HB.out hb)
      clear hb
      cases p
      · obtain ⟨rfl, rfl⟩ : k = v ∧ true = b := Prod.mk.inj (by rw [← HV.out, fBad_some HS.out hkl HP.out HA.out]; rfl)
        go_wp2
        go_ret2
        exact ⟨rfl, HB3.out⟩
      · have HA' : Hid (∀ j, j < k + 1 → bothAt ts j = true) := by
          show ∀ j, j < k + 1 → _
          intro j hj
          rcases Nat.lt_or_ge j k with h | h
          · exact HA.out j h
          · obtain rfl : j = k := by omega
            exact HP.out
        go_wp2
        go_roundw
        case rel => exact ⟨k + 1, by omega, by go_num, HA', HB3.out⟩
        case measure => simp [intOf]; omega
    · obtain rfl : k = n := by omega
      obtain ⟨rfl, rfl⟩ : 0 = v ∧ false = b := Prod.mk.inj (by rw [← HV.out, fBad_none HS.out (fun j hj => HA.out j (by rw [← HL.out]; exact hj))]; rfl)
      go_wp2
      go_ret2
      exact ⟨rfl, HB.out⟩

set_option maxHeartbeats 2000000 in
theorem sHBoth_is (w : World) (A : Option Addr) (n c : Nat) (ts : List Tk) (h : Tks w w.heap.size A n ts) (hn : n ≤ 1048576) (b : Bool) (hv : hBoth ts = b) :
    Calls Tryd.prog 38 #[.slice A n c] w (BoRes b w) := by
  have H := Lib.hid h
  have HL := Lib.hid h.len
  clear h
  cases hs : setB ts
  · obtain rfl : false = b := by rw [← hv]; exact (hBoth_bad hs).symm
    clear hv
    by_cases hn0 : n = 0
    · subst hn0
      obtain rfl : ts = [] := List.eq_nil_of_length_eq_zero HL.out
      cases hs
    have hni : (0 : Int) < (n : Int) := by omega
    go_enter Tryd.func38, Tryd.ntmps38
    go_wp2
    refine wp_loop_rounds 1 ?_
    rw [rounds_succ]
    go_wp2_with fail
    refine (sSetValid_any _ A n c ts H.out hn).mono ?_
    rintro e w1 ⟨rfl, hb⟩
    rw [hs]
    have HB1 := Lib.hid hb
    clear hb
    go_wp2_with fail
    refine (sSetValid_any _ A n c ts ((H.out.below HB1.out).more HB1.out.size) hn).mono ?_
    rintro e w2 ⟨rfl, hb⟩
    rw [hs]
    have HB2 := Lib.hid (bl_trans HB1.out hb)
    clear hb
    go_wp2
    go_ret
    exact ⟨rfl, HB2.out⟩
  have HS := Lib.hid hs
  have HV := Lib.hid hv
  clear hs hv
  go_enter Tryd.func38, Tryd.ntmps38
  go_wp2
  go_loopw [3] (fun i wr => ∃ k : Nat, k ≤ n ∧ i = .int .i64 k ∧ Hid (∀ j, j < k → bothAt ts j = true) ∧ Below w.heap.size w wr) (fun i _ => n - (intOf i).toNat)
  case atStart => exact ⟨0, Nat.zero_le _, rfl, (show ∀ j, j < 0 → _ from fun j hj => absurd hj (Nat.not_lt_zero _)), Below.refl _ _⟩
  case round =>
    obtain ⟨k, hk, rfl, HA, hb⟩ := hrel
    have HB := Lib.hid hb
    clear hb
    by_cases hlt : k < n
    · have hlti : (k : Int) < (n : Int) := by omega
      have hkl : k < ts.length := by rw [HL.out]; exact hlt
      go_wp2_with fail
      refine (sSetValid_any _ A n c ts ((H.out.below HB.out).more HB.out.size) hn).mono ?_
      rintro e w2 ⟨rfl, hb⟩
      rw [HS.out]
      have HB2 := Lib.hid (bl_trans HB.out hb)
      clear hb
      obtain ⟨p, hp⟩ : ∃ p, bothAt ts k = p := ⟨_, rfl⟩
      have HP := Lib.hid hp
      clear hp
      go_wp2_with fail
      refine (sBothAt_is _ A n c ts k ((H.out.below HB2.out).more HB2.out.size) hn hlt p HP.out).mono ?_
      rintro e w3 ⟨rfl, hb⟩
      have HB3 := Lib.hid (bl_trans HB2.out hb)
      clear hb
      cases p
      · obtain rfl : false = b := by rw [← HV.out]; exact (hBoth_no hkl HP.out).symm
        go_wp2
        go_ret
        exact ⟨rfl, HB3.out⟩
      · have HA' : Hid (∀ j, j < k + 1 → bothAt ts j = true) := by
          show ∀ j, j < k + 1 → _
          intro j hj
          rcases Nat.lt_or_ge j k with h | h
          · exact HA.out j h
          · obtain rfl : j = k := by omega
            exact HP.out
        go_wp2
        go_roundw
        case rel => exact ⟨k + 1, by omega, by go_num, HA', HB3.out⟩
        case measure => simp [intOf]; omega
    · obtain rfl : k = n := by omega
      obtain rfl : true = b := by rw [← HV.out]; exact (hBoth_iff.2 ⟨HS.out, fun j hj => HA.out j (by rw [← HL.out]; exact hj)⟩).symm
      go_wp2_with fail
      refine (sSetValid_any _ A k c ts ((H.out.below HB.out).more HB.out.size) hn).mono ?_
      rintro e w2 ⟨rfl, hb⟩
      rw [HS.out]
      have HB2 := Lib.hid (bl_trans HB.out hb)
      clear hb
      go_wp2
      go_ret
      exact ⟨rfl, HB2.out⟩

set_option maxHeartbeats 1000000 in
theorem iHBoth_is (w : World) (A : Option Addr) (n c : Nat) (ts : List Tk) (h : Tks w w.heap.size A n ts) (hn : n ≤ 1048576) (hnc : n ≤ c) (b : Bool) (hv : hBoth ts = b) :
    Calls Tryd.prog 21 #[.slice A n c] w (BoRes b w) := by
  have H := Lib.hid h
  clear h
  obtain ⟨v, bad, hx⟩ : ∃ v bad, resN (fBad ts) = (v, bad) := ⟨_, _, rfl⟩
  have HX := Lib.hid hx
  have hbx : b = (setB ts && !bad) := by
    rw [← hv]
    cases hs : setB ts
    · rw [hBoth_bad hs]; rfl
    · rw [hBoth_fBad hs, ← (Prod.mk.inj hx).2]
      cases fBad ts <;> rfl
  clear hv hx
  go_enter Tryd.func21, Tryd.ntmps21
  go_wp2_with fail
  refine (iFBad_is _ A n c ts H.out hn hnc v bad HX.out).mono ?_
  rintro e w1 ⟨rfl, hb⟩
  have HB1 := Lib.hid hb
  have HBX := Lib.hid hbx
  clear hb hbx
  go_wp2_with fail
  refine (iSetValid_any _ A n c ts ((H.out.below HB1.out).more HB1.out.size) hn).mono ?_
  rintro e w2 ⟨rfl, hb⟩
  have HB2 := Lib.hid (bl_trans HB1.out hb)
  clear hb
  cases hs : setB ts
  · obtain rfl : b = false := by rw [HBX.out, hs]; rfl
    go_wp2
    go_ret
    exact ⟨rfl, HB2.out⟩
  · cases bad
    · obtain rfl : b = true := by rw [HBX.out, hs]; rfl
      go_wp2
      go_ret
      exact ⟨rfl, HB2.out⟩
    · obtain rfl : b = false := by rw [HBX.out, hs]; rfl
      go_wp2
      go_ret
      exact ⟨rfl, HB2.out⟩
end

section
/- Contracts of the reference's CanBeLast. Nothing that was there is written. -/
open Go.RowKit
set_option linter.unusedVariables false

theorem step_append_own {P : Program} {ops : Array Oper} {o : Oper} {a : Act} {w : World} {K : Act → World → Prop} {Q : Exit → Act → World → Prop} {E : Prop} (hgd : o.guard = none) (s x : Operand) (t : TypeId)
    (ho : o.op = .call { callee := .builtin .append, args := #[s, x], argTypes := #[t, t] })
    (base : Nat) (e : TypeId) (i : TypeInfo) (z : Value) (size bytes : Nat) (ht : P.underlying t = some (.slice e)) (hi : P.info? e = some i) (hz : i.zero = some z)
    (hsize : i.size = size) (hby : i.bytes = bytes) (hzs : z.cells.size = size) (hsz : 0 < size)
    (v : Value) (n : Nat) (xs : List Value) (hs : a.eval s = v) (hown : w.ownsRow base e size v n xs)
    (ad : Addr) (m c : Nat) (news : List Value) (hx : a.eval x = .slice (some ad) m c) (hl : news.length = m * size) (hnews : ∀ j u, news[j]? = some u → w.cell? (ad.add j) = some u) (h1 : ∀ u ∈ news, u.oneCell' = true)
    (h63 : n + m ≤ maxLen) (hbytes : (n + m) * bytes ≤ 140737488355328) (hbase : base ≤ w.heap.size)
    (h : ∀ v' w', w'.ownsRow base e size v' (n + m) (xs ++ news) → w.grownBy w' v.ownBlock → (v' = .slice none 0 0 ↔ v = .slice none 0 0 ∧ m = 0) → K (a.put o.dst v') w') :
    if Region.wanted o (yielded ops a.tmps) = true then Oper.wp P o a w K Q else E := by
  have hw : Region.wanted o (yielded ops a.tmps) = true := by simp [Region.wanted, hgd]
  rw [if_pos hw]
  exact wp_append_own w s x t ho base e i z size bytes ht hi hz hsize hby hzs hsz v n xs hs hown ad m c news hx hl hnews h1 h63 hbytes hbase h
theorem addr_add (b o j : Nat) : (⟨b, o, none⟩ : Addr).add j = ⟨b, o + j, none⟩ := by unfold Addr.add; split <;> simp_all
/-- The cells of tasks that lie one after another. -/
theorem Tks.cells {w : World} {B b o n : Nat} {ts : List Tk} (h : Tks w B (some ⟨b, o, none⟩) n ts) : ∀ j u, (ts.flatMap Tk.cells)[j]? = some u → w.cell? ((⟨b, o, none⟩ : Addr).add j) = some u := by
  intro j u hu
  have hj : j < ts.length * 5 := by rw [← cells_length]; exact (List.getElem?_eq_some_iff.1 hu).1
  obtain ⟨t, ht⟩ : ∃ t, ts[j / 5]? = some t := ⟨ts[j / 5]'(by omega), List.getElem?_eq_getElem _⟩
  have hj5 : j = j / 5 * 5 + j % 5 := by omega
  have hm : j % 5 < 5 := Nat.mod_lt _ (by decide)
  have hg := cells_get ts (j / 5) t ht (j % 5) hm
  rw [← hj5, hu] at hg
  obtain ⟨b', o', e, _, C⟩ := h.at_ _ _ ht
  injection e with e
  injection e with e1 e2
  subst e1 e2
  rw [addr_add]
  obtain ⟨c0, c1, c2, c3, c4⟩ := C
  rcases (by omega : j % 5 = 0 ∨ j % 5 = 1 ∨ j % 5 = 2 ∨ j % 5 = 3 ∨ j % 5 = 4) with h | h | h | h | h <;> rw [h] at hg hj5 <;> simp only [Tk.cells] at hg <;> (injection hg with hg; subst hg)
  · rw [hj5, Nat.add_zero]; exact c0
  · rw [hj5, ← Nat.add_assoc]; exact c1
  · rw [hj5, ← Nat.add_assoc]; exact c2
  · rw [hj5, ← Nat.add_assoc]; exact c3
  · rw [hj5, ← Nat.add_assoc]; exact c4

set_option maxRecDepth 100000 in
set_option maxHeartbeats 2000000 in
theorem sWithout_is (w : World) (A : Option Addr) (n c : Nat) (ts : List Tk) (k : Nat) (h : Tks w w.heap.size A n ts) (hn : n ≤ 100) (hnc : n ≤ c) (hk : k < n) :
    Calls Tryd.prog 88 #[.slice A n c, .int .i64 (k : Int)] w (LsRes (ts.eraseIdx k) w) := by
  obtain ⟨i0, hi, hz0, hz1, hz2⟩ := info_parts info_task
  obtain ⟨t, ht⟩ := get_at h.len hk
  obtain ⟨bb, oo, rfl, hbl, _⟩ := h.at_ k _ ht
  have H := Lib.hid h
  have HL := Lib.hid h.len
  clear h ht
  have i1 : (k : Int) ≤ (c : Int) := by omega
  have i2 : (k : Int) + 1 ≤ (n : Int) := by omega
  have i3 : (k : Int) + 1 ≤ (c : Int) := by omega
  have i4 : (n : Int) ≤ (c : Int) := by omega
  have i5 : (0 : Int) ≤ (k : Int) + 1 := by omega
  by_cases hkc : k + 1 = c
  · subst hkc
    obtain rfl : n = k + 1 := by omega
    have kw : IntKind.i64.wrap ((k : Int) + 1) = (k : Int) + 1 := IntWalk.i64_in _ (by omega)
    have i7 : (k : Int) ≤ (k : Int) + 1 := by omega
    have kn : ((k : Int) + 1).toNat = k + 1 := by omega
    go_enter Tryd.func88, Tryd.ntmps88
    go_wp2
    go_region_law (first | (refine step_append_own rfl (.tmp 5) (.tmp 8) 23 rfl w.heap.size 29 i0 _ 5 40 Tryd.underlying23 hi hz0 hz1 hz2 rfl (by decide) _ 0 [] rfl (Own.empty _) ⟨bb, oo, none⟩ k (k + 1) ((ts.take k).flatMap Tk.cells) rfl (by rw [cells_length, List.length_take, HL.out]; rw [Nat.min_eq_left (by omega)]) (Tks.cells (Tks.take (H.out.below (by repeat (first | with_reducible exact Below.refl w.heap.size w | with_reducible refine Below.drew ?_ | with_reducible refine bl_alloc ?_ _))) (by omega))) (cells_one _) (by unfold maxLen; omega) (by omega) (by simp) ?_; intro v1 w4 hown1 hgrow1 _; have HO1 := Lib.hid (show Own w4 w.heap.size v1 (ts.take k) from by unfold Own; rw [List.length_take, HL.out, Nat.min_eq_left (by omega)]; simpa using hown1); have HB1 := Lib.hid (show Below w.heap.size w w4 from (by repeat (first | with_reducible exact Below.refl w.heap.size w | with_reducible refine Below.drew ?_ | with_reducible refine bl_alloc ?_ _) : Below w.heap.size w _).grown hgrow1 (by simp) (fun q e => Nat.le_of_eq (Option.some.inj e))); have HS1 := HB1.out.size; clear hown1 hgrow1) | (refine step_append_own rfl (.tmp 9) (.tmp 13) 23 rfl w.heap.size 29 i0 _ 5 40 Tryd.underlying23 hi hz0 hz1 hz2 rfl (by decide) v1 (ts.take k).length ((ts.take k).flatMap Tk.cells) rfl HO1.out ⟨bb, oo, none⟩ 0 0 [] rfl rfl (fun j u hu => by simp at hu) (fun u hu => by simp at hu) (by unfold maxLen; rw [List.length_take]; omega) (by rw [List.length_take]; omega) HS1 ?_; intro v2 w5 hown2 hgrow2 _; have HB2 := Lib.hid (show Below w.heap.size w w5 from HB1.out.grown hgrow2 HS1 (fun q e => (World.ownsRow.lt HO1.out q e).1)); have HO2 := Lib.hid (show Own w5 w.heap.size v2 (ts.take k) from by unfold Own; simpa using hown2); clear hown2 hgrow2))
    go_wp2
    go_ret
    exact lsRes_of HO2.out HB2.out (by rw [List.eraseIdx_eq_take_drop_succ, List.drop_eq_nil_of_le (by rw [HL.out]; exact Nat.le_refl _), List.append_nil])
  have j1 : ((k : Int) + 1 == (c : Int)) = false := by rw [beq_eq_false_iff_ne]; omega
  have j2 : ¬ (k : Int) + 1 = (c : Int) := by omega
  have j4 : ¬ c = k + 1 := by omega
  go_enter Tryd.func88, Tryd.ntmps88
  go_wp2
  have kw : IntKind.i64.wrap ((k : Int) + 1) = (k : Int) + 1 := IntWalk.i64_in _ (by omega)
  have kn : ((k : Int) + 1).toNat = k + 1 := by omega
  go_region_law (first | (refine step_append_own rfl (.tmp 5) (.tmp 8) 23 rfl w.heap.size 29 i0 _ 5 40 Tryd.underlying23 hi hz0 hz1 hz2 rfl (by decide) _ 0 [] rfl (Own.empty _) ⟨bb, oo, none⟩ k c ((ts.take k).flatMap Tk.cells) rfl (by rw [cells_length, List.length_take, HL.out]; rw [Nat.min_eq_left (by omega)]) (Tks.cells (Tks.take (H.out.below (by repeat (first | with_reducible exact Below.refl w.heap.size w | with_reducible refine Below.drew ?_ | with_reducible refine bl_alloc ?_ _))) (by omega))) (cells_one _) (by unfold maxLen; omega) (by omega) (by simp) ?_; intro v1 w4 hown1 hgrow1 _; have HO1 := Lib.hid (show Own w4 w.heap.size v1 (ts.take k) from by unfold Own; rw [List.length_take, HL.out, Nat.min_eq_left (by omega)]; simpa using hown1); have HB1 := Lib.hid (show Below w.heap.size w w4 from (by repeat (first | with_reducible exact Below.refl w.heap.size w | with_reducible refine Below.drew ?_ | with_reducible refine bl_alloc ?_ _) : Below w.heap.size w _).grown hgrow1 (by simp) (fun q e => Nat.le_of_eq (Option.some.inj e))); have HS1 := HB1.out.size; clear hown1 hgrow1) | (refine step_append_own rfl (.tmp 9) (.tmp 13) 23 rfl w.heap.size 29 i0 _ 5 40 Tryd.underlying23 hi hz0 hz1 hz2 rfl (by decide) v1 (ts.take k).length ((ts.take k).flatMap Tk.cells) rfl HO1.out ⟨bb, oo + (k + 1) * 5, none⟩ (n - (k + 1)) (c - (k + 1)) ((ts.drop (k + 1)).flatMap Tk.cells) rfl (by rw [cells_length, List.length_drop, HL.out]) (Tks.cells (Tks.drop (k := k + 1) (H.out.below HB1.out) rfl)) (cells_one _) (by unfold maxLen; rw [List.length_take]; omega) (by rw [List.length_take]; omega) HS1 ?_; intro v2 w5 hown2 hgrow2 _; have HB2 := Lib.hid (show Below w.heap.size w w5 from HB1.out.grown hgrow2 HS1 (fun q e => (World.ownsRow.lt HO1.out q e).1)); have HO2 := Lib.hid (show Own w5 w.heap.size v2 (ts.take k ++ ts.drop (k + 1)) from by unfold Own; rw [List.length_append, List.length_drop, HL.out, List.flatMap_append]; exact hown2); clear hown2 hgrow2))
  go_wp2
  go_ret
  exact lsRes_of HO2.out HB2.out (by rw [List.eraseIdx_eq_take_drop_succ])
end

section
/- Contract of the program's hasTask. Nothing that was there is written. -/
open Go.RowKit
set_option linter.unusedVariables false

set_option maxHeartbeats 1000000 in
theorem iHas5_is (w : World) (A : Option Addr) (n c : Nat) (ts : List Tk) (a : Int) (h : Tks w w.heap.size A n ts) (hn : n ≤ 1048576) (b : Bool) (hb : (setB ts && (decide (0 ≤ a) && decide (a < (n : Int)))) = b) :
    Calls Tryd.prog 18 #[.slice A n c, .int .i64 a] w fun e w' => e = .returned (.bool b) ∧ Below w.heap.size w w' := by
  have H := Lib.hid h
  clear h
  cases hs : setB ts
  · subst hb
    go_enter Tryd.func18, Tryd.ntmps18
    go_wp2_with (go_at_call 29; refine (iSetValid_any _ A n c ts H.out hn).mono ?_; rintro e w2 ⟨rfl, hb2⟩)
    go_ret
    exact ⟨by simp [hs], hb2⟩
  rw [hs, Bool.true_and] at hb
  by_cases h0 : 0 ≤ a
  · by_cases h1 : a < (n : Int)
    · rw [decide_eq_true h0, decide_eq_true h1] at hb
      subst hb
      go_enter Tryd.func18, Tryd.ntmps18
      go_wp2_with (go_at_call 29; refine (iSetValid_any _ A n c ts H.out hn).mono ?_; rintro e w2 ⟨rfl, hb2⟩)
      go_ret
      exact ⟨by simp [*], hb2⟩
    · rw [decide_eq_true h0, decide_eq_false h1] at hb
      subst hb
      go_enter Tryd.func18, Tryd.ntmps18
      go_wp2_with (go_at_call 29; refine (iSetValid_any _ A n c ts H.out hn).mono ?_; rintro e w2 ⟨rfl, hb2⟩)
      go_ret
      exact ⟨by simp [*], hb2⟩
  · rw [decide_eq_false h0] at hb
    subst hb
    go_enter Tryd.func18, Tryd.ntmps18
    go_wp2_with (go_at_call 29; refine (iSetValid_any _ A n c ts H.out hn).mono ?_; rintro e w2 ⟨rfl, hb2⟩)
    go_ret
    exact ⟨by simp [*], hb2⟩
end

section
/- Contract of the reference's CanBeLast. Nothing that was there is written. -/
open Go.RowKit
set_option linter.unusedVariables false

theorem news_kept {w w' : World} {B g : Nat} {l : List Value} (h : Below B w w') (hn : ∀ j u, l[j]? = some u → w.cell? ((⟨g, 0, none⟩ : Addr).add j) = some u) (hg : g < B) : ∀ j u, l[j]? = some u → w'.cell? ((⟨g, 0, none⟩ : Addr).add j) = some u := fun j u hu => by
  have := hn j u hu
  rw [addr_add] at this ⊢
  exact (h.cell (p := ⟨g, 0 + j, none⟩) hg).trans this
theorem news_drew {w : World} {g : Nat} {l : List Value} (hn : ∀ j u, l[j]? = some u → w.cell? ((⟨g, 0, none⟩ : Addr).add j) = some u) : ∀ j u, l[j]? = some u → w.drew.cell? ((⟨g, 0, none⟩ : Addr).add j) = some u := hn
theorem five_alloc {w : World} {g o : Nat} {x0 x1 x2 x3 x4 : Value} (h : w.cell? ⟨g, o, none⟩ = some x0 ∧ w.cell? ⟨g, o + 1, none⟩ = some x1 ∧ w.cell? ⟨g, o + 2, none⟩ = some x2 ∧ w.cell? ⟨g, o + 3, none⟩ = some x3 ∧ w.cell? ⟨g, o + 4, none⟩ = some x4) (b : Obj) :
    (w.alloc b).cell? ⟨g, o, none⟩ = some x0 ∧ (w.alloc b).cell? ⟨g, o + 1, none⟩ = some x1 ∧ (w.alloc b).cell? ⟨g, o + 2, none⟩ = some x2 ∧ (w.alloc b).cell? ⟨g, o + 3, none⟩ = some x3 ∧ (w.alloc b).cell? ⟨g, o + 4, none⟩ = some x4 :=
  have hl : g < w.heap.size := World.block_lt_of_cell? w _ h.1
  ⟨(World.cell?_alloc_lt w b _ hl).trans h.1, (World.cell?_alloc_lt w b _ hl).trans h.2.1, (World.cell?_alloc_lt w b _ hl).trans h.2.2.1, (World.cell?_alloc_lt w b _ hl).trans h.2.2.2.1, (World.cell?_alloc_lt w b _ hl).trans h.2.2.2.2⟩
theorem five_drew {w : World} {g o : Nat} {x0 x1 x2 x3 x4 : Value} (h : w.cell? ⟨g, o, none⟩ = some x0 ∧ w.cell? ⟨g, o + 1, none⟩ = some x1 ∧ w.cell? ⟨g, o + 2, none⟩ = some x2 ∧ w.cell? ⟨g, o + 3, none⟩ = some x3 ∧ w.cell? ⟨g, o + 4, none⟩ = some x4) :
    w.drew.cell? ⟨g, o, none⟩ = some x0 ∧ w.drew.cell? ⟨g, o + 1, none⟩ = some x1 ∧ w.drew.cell? ⟨g, o + 2, none⟩ = some x2 ∧ w.drew.cell? ⟨g, o + 3, none⟩ = some x3 ∧ w.drew.cell? ⟨g, o + 4, none⟩ = some x4 := h
theorem tk_five {w w' : World} {g o : Nat} {t : Tk} (h : TkAt w g o t) : w.cell? ⟨g, o, none⟩ = some (.int .i64 t.lo) ∧ w.cell? ⟨g, o + 1, none⟩ = some (.int .i64 t.hi) ∧ w.cell? ⟨g, o + 2, none⟩ = some (.int .i64 t.du) ∧ w.cell? ⟨g, o + 3, none⟩ = some (.int .i64 t.ev) ∧ w.cell? ⟨g, o + 4, none⟩ = some (.bool t.cr) := ⟨h.c0, h.c1, h.c2, h.c3, h.c4⟩

set_option maxRecDepth 100000 in
set_option maxHeartbeats 1000000 in
theorem sCan_is (w : World) (A : Option Addr) (n c : Nat) (ts : List Tk) (a : Int) (h : Tks w w.heap.size A n ts) (hn : n ≤ 1048576) (hnc : n ≤ c) (b : Bool) (hv : (decide (0 ≤ a) && canL ts a.toNat) = b) :
    Calls Tryd.prog 78 #[.slice A n c, .int .i64 a] w fun e w' => e = .returned (.bool b) ∧ Below w.heap.size w w' := by
  obtain ⟨i0, hi, hz0, hz1, hz2⟩ := info_parts info_task
  have H := Lib.hid h
  have HL := Lib.hid h.len
  clear h
  cases hh : (setB ts && (decide (0 ≤ a) && decide (a < (n : Int))))
  · obtain rfl : b = false := by
      rw [← hv]
      cases hs : setB ts
      · rw [can_bad _ hs, Bool.and_false]
      · rw [hs, Bool.true_and] at hh
        by_cases h0 : 0 ≤ a
        · rw [decide_eq_true h0, Bool.true_and] at hh
          have h1 : ¬ a < (n : Int) := of_decide_eq_false hh
          rw [can_past (List.getElem?_eq_none (by have := HL.out; omega)), Bool.and_false]
        · rw [decide_eq_false h0]; rfl
    have HH := Lib.hid hh
    clear hv hh
    go_enter Tryd.func78, Tryd.ntmps78
    go_wp2_with (go_at_call 20; refine (sAt_is _ A n c ts a H.out hn false HH.out).mono ?_; rintro e w1 ⟨rfl, hb⟩)
    go_ret
    exact ⟨rfl, hb⟩
  have HH := Lib.hid hh
  rw [Bool.and_eq_true, Bool.and_eq_true, decide_eq_true_iff, decide_eq_true_iff] at hh
  obtain ⟨hs, h0, h1⟩ := hh
  obtain ⟨k, rfl⟩ := Int.eq_ofNat_of_zero_le h0
  have hk : k < n := by omega
  obtain ⟨t, ht⟩ := get_at HL.out hk
  obtain ⟨bb, oo, rfl, hbl, _⟩ := H.out.at_ k _ ht
  rw [decide_eq_true h0, Bool.true_and, show ((k : Int)).toNat = k from rfl, can_end hs ht] at hv
  have h5 : n ≤ 5 := by have := setB_len hs; rw [HL.out] at this; exact this
  obtain ⟨us, hus⟩ : ∃ us, us = endOf ts k t := ⟨_, rfl⟩
  have hul : us.length = n := by rw [hus, (end_last ht).2.2, HL.out]
  have hsu : setB us = true := by rw [hus, set_perm (end_perm ht)]; exact hs
  rw [← hus, HL.out, ← hul] at hv
  have HV := Lib.hid hv
  have hu5 : us.length ≤ 5 := by omega
  have hu0 : 1 ≤ us.length := by omega
  clear hul
  have HT := Lib.hid ht
  have HU : Hid (us = ts.eraseIdx k ++ [t]) := hus
  have i1 : (k : Int) < (n : Int) := h1
  clear hv ht hs hus
  have hel : (ts.eraseIdx k).length = n - 1 := by rw [List.length_eraseIdx, if_pos (by rw [HL.out]; exact hk), HL.out]
  have HEL := Lib.hid hel
  clear hel
  go_enter Tryd.func78, Tryd.ntmps78
  go_wp2_with fail
  refine (sAt_is _ _ n c ts (k : Int) H.out hn true HH.out).mono ?_
  rintro e w1 ⟨rfl, hb⟩
  have HB1 := Lib.hid hb
  have hsz := hb.size
  have H1 := Lib.hid ((H.out.below hb).more hb.size)
  have hbl1 : bb < w1.heap.size := by omega
  have C1 := Tks.get H1.out HT.out
  obtain ⟨lo, hi', du, ev, cr⟩ := t
  obtain ⟨c0, c1, c2, c3, c4⟩ := C1.2
  dsimp only at c0 c1 c2 c3 c4
  have hS0 : w1.cell? ⟨bb, oo + k * 5, none⟩ = some (.int .i64 lo) ∧ w1.cell? ⟨bb, oo + k * 5 + 1, none⟩ = some (.int .i64 hi') ∧ w1.cell? ⟨bb, oo + k * 5 + 2, none⟩ = some (.int .i64 du) ∧ w1.cell? ⟨bb, oo + k * 5 + 3, none⟩ = some (.int .i64 ev) ∧ w1.cell? ⟨bb, oo + k * 5 + 4, none⟩ = some (.bool cr) := ⟨c0, c1, c2, c3, c4⟩
  clear hb C1
  go_wp2
  go_region_held3? (fun W => W.cell? ⟨bb, oo + k * 5, none⟩ = some (.int .i64 lo) ∧ W.cell? ⟨bb, oo + k * 5 + 1, none⟩ = some (.int .i64 hi') ∧ W.cell? ⟨bb, oo + k * 5 + 2, none⟩ = some (.int .i64 du) ∧ W.cell? ⟨bb, oo + k * 5 + 3, none⟩ = some (.int .i64 ev) ∧ W.cell? ⟨bb, oo + k * 5 + 4, none⟩ = some (.bool cr)) (first | with_reducible exact hS4 | with_reducible exact hS2 | with_reducible exact five_alloc hS2 _ | with_reducible exact hS0 | with_reducible exact five_alloc hS0 _ | with_reducible exact five_drew (five_alloc hS0 _) | with_reducible exact five_drew hS0)
    ((first
      | (go_at_call 88; refine (sWithout_is _ (some ⟨bb, oo, none⟩) n c ts k ?_ (by omega) hnc hk).mono ?_; exact tks_to H1.out (by repeat (first | with_reducible exact Below.refl w1.heap.size w1 | with_reducible refine Below.drew ?_ | with_reducible refine bl_drewN ?_ _ | with_reducible refine bl_alloc ?_ _)); rintro e w2 ⟨A2, c2, rfl, ho2, hb2⟩; have HB2 := Lib.hid (show Below w1.heap.size w1 w2 from bl_trans (by repeat (first | with_reducible exact Below.refl w1.heap.size w1 | with_reducible refine Below.drew ?_ | with_reducible refine bl_drewN ?_ _ | with_reducible refine bl_alloc ?_ _)) hb2); have hS2 : w2.cell? ⟨bb, oo + k * 5, none⟩ = some (.int .i64 lo) ∧ w2.cell? ⟨bb, oo + k * 5 + 1, none⟩ = some (.int .i64 hi') ∧ w2.cell? ⟨bb, oo + k * 5 + 2, none⟩ = some (.int .i64 du) ∧ w2.cell? ⟨bb, oo + k * 5 + 3, none⟩ = some (.int .i64 ev) ∧ w2.cell? ⟨bb, oo + k * 5 + 4, none⟩ = some (.bool cr) := tk_five (w' := w2) (Tks.get (tks_to H1.out HB2.out) HT.out).2; have HO2 := Lib.hid (own_more ho2 (by simp) : Own w2 w1.heap.size (.slice A2 (ts.eraseIdx k).length c2) (ts.eraseIdx k)); have HR2 : Hid (w2.ownsRow w1.heap.size 29 5 (.slice A2 (ts.eraseIdx k).length c2) (ts.eraseIdx k).length ((ts.eraseIdx k).flatMap Tk.cells)) := HO2.out; have HC2 := Lib.hid hb2; have hs2 := HB2.out.size; clear hb2 ho2)
      | (have uu := HO2; clear uu; refine step_append_own rfl (.tmp 12) (.tmp 17) 23 rfl w1.heap.size 29 i0 _ 5 40 Tryd.underlying23 hi hz0 hz1 hz2 rfl (by decide) (.slice A2 (ts.eraseIdx k).length c2) (ts.eraseIdx k).length ((ts.eraseIdx k).flatMap Tk.cells) rfl (by first | with_reducible exact HR2.out | with_reducible exact World.ownsRow.alloc HR2.out _) _ 1 1 (Tk.cells ⟨lo, hi', du, ev, cr⟩) rfl rfl (by first | with_reducible exact cell_new5 w2 ⟨lo, hi', du, ev, cr⟩ _ | exact news_kept HC2.out (news_drew (cell_new5_at w1 ⟨lo, hi', du, ev, cr⟩ _ w1.heap.size rfl)) (by simp)) (by intro u hu; exact cells_one [⟨lo, hi', du, ev, cr⟩] u (by simpa using hu)) (by have := HEL.out; unfold maxLen; omega) (by have := HEL.out; omega) (by first | omega | (simp; omega)) ?_; intro v4 w4 hown4 hgrow4 _; have HO4 := Lib.hid (show Own w4 w1.heap.size v4 us from by rw [HU.out]; exact Own.snoc hown4); have HB4 := Lib.hid (show Below w1.heap.size w1 w4 from (by repeat (first | with_reducible exact HB2.out | with_reducible refine bl_alloc ?_ _) : Below w1.heap.size w1 _).grown hgrow4 (by first | omega | (simp; omega)) (fun q e => (World.ownsRow.lt HO2.out q e).1)); have hS4 : w4.cell? ⟨bb, oo + k * 5, none⟩ = some (.int .i64 lo) ∧ w4.cell? ⟨bb, oo + k * 5 + 1, none⟩ = some (.int .i64 hi') ∧ w4.cell? ⟨bb, oo + k * 5 + 2, none⟩ = some (.int .i64 du) ∧ w4.cell? ⟨bb, oo + k * 5 + 3, none⟩ = some (.int .i64 ev) ∧ w4.cell? ⟨bb, oo + k * 5 + 4, none⟩ = some (.bool cr) := tk_five (w' := w4) (Tks.get (tks_to H1.out HB4.out) HT.out).2; clear hown4 hgrow4)))
  all_goals (
    obtain ⟨A5, c5, rfl⟩ := HO4.out.form
    have hu1 : (us.length : Int) - 1 = ((us.length - 1 : Nat) : Int) := by omega
    go_wp2_with fail
    refine (sBothAt_is w4 A5 _ c5 us (us.length - 1) HO4.out.reads.2 (by omega) (by omega) b HV.out).mono ?_
    rintro e w6 ⟨rfl, hb6⟩
    have HB6 := Lib.hid (bl_trans HB1.out (bl_trans HB4.out hb6))
    clear hb6
    go_wp2
    go_ret
    exact ⟨rfl, HB6.out⟩)
end

section
/- What the laws do with lists of numbers: compare, copy, mark. -/
open Go.RowKit
set_option linter.unusedVariables false

theorem zs_at {w : World} {B : Nat} {A : Option Addr} {n k : Nat} {zs : List Int} (h : Zs w B A n zs) (hk : k < n) : ∃ z, zs[k]? = some z := ⟨zs[k]'(by rw [h.len]; exact hk), List.getElem?_eq_getElem _⟩
theorem OwnZ.put {w : World} {B g n c : Nat} {zs : List Int} (h : OwnZ w B (.slice (some ⟨g, 0, none⟩) n c) zs) (k : Nat) (z : Int) : OwnZ (w.setCell ⟨g, k, none⟩ (.int .i64 z)) B (.slice (some ⟨g, 0, none⟩) n c) (zs.set k z) := by
  unfold OwnZ
  rw [List.length_set, List.map_set]
  refine ⟨by rw [List.length_set]; exact h.1, ?_⟩
  rcases h.2 with ⟨e, h0⟩ | ⟨g', cap, cur, e, hb, hg, h1, h2, h3, h4⟩
  · cases e
  · injection e with e1 e2 e3
    injection e1 with e1
    injection e1 with e1
    subst e1
    refine .inr ⟨g, cap, cur.setIfInBounds k (.int .i64 z), by rw [e2, e3], hb, ?_, h1, h2, by rw [Array.size_setIfInBounds]; exact h3, ?_⟩
    · simp [World.setCell, Array.getElem?_modify, hg]
    · rw [Array.toList_setIfInBounds, ← h4, List.take_set]
theorem OwnZ.frozen {w : World} {B g n c : Nat} {zs : List Int} (h : OwnZ w B (.slice (some ⟨g, 0, none⟩) n c) zs) : ∀ i, w.frozen? ⟨g, i, none⟩ = false := by
  have hn : n = zs.length := by
    rcases h.2 with ⟨e, h0⟩ | ⟨g', cap, cur, e, _⟩
    · cases e
    · injection e
  subst hn
  exact World.ownsRow.frozenAt h
theorem OwnZ.lt {w : World} {B g n c : Nat} {zs : List Int} (h : OwnZ w B (.slice (some ⟨g, 0, none⟩) n c) zs) : B ≤ g ∧ g < w.heap.size := World.ownsRow.lt h g rfl
end

section
/- Contract of the reference's AssignOrder. Nothing that was there is written. -/
open Go.RowKit
set_option linter.unusedVariables false

theorem OwnZ.one (w : World) (B : Nat) (hB : B ≤ w.heap.size) (z : Int) : OwnZ (w.alloc (.cells #[.int .i64 z] 3)) B (.slice (some ⟨w.heap.size, 0, none⟩) 1 1) [z] :=
  ⟨rfl, .inr ⟨w.heap.size, 1, #[.int .i64 z], rfl, hB, heap_alloc_new w _, Nat.le_refl _, by decide, rfl, rfl⟩⟩
theorem Zs.cells {w : World} {B b o n : Nat} {zs : List Int} (h : Zs w B (some ⟨b, o, none⟩) n zs) : ∀ j u, (zs.map (Value.int .i64))[j]? = some u → w.cell? ((⟨b, o, none⟩ : Addr).add j) = some u := by
  intro j u hu
  rw [List.getElem?_map] at hu
  cases hz : zs[j]? with
  | none => rw [hz] at hu; cases hu
  | some z =>
    rw [hz] at hu
    injection hu with hu
    subst hu
    rw [addr_add]
    exact (h.get hz).2
theorem zs_one (zs : List Int) : ∀ u ∈ zs.map (Value.int .i64), u.oneCell' = true := by
  intro u hu
  obtain ⟨z, _, rfl⟩ := List.mem_map.1 hu
  rfl
theorem toZ_range (k : Nat) : toZ (List.range (k + 1)) = toZ (List.range k) ++ [(k : Int)] := by unfold toZ; rw [List.range_succ, List.map_append]; rfl
theorem toZ_erase (L : List Nat) (k : Nat) : toZ (L.eraseIdx k) = (toZ L).take k ++ (toZ L).drop (k + 1) := by
  unfold toZ
  rw [List.eraseIdx_eq_take_drop_succ, List.map_append, List.map_take, List.map_drop]
/-- What a search from the end has seen. -/
def Scan (us : List Tk) (k : Nat) (z : Int) : Prop :=
  (z = -1 ∧ ∀ j, k ≤ j → j < us.length → canL us j = false) ∨ (z = (k : Int) ∧ k < us.length ∧ canL us k = true ∧ ∀ j, k < j → j < us.length → canL us j = false)
theorem scan_start (us : List Tk) : Hid (Scan us us.length (-1)) := .inl ⟨rfl, fun j h1 h2 => by omega⟩
theorem scan_no {us : List Tk} {k : Nat} (h : Scan us (k + 1) (-1)) (hc : canL us k = false) : Scan us k (-1) := by
  rcases h with ⟨_, h⟩ | ⟨h, _⟩
  · refine .inl ⟨rfl, fun j h1 h2 => ?_⟩
    rcases Nat.lt_or_ge k j with hj | hj
    · exact h j hj h2
    · obtain rfl : j = k := by omega
      exact hc
  · omega
theorem scan_yes {us : List Tk} {k : Nat} (h : Scan us (k + 1) (-1)) (hk : k < us.length) (hc : canL us k = true) : Scan us k (k : Int) := by
  rcases h with ⟨_, h⟩ | ⟨h, _⟩
  · exact .inr ⟨rfl, hk, hc, fun j h1 h2 => h j h1 h2⟩
  · omega
theorem scan_none {ts : List Tk} {L : List Nat} (h : Scan (putN ts L) 0 (-1)) : pickL ts L = none := by
  cases hp : pickL ts L with
  | none => rfl
  | some i =>
    obtain ⟨h1, h2, _⟩ := pick_some hp
    rcases h with ⟨_, h⟩ | ⟨h, _⟩
    · rw [h i (Nat.zero_le _) (by rw [put_len]; exact h1)] at h2; cases h2
    · omega
theorem scan_some {ts : List Tk} {L : List Nat} {k : Nat} (h : Scan (putN ts L) k (k : Int)) : pickL ts L = some k := by
  rcases h with ⟨h, _⟩ | ⟨_, h1, h2, h3⟩
  · omega
  · rw [put_len] at h1 h3
    exact find_rev.2 ⟨h1, h2, h3⟩
theorem asg_stop {ts : List Tk} {L acc : List Nat} {r : Option (List Nat)} (h : asg ts L.length L acc = r) (hl : 0 < L.length) (hp : pickL ts L = none) : r = none := by
  obtain ⟨m, hm⟩ : ∃ m, L.length = m + 1 := ⟨L.length - 1, by omega⟩
  rw [hm] at h
  unfold asg at h
  rw [hp] at h
  exact h.symm
theorem asg_go {ts : List Tk} {L acc : List Nat} {r : Option (List Nat)} {k x : Nat} (h : asg ts L.length L acc = r) (hx : L[k]? = some x) (hp : pickL ts L = some k) : asg ts (L.eraseIdx k).length (L.eraseIdx k) (x :: acc) = r := by
  have hk := (List.getElem?_eq_some_iff.1 hx).1
  have hm : L.length = (L.eraseIdx k).length + 1 := by rw [List.length_eraseIdx, if_pos hk]; omega
  have hg : L.getD k 0 = x := by rw [List.getD_eq_getElem?_getD, hx]; rfl
  rw [hm] at h
  unfold asg at h
  rw [hp] at h
  simp only [hg] at h
  exact h
def asgR (r : Option (List Nat)) : List Int := match r with | some o => toZ o | none => []

set_option maxRecDepth 100000 in
set_option maxHeartbeats 4000000 in
theorem sAssign_is (w : World) (A : Option Addr) (n c : Nat) (ts : List Tk) (h : Tks w w.heap.size A n ts) (hn : n ≤ 1048576) (r : Option (List Nat)) (hr : assignOf ts = r) :
    Calls Tryd.prog 64 #[.slice A n c] w (ZsRes2 (asgR r) r.isSome w) := by
  obtain ⟨i0, hi, hz0, hz1, hz2⟩ := info_parts info_int
  have H := Lib.hid h
  have HL := Lib.hid h.len
  clear h
  cases hs : setB ts
  · obtain rfl : r = none := by rw [← hr]; unfold assignOf; rw [hs]; rfl
    have HS := Lib.hid hs
    clear hr hs
    go_enter Tryd.func64, Tryd.ntmps64
    go_wp2_with fail
    refine (sSetValid_any _ A n c ts H.out hn).mono ?_
    rintro e w1 ⟨rfl, hb1⟩
    rw [HS.out]
    have HB1 := Lib.hid hb1
    clear hb1
    go_wp2
    go_ret2
    exact ⟨_, _, rfl, (OwnZ.empty w1).less HB1.out.size, bl_alloc HB1.out _⟩
  have h5 := setB_len hs
  rw [HL.out] at h5
  have hr' : asg ts n (List.range n) [] = r := by rw [← hr]; unfold assignOf; rw [if_pos hs, HL.out]
  have HR := Lib.hid hr'
  have HS := Lib.hid hs
  clear hr hr' hs
  go_enter Tryd.func64, Tryd.ntmps64
  go_wp2_with fail
  refine (sSetValid_any _ A n c ts H.out hn).mono ?_
  rintro e w1 ⟨rfl, hb1⟩
  rw [HS.out]
  have HB1 := Lib.hid hb1
  clear hb1
  go_wp2
  go_loopw [4, 5] (fun v i wr => ∃ k : Nat, k ≤ n ∧ i = .int .i64 k ∧ OwnZ wr w.heap.size v (toZ (List.range k)) ∧ Below w.heap.size w wr) (fun _ i _ => n - (intOf i).toNat)
  case atStart => exact ⟨0, Nat.zero_le _, rfl, (OwnZ.empty w1).less HB1.out.size, bl_alloc HB1.out _⟩
  case round =>
    obtain ⟨k, hk, rfl, ho, hb⟩ := hrel
    have HO := Lib.hid ho
    have HB := Lib.hid hb
    have hsz : w.heap.size ≤ wr.heap.size := hb.size
    clear ho hb
    by_cases hlt : k < n
    · have hlti : (k : Int) < (n : Int) := by omega
      have HLK : Hid ((toZ (List.range k)).length = k) := by show _ = _; rw [toZ_len, List.length_range]
      have b1 : (toZ (List.range k)).length + 1 ≤ maxLen := by rw [HLK.out]; unfold maxLen; omega
      have b2 : ((toZ (List.range k)).length + 1) * 8 ≤ 140737488355328 := by rw [HLK.out]; omega
      go_wp2_with (at_builtin; refine wpList_append_own _ rfl (.tmp 21) (.tmp 23) 39 rfl w.heap.size 3 i0 _ 1 8 Tryd.underlying39 hi hz0 hz1 hz2 rfl (by decide) _ (toZ (List.range k)).length ((toZ (List.range k)).map (Value.int .i64)) rfl (World.ownsRow.alloc HO.out _) ⟨wr.heap.size, 0, none⟩ 1 1 [.int .i64 (k : Int)] rfl rfl (by have hx := cell_one_new wr (.int .i64 (k : Int)) 3; simpa using hx) (by intro u hu; simp at hu; subst hu; rfl) b1 b2 (by simp; omega) ?_; intro v' w4 hown' hgrow _)
      have HO4 := Lib.hid (OwnZ.snoc hown')
      have HB4 := Lib.hid ((bl_alloc HB.out _).grown hgrow (by simp; omega) (fun k e => (World.ownsRow.lt HO.out k e).1))
      clear hown' hgrow b1 b2
      go_wp2
      go_roundw
      case rel => exact ⟨k + 1, by omega, by go_num, by rw [toZ_range]; exact HO4.out, HB4.out⟩
      case measure => simp [intOf]; omega
    · obtain rfl : k = n := by omega
      have hlti : ¬ (k : Int) < (k : Int) := by omega
      go_wp2
      go_loopw [4, 6] (fun v u wr => ∃ (L acc : List Nat) (A4 : Option Addr) (c4 g c6 : Nat), v = .slice A4 L.length c4 ∧ u = .slice (some ⟨g, 0, none⟩) acc.length c6 ∧ acc.length + L.length = k ∧ Hid (InL ts L) ∧ Hid (asg ts L.length L acc = r) ∧ OwnZ wr w.heap.size v (toZ L) ∧ OwnZ wr w.heap.size u (toZ acc) ∧ Below w.heap.size w wr) (fun v _ _ => sliceLen v)
      case atStart =>
        obtain ⟨A4, c4, e⟩ := HO.out.form
        rw [toZ_len] at e
        exact ⟨List.range k, [], A4, c4, wr.heap.size, 0, e, rfl, by simp, (fun i hi => by rw [HL.out]; exact List.mem_range.1 hi), by show _ = _; rw [List.length_range]; exact HR.out, HO.out.alloc _, (OwnZ.empty wr).less hsz, bl_alloc HB.out _⟩
      case round =>
        obtain ⟨L, acc, A4, c4, g, c6, rfl, rfl, hL, HI, HA, ho4, ho6, hb2⟩ := hrel
        have HO4 := Lib.hid ho4
        have HO6 := Lib.hid ho6
        have HB2 := Lib.hid hb2
        have hsz2 := hb2.size
        clear ho4 ho6 hb2 HO HB hsz
        by_cases h0 : L.length = 0
        · have hLn : L = [] := List.eq_nil_of_length_eq_zero h0
          subst hLn
          have hrr : r = some acc := by rw [← HA.out]; rfl
          subst hrr
          go_wp2
          go_ret2
          exact ⟨some ⟨g, 0, none⟩, c6, by show _ = Ending.returned (.tuple #[.slice _ (toZ acc).length c6, _]); rw [toZ_len]; rfl, by show OwnZ _ _ (.slice _ (toZ acc).length c6) _; rw [toZ_len]; exact HO6.out, HB2.out⟩
        have hLp : 0 < L.length := by omega
        have hLi : (0 : Int) < (L.length : Int) := by omega
        obtain ⟨g4, rfl, hcap, hcm⟩ : ∃ g4, A4 = some ⟨g4, 0, none⟩ ∧ L.length ≤ c4 ∧ c4 ≤ maxLen := by
          rcases HO4.out.2 with ⟨e, h0⟩ | ⟨g', cap, cur, e, _, _, h1, h2, _⟩
          · rw [toZ_len] at h0; omega
          · injection e with e1 e2 e3
            subst e3
            rw [toZ_len] at h1
            exact ⟨g', e1, h1, h2⟩
        have HZ4 : Hid (Zs wr wr.heap.size (some ⟨g4, 0, none⟩) L.length (toZ L)) := by
          have hh := HO4.out
          rw [← toZ_len L] at hh
          have := hh.reads
          rw [toZ_len] at this
          exact this
        go_wp2_with fail
        refine (sPut_is wr A k c ts (some ⟨g4, 0, none⟩) L.length c4 L ((H.out.below HB2.out).more HB2.out.size) HZ4.out HI.out (by omega)).mono ?_
        rintro e w2 ⟨A8, c8, rfl, ho8, hb8⟩
        obtain ⟨us, hus⟩ : ∃ us, us = putN ts L := ⟨_, rfl⟩
        have hul : us.length = L.length := by rw [hus, put_len]
        rw [← hus] at ho8 ⊢
        have HUS := Lib.hid hus
        have HUL := Lib.hid hul
        have HO8 := Lib.hid ho8
        have HB8 := Lib.hid hb8
        have HT8 := Lib.hid ho8.reads.2
        have hs8 := hb8.size
        clear hus ho8 hb8
        have hus5 : us.length ≤ 5 := by omega
        have hu8 : us.length ≤ c8 := by
          rcases HO8.out.2 with ⟨e, h0⟩ | ⟨g', cap, cur, e, _, _, h1, h2, _⟩
          · omega
          · injection e with e1 e2 e3
            subst e3
            exact h1
        have hlm : (L.length : Int) - 1 = (us.length : Int) - 1 := by omega
        clear hul
        go_wp2
        go_loopw [7, 9] (fun a i wr => ∃ (q : Nat) (z y : Int), q ≤ us.length ∧ a = .int .i64 z ∧ i = .int .i64 y ∧ y = (q : Int) - 1 ∧ Hid (Scan us q z) ∧ Below w2.heap.size w2 wr) (fun _ i _ => (intOf i + 1).toNat)
        case atStart => exact ⟨us.length, -1, _, Nat.le_refl _, rfl, by go_num, by omega, scan_start us, Below.refl _ _⟩
        case round =>
          obtain ⟨q, z, y, hq, rfl, rfl, hy, HC, hb9⟩ := hrel
          have HB9 := Lib.hid hb9
          have hs9 := hb9.size
          clear hb9
          by_cases hgo : z = -1 ∧ 0 < q
          · obtain ⟨rfl, hq0⟩ := hgo
            obtain ⟨q, rfl⟩ : ∃ q', q = q' + 1 := ⟨q - 1, by omega⟩
            obtain rfl : y = (q : Int) := by omega
            clear hy
            have hq1 : q < us.length := by omega
            have y0 : (0 : Int) ≤ (q : Int) := by omega
            go_wp2_with fail
            refine (sCan_is _ A8 us.length c8 us (q : Int) (tks_to HT8.out HB9.out) (by omega) hu8 (canL us q) (by simp)).mono ?_
            rintro e w10 ⟨rfl, hb10⟩
            have HB10 := Lib.hid (bl_trans HB9.out hb10)
            clear hb10
            cases hc : canL us q
            · have HC' := Lib.hid (scan_no HC.out hc)
              clear hc
              go_wp2
              go_roundw
              case rel => exact ⟨q, -1, _, by omega, rfl, by go_num, by omega, HC', HB10.out⟩
              case measure => simp [intOf]
            · have HC' := Lib.hid (scan_yes HC.out hq1 hc)
              clear hc
              go_wp2
              go_roundw
              case rel => exact ⟨q, (q : Int), _, by omega, rfl, by go_num, by omega, HC', HB10.out⟩
              case measure => simp [intOf]
          by_cases hz1 : z = -1
          · subst hz1
            obtain rfl : q = 0 := by
              by_cases h : 0 < q
              · exact absurd ⟨rfl, h⟩ hgo
              · omega
            obtain rfl : y = -1 := by omega
            have HP : Hid (pickL ts L = none) := scan_none (by rw [← HUS.out]; exact HC.out)
            have hrr := asg_stop HA.out hLp HP.out
            subst hrr
            have HBX := Lib.hid (bl_trans HB2.out (bl_trans HB8.out HB9.out))
            clear hgo hy
            go_wp2
            go_ret2
            exact ⟨_, _, rfl, (OwnZ.empty _).less HBX.out.size, bl_alloc HBX.out _⟩
          obtain ⟨rfl, hqu⟩ : z = (q : Int) ∧ q < us.length := by
            rcases HC.out with ⟨e, _⟩ | ⟨e, h, _⟩
            · exact absurd e hz1
            · exact ⟨e, h⟩
          have hqL : q < L.length := by have := HUL.out; omega
          clear hgo hz1
          have HP : Hid (pickL ts L = some q) := scan_some (by rw [← HUS.out]; exact HC.out)
          obtain ⟨x, hx⟩ : ∃ x, L[q]? = some x := ⟨L[q]'hqL, List.getElem?_eq_getElem _⟩
          have HA' := Lib.hid (asg_go HA.out hx HP.out)
          have HI' : Hid (InL ts (L.eraseIdx q)) := fun i hi => HI.out i ((List.eraseIdx_sublist L q).subset hi)
          have hel : (L.eraseIdx q).length = L.length - 1 := by rw [List.length_eraseIdx, if_pos hqL]
          have HEL := Lib.hid hel
          have HBX := Lib.hid (bl_trans HB8.out HB9.out)
          have HBW := Lib.hid (bl_trans HB2.out HBX.out)
          have HO4q := Lib.hid (HO4.out.below HBX.out)
          have HO6q := Lib.hid (HO6.out.below HBX.out)
          have HZ4q := Lib.hid ((HZ4.out.below HBX.out).more HBX.out.size)
          have HZ6q : Hid (Zs wr wr.heap.size (some ⟨g, 0, none⟩) acc.length (toZ acc)) := by
            have hh := HO6q.out
            rw [← toZ_len acc] at hh
            have := hh.reads
            rw [toZ_len] at this
            exact this
          have c0 := (HZ4q.out.get (toZ_get hx)).2
          rw [Nat.zero_add] at c0
          have hsq := HBW.out.size
          have h4q := HZ4q.out.get (toZ_get hx)
          have h4l := h4q.1
          have qn : ¬ (q : Int) < 0 := by omega
          have qL : (q : Int) < (L.length : Int) := by omega
          have q0 : (0 : Int) ≤ (q : Int) := by omega
          clear hel hx h4q hs8 hs9
          have HX : Hid (y = (q : Int) - 1) := hy
          clear hy
          have hyy : (0 ≤ y) ∨ ¬ (0 ≤ y) := Classical.em _
          have hxn : (toZ acc).length = acc.length := toZ_len acc
          have HXN := Lib.hid hxn
          clear hxn
          rcases hyy with hy0 | hy0
          all_goals (
            go_wp2_with (at_builtin; refine wpList_append_own _ rfl (.tmp 54) (.tmp 55) 39 rfl w.heap.size 3 i0 _ 1 8 Tryd.underlying39 hi hz0 hz1 hz2 rfl (by decide) _ 1 [.int .i64 (x : Int)] rfl (OwnZ.one wr w.heap.size hsq (x : Int)) ⟨g, 0, none⟩ acc.length c6 ((toZ acc).map (Value.int .i64)) rfl (by rw [List.length_map, HXN.out]; omega) (Zs.cells (HZ6q.out.below (bl_alloc (Below.refl _ _) _))) (zs_one _) (by unfold maxLen; omega) (by omega) (by simp; omega) ?_; intro v5 w5 hown5 hgrow5 _; have HB5q := Lib.hid (show Below wr.heap.size wr w5 from (bl_alloc (Below.refl wr.heap.size wr) _).grown hgrow5 (by simp) (fun q e => Nat.le_of_eq (Option.some.inj e))); have HO5 := Lib.hid (show OwnZ w5 w.heap.size v5 (toZ (x :: acc)) from by unfold OwnZ; rw [toZ_len, List.length_cons, Nat.add_comm]; exact hown5); clear hown5 hgrow5)
            obtain ⟨g5, c5, rfl⟩ : ∃ g5 c5, v5 = .slice (some ⟨g5, 0, none⟩) (x :: acc).length c5 := by
              rcases HO5.out.2 with ⟨e, h0⟩ | ⟨g', cap, cur, e, _⟩
              · rw [toZ_len] at h0; simp at h0
              · exact ⟨g', cap, by rw [e, toZ_len]⟩
            have HB5 := Lib.hid (bl_trans HBW.out HB5q.out)
            have HZ5 := Lib.hid ((HZ4q.out.below HB5q.out).more HB5q.out.size)
            have i1 : (q : Int) ≤ (c4 : Int) := by omega
            have i2 : (q : Int) + 1 ≤ (L.length : Int) := by omega
            have i3 : (q : Int) + 1 ≤ (c4 : Int) := by omega
            have i4 : (L.length : Int) ≤ (c4 : Int) := by omega
            have i5 : (0 : Int) ≤ (q : Int) + 1 := by omega
            have kw : IntKind.i64.wrap ((q : Int) + 1) = (q : Int) + 1 := IntWalk.i64_in _ (by omega)
            have kn : ((q : Int) + 1).toNat = q + 1 := by omega
            by_cases hkc : q + 1 = c4
            · subst hkc
              have hLq : L.length = q + 1 := by omega
              have i7 : (q : Int) ≤ (q : Int) + 1 := by omega
              go_wp2
              go_region_law (first | (refine step_append_own rfl (.tmp 57) (.tmp 60) 39 rfl w5.heap.size 3 i0 _ 1 8 Tryd.underlying39 hi hz0 hz1 hz2 rfl (by decide) _ 0 [] rfl (OwnZ.empty _) ⟨g4, 0, none⟩ q (q + 1) (((toZ L).take q).map (Value.int .i64)) rfl (by rw [List.length_map, List.length_take, toZ_len]; rw [Nat.min_eq_left (by omega)]; omega) (Zs.cells (Zs.take (HZ5.out.below (by repeat (first | with_reducible exact Below.refl w5.heap.size w5 | with_reducible refine Below.drew ?_ | with_reducible refine bl_alloc ?_ _))) (by omega))) (zs_one _) (by unfold maxLen; omega) (by omega) (by simp) ?_; intro v6 w6 hown6 hgrow6 _; have HO6a := Lib.hid (show OwnZ w6 w5.heap.size v6 ((toZ L).take q) from by unfold OwnZ; rw [List.length_take, toZ_len, Nat.min_eq_left (by omega)]; simpa using hown6); have HB6 := Lib.hid (show Below w5.heap.size w5 w6 from (by repeat (first | with_reducible exact Below.refl w5.heap.size w5 | with_reducible refine Below.drew ?_ | with_reducible refine bl_alloc ?_ _) : Below w5.heap.size w5 _).grown hgrow6 (by simp) (fun q e => Nat.le_of_eq (Option.some.inj e))); have HS6 := HB6.out.size; clear hown6 hgrow6) | (have uu := HO6a; clear uu; refine step_append_own rfl (.tmp 61) (.tmp 65) 39 rfl w5.heap.size 3 i0 _ 1 8 Tryd.underlying39 hi hz0 hz1 hz2 rfl (by decide) v6 ((toZ L).take q).length (((toZ L).take q).map (Value.int .i64)) rfl HO6a.out ⟨g4, 0, none⟩ 0 0 [] rfl rfl (fun j u hu => by simp at hu) (fun u hu => by simp at hu) (by unfold maxLen; rw [List.length_take, toZ_len]; omega) (by rw [List.length_take, toZ_len]; omega) HS6 ?_; intro v7 w7 hown7 hgrow7 _; have HB7 := Lib.hid (show Below w5.heap.size w5 w7 from HB6.out.grown hgrow7 HS6 (fun q e => (World.ownsRow.lt HO6a.out q e).1)); have HO7 := Lib.hid (show OwnZ w7 w5.heap.size v7 ((toZ L).take q) from by unfold OwnZ; simpa using hown7); clear hown7 hgrow7))
              have HE7 : Hid ((toZ L).take q = toZ (L.eraseIdx q)) := by
                show _ = _
                rw [toZ_erase, List.drop_eq_nil_of_le (by rw [toZ_len]; omega), List.append_nil]
              have HO7' : Hid (OwnZ w7 w5.heap.size v7 (toZ (L.eraseIdx q))) := by show OwnZ _ _ _ _; rw [← HE7.out]; exact HO7.out
              obtain ⟨A7, c7, rfl⟩ : ∃ A7 c7, v7 = .slice A7 (L.eraseIdx q).length c7 := by
                obtain ⟨A7, c7, e⟩ := HO7'.out.form
                rw [toZ_len] at e
                exact ⟨A7, c7, e⟩
              have HO5' := Lib.hid (HO5.out.below HB7.out)
              have HB7' := Lib.hid (bl_trans HB5.out HB7.out)
              have HO7'' := Lib.hid (HO7'.out.less HB5.out.size)
              go_wp2
              refine ⟨⟨_, _, _, _, ⟨L.eraseIdx q, ⟨A7, c7, rfl⟩, x :: acc, ⟨g5, c5, rfl⟩, by rw [HEL.out]; simp; omega, HI', HA', HO7''.out, HO5'.out, HB7'.out⟩, rfl, rfl, rfl, rfl⟩, ?_⟩
              simp [sliceLen, HEL.out]
              try omega
            · have j1 : ((q : Int) + 1 == (c4 : Int)) = false := by rw [beq_eq_false_iff_ne]; omega
              have j2 : ¬ (q : Int) + 1 = (c4 : Int) := by omega
              have j4 : ¬ c4 = q + 1 := by omega
              go_wp2
              go_region_law (first | (refine step_append_own rfl (.tmp 57) (.tmp 60) 39 rfl w5.heap.size 3 i0 _ 1 8 Tryd.underlying39 hi hz0 hz1 hz2 rfl (by decide) _ 0 [] rfl (OwnZ.empty _) ⟨g4, 0, none⟩ q c4 (((toZ L).take q).map (Value.int .i64)) rfl (by rw [List.length_map, List.length_take, toZ_len]; rw [Nat.min_eq_left (by omega)]; omega) (Zs.cells (Zs.take (HZ5.out.below (by repeat (first | with_reducible exact Below.refl w5.heap.size w5 | with_reducible refine Below.drew ?_ | with_reducible refine bl_alloc ?_ _))) (by omega))) (zs_one _) (by unfold maxLen; omega) (by omega) (by simp) ?_; intro v6 w6 hown6 hgrow6 _; have HO6a := Lib.hid (show OwnZ w6 w5.heap.size v6 ((toZ L).take q) from by unfold OwnZ; rw [List.length_take, toZ_len, Nat.min_eq_left (by omega)]; simpa using hown6); have HB6 := Lib.hid (show Below w5.heap.size w5 w6 from (by repeat (first | with_reducible exact Below.refl w5.heap.size w5 | with_reducible refine Below.drew ?_ | with_reducible refine bl_alloc ?_ _) : Below w5.heap.size w5 _).grown hgrow6 (by simp) (fun q e => Nat.le_of_eq (Option.some.inj e))); have HS6 := HB6.out.size; clear hown6 hgrow6) | (have uu := HO6a; clear uu; refine step_append_own rfl (.tmp 61) (.tmp 65) 39 rfl w5.heap.size 3 i0 _ 1 8 Tryd.underlying39 hi hz0 hz1 hz2 rfl (by decide) v6 ((toZ L).take q).length (((toZ L).take q).map (Value.int .i64)) rfl HO6a.out ⟨g4, q + 1, none⟩ (L.length - (q + 1)) (c4 - (q + 1)) (((toZ L).drop (q + 1)).map (Value.int .i64)) rfl (by rw [List.length_map, List.length_drop, toZ_len]; omega) (Zs.cells (Zs.drop (k := q + 1) (HZ5.out.below HB6.out) (Nat.zero_add _).symm)) (zs_one _) (by unfold maxLen; rw [List.length_take, toZ_len]; omega) (by rw [List.length_take, toZ_len]; omega) HS6 ?_; intro v7 w7 hown7 hgrow7 _; have HB7 := Lib.hid (show Below w5.heap.size w5 w7 from HB6.out.grown hgrow7 HS6 (fun q e => (World.ownsRow.lt HO6a.out q e).1)); have HO7 := Lib.hid (show OwnZ w7 w5.heap.size v7 ((toZ L).take q ++ (toZ L).drop (q + 1)) from by unfold OwnZ; rw [List.length_append, List.length_drop, toZ_len, List.map_append]; exact hown7); clear hown7 hgrow7))
              have HE7 : Hid ((toZ L).take q ++ (toZ L).drop (q + 1) = toZ (L.eraseIdx q)) := (toZ_erase L q).symm
              have HO7' : Hid (OwnZ w7 w5.heap.size v7 (toZ (L.eraseIdx q))) := by show OwnZ _ _ _ _; rw [← HE7.out]; exact HO7.out
              obtain ⟨A7, c7, rfl⟩ : ∃ A7 c7, v7 = .slice A7 (L.eraseIdx q).length c7 := by
                obtain ⟨A7, c7, e⟩ := HO7'.out.form
                rw [toZ_len] at e
                exact ⟨A7, c7, e⟩
              have HO5' := Lib.hid (HO5.out.below HB7.out)
              have HB7' := Lib.hid (bl_trans HB5.out HB7.out)
              have HO7'' := Lib.hid (HO7'.out.less HB5.out.size)
              go_wp2
              refine ⟨?_, ?_⟩
              · repeat apply Exists.intro
                refine ⟨?_, rfl⟩
                exact ⟨L.eraseIdx q, x :: acc, A7, c7, g5, c5, rfl, rfl, by rw [HEL.out]; simp; omega, HI', HA', HO7''.out, HO5'.out, HB7'.out⟩
              · show sliceLen (Value.slice A7 (L.eraseIdx q).length c7) < sliceLen (Value.slice (some ⟨g4, 0, none⟩) L.length c4)
                simp [sliceLen, HEL.out]
                try omega)
end

section
/- What the exact laws do with lists of numbers: compare, copy. -/
open Go.RowKit
set_option linter.unusedVariables false

theorem made_int (n : Nat) : (madeCells (Value.int .i64 0).cells (n * 1)).toList = (List.replicate n (0 : Int)).map (Value.int .i64) := by
  unfold madeCells
  rw [Array.toList_map, Array.toList_range, Nat.mul_one, List.map_replicate]
  refine List.ext_getElem? fun j => ?_
  rw [List.getElem?_map, List.getElem?_replicate]
  by_cases hj : j < n
  · rw [List.getElem?_range hj, if_pos hj]
    show some (#[Value.int .i64 0])[j % 1]! = _
    rw [Nat.mod_one]; rfl
  · rw [if_neg hj, List.getElem?_eq_none (by simpa using hj)]; rfl
theorem zs_put {zs : List Int} {k : Nat} {z : Int} (h : zs[k]? = some z) : (zs.take k ++ List.replicate (zs.length - k) (0 : Int)).set k z = zs.take (k + 1) ++ List.replicate (zs.length - (k + 1)) (0 : Int) := by
  obtain ⟨hk, rfl⟩ := List.getElem?_eq_some_iff.1 h
  rw [List.take_succ_eq_append_getElem hk]
  have e : zs.length - k = (zs.length - (k + 1)) + 1 := by omega
  rw [e, List.replicate_succ, List.set_append_right _ _ (by rw [List.length_take]; omega)]
  have e2 : k - (zs.take k).length = 0 := by rw [List.length_take]; omega
  rw [e2, List.set_cons_zero, List.append_assoc]
  rfl
end

section
/- Contracts of the program's firstOrder and tasksAt. Nothing that was there is written. -/
open Go.RowKit
set_option linter.unusedVariables false

def firstZ (n k : Nat) : List Int := (List.range n).map fun j => if j < k then (j : Int) else 0
theorem firstZ_len (n k : Nat) : (firstZ n k).length = n := by simp [firstZ]
theorem firstZ_zero (n : Nat) : firstZ n 0 = List.replicate n 0 := by
  unfold firstZ
  refine List.ext_getElem? fun j => ?_
  rw [List.getElem?_map, List.getElem?_replicate]
  by_cases hj : j < n
  · rw [List.getElem?_range hj, if_pos hj]; rfl
  · rw [if_neg hj, List.getElem?_eq_none (by simpa using hj)]; rfl
theorem firstZ_all (n : Nat) : firstZ n n = toZ (List.range n) := by
  unfold firstZ toZ
  refine List.map_congr_left fun j hj => ?_
  rw [if_pos (List.mem_range.1 hj)]; rfl
theorem firstZ_set {n k : Nat} (hk : k < n) : (firstZ n k).set k (k : Int) = firstZ n (k + 1) := by
  refine List.ext_getElem? fun j => ?_
  rw [List.getElem?_set, firstZ_len]
  unfold firstZ
  rw [List.getElem?_map, List.getElem?_map]
  by_cases hj : j < n
  · rw [List.getElem?_range hj]
    by_cases hkj : k = j
    · subst hkj; simp [hj]
    · rw [if_neg hkj]
      by_cases h : j < k
      · simp only [Option.map_some]; rw [if_pos h, if_pos (by omega)]
      · simp only [Option.map_some]; rw [if_neg h, if_neg (by omega)]
  · rw [List.getElem?_eq_none (by simpa using hj)]
    by_cases hkj : k = j
    · omega
    · rw [if_neg hkj]; rfl
theorem firstZ_get {n k j : Nat} (hj : j < n) : ∃ z, (firstZ n k)[j]? = some z := ⟨_, List.getElem?_eq_getElem (by rw [firstZ_len]; exact hj)⟩
end

section
/- Contracts of slices.Grow and slices.Concat at lists of numbers, and of the program's without there. Nothing that was there is written. -/
open Go.RowKit
set_option linter.unusedVariables false

theorem own_grown (w : World) (m : Nat) (hm : m ≤ 100) : OwnZ (w.drew.alloc (.cells (Builtin.zeroCells (Value.int .i64 0).cells m ++ Builtin.zeroCells (Value.int .i64 0).cells (grownCap w m 0 3 - m)) 3)) w.heap.size (.slice (some ⟨w.heap.size, 0, none⟩) 0 (grownCap w m 0 3)) [] := by
  have hge := grownCap_ge w m 0 3
  refine ⟨rfl, .inr ⟨w.heap.size, _, _, rfl, Nat.le_refl _, heap_alloc_new w.drew _, Nat.zero_le _, grownCap_le_maxLen w m 0 3 (by unfold maxLen; omega), ?_, by simp⟩⟩
  rw [Array.size_append, size_zeroCells, size_zeroCells]
  show m * 1 + (grownCap w m 0 3 - m) * 1 = grownCap w m 0 3 * 1
  omega

def catZ {α : Type} (xs ys : List α) : Nat → List α
  | 0 => []
  | 1 => xs
  | _ => xs ++ ys
theorem upto_two {k : Nat} (h : k ≤ 2) : k = 0 ∨ k = 1 ∨ k = 2 := by omega

theorem erase_two {α : Type} (zs : List α) (k : Nat) : zs.take k ++ zs.drop (k + 1) = zs.eraseIdx k := by rw [List.eraseIdx_eq_take_drop_succ]
theorem two_c0 (w : World) (u v : Value) (t : TypeId) : ((w.alloc (.cells #[u, v] t)).drew).cell? ⟨w.heap.size, 0, none⟩ = some u := by
  show (w.alloc (.cells #[u, v] t)).cell? ⟨w.heap.size, 0, none⟩ = _
  rw [cell_of_row _ w.heap.size 0 _ _ _ (heap_alloc_new w _)]; rfl
theorem two_c1 (w : World) (u v : Value) (t : TypeId) : ((w.alloc (.cells #[u, v] t)).drew).cell? ⟨w.heap.size, 1, none⟩ = some v := by
  show (w.alloc (.cells #[u, v] t)).cell? ⟨w.heap.size, 1, none⟩ = _
  rw [cell_of_row _ w.heap.size 1 _ _ _ (heap_alloc_new w _)]; rfl
theorem two_b (w : World) (u v : Value) (t : TypeId) : Below w.heap.size w ((w.alloc (.cells #[u, v] t)).drew) := Below.drew (bl_alloc (Below.refl _ _) _)
theorem two_s (w : World) (u v : Value) (t : TypeId) : w.heap.size < ((w.alloc (.cells #[u, v] t)).drew).heap.size := by show _ < (w.alloc _).heap.size; simp
end

section
/- Contracts of slices.Grow and slices.Concat at lists of tasks, and of the program's without there. Nothing that was there is written. -/
open Go.RowKit
set_option linter.unusedVariables false

theorem own_grownT (w : World) (m : Nat) (hm : m ≤ 100) : Own (w.drew.alloc (.cells (Builtin.zeroCells (Value.agg #[.int .i64 0, .int .i64 0, .int .i64 0, .int .i64 0, .bool false]).cells m ++ Builtin.zeroCells (Value.agg #[.int .i64 0, .int .i64 0, .int .i64 0, .int .i64 0, .bool false]).cells (grownCap w m 0 29 - m)) 29)) w.heap.size (.slice (some ⟨w.heap.size, 0, none⟩) 0 (grownCap w m 0 29)) [] := by
  have hge := grownCap_ge w m 0 29
  refine ⟨rfl, .inr ⟨w.heap.size, _, _, rfl, Nat.le_refl _, heap_alloc_new w.drew _, Nat.zero_le _, grownCap_le_maxLen w m 0 29 (by unfold maxLen; omega), ?_, by simp⟩⟩
  rw [Array.size_append, size_zeroCells, size_zeroCells]
  show m * 5 + (grownCap w m 0 29 - m) * 5 = grownCap w m 0 29 * 5
  omega
end

section
/- All orders of tasks, one after another (no program text). -/
open Go.RowKit
set_option linter.unusedVariables false

/-- All lists of numbers below n that begin with b, each number once: m numbers more. -/
def allP (n : Nat) : Nat → List Nat → List (List Nat)
  | 0, b => [b]
  | m + 1, b => (List.range n).flatMap fun i => if b.contains i then [] else allP n m (b ++ [i])
def allOf (n : Nat) : List (List Nat) := allP n n []
def anyOf (ts : List Tk) : Option (List Nat) := if setB ts then (allOf ts.length).find? fun o => hBoth (putN ts o) else none
def cntOf (ts : List Tk) : Nat := if setB ts then ((allOf ts.length).filter fun o => hBoth (putN ts o)).length else 0

theorem nodup_range (n : Nat) : (List.range n).Nodup := List.nodup_range
theorem mem_all {n : Nat} : ∀ {m : Nat} {b c : List Nat}, c.length = m → (b ++ c).Perm (List.range n) → b ++ c ∈ allP n m b
  | 0, b, c, hc, h => by
    obtain rfl : c = [] := List.eq_nil_of_length_eq_zero hc
    simp [allP]
  | m + 1, b, c, hc, h => by
    cases c with
    | nil => cases hc
    | cons i c =>
      have hi : i < n := List.mem_range.1 (h.mem_iff.1 (by simp))
      have hnd : (b ++ i :: c).Nodup := h.nodup_iff.2 (nodup_range n)
      have hib : b.contains i = false := by
        rw [List.nodup_append] at hnd
        cases hcb : b.contains i
        · rfl
        · exact absurd rfl (hnd.2.2 i (by simpa using hcb) i (by simp))
      unfold allP
      rw [List.mem_flatMap]
      refine ⟨i, List.mem_range.2 hi, ?_⟩
      rw [hib]
      have hbc : b ++ i :: c = (b ++ [i]) ++ c := by simp
      have := mem_all (n := n) (m := m) (b := b ++ [i]) (c := c) (by simpa using hc) (by rw [← hbc]; exact h)
      rw [hbc]
      simpa using this
theorem mem_allOf {n : Nat} {o : List Nat} (h : o.Perm (List.range n)) : o ∈ allOf n := by
  have := mem_all (n := n) (m := n) (b := []) (c := o) (by have := h.length_eq; simpa using this) (by simpa using h)
  rw [List.nil_append] at this
  exact this
set_option maxRecDepth 100000 in
theorem all_perm : ∀ {n : Nat}, n ≤ 5 → ∀ {o : List Nat}, o ∈ allOf n → o.Perm (List.range n) := by
  have h : ∀ n, n < 6 → (allOf n).all (fun o => o.isPerm (List.range n)) = true := by decide +kernel
  intro n hn o ho
  exact List.isPerm_iff.1 (List.all_eq_true.1 (h n (by omega)) o ho)
set_option maxRecDepth 100000 in
theorem all_head : ∀ {n : Nat}, n ≤ 5 → ∃ rest, allOf n = List.range n :: rest := by
  have h : ∀ n, n < 6 → (allOf n).head? = some (List.range n) := by decide +kernel
  intro n hn
  have := h n (by omega)
  cases hc : allOf n with
  | nil => rw [hc] at this; cases this
  | cons a r =>
    rw [hc] at this
    exact ⟨r, by rw [Option.some.inj this]⟩
set_option maxRecDepth 100000 in
theorem all_count : ∀ {n : Nat}, n ≤ 5 → (allOf n).length = [1, 1, 2, 6, 24, 120].getD n 0 := by
  have h : ∀ n, n < 6 → (allOf n).length = [1, 1, 2, 6, 24, 120].getD n 0 := by decide +kernel
  intro n hn
  exact h n (by omega)
/-- Which of two lists comes first, by the first number that differs. -/
def lexB : List Nat → List Nat → Bool
  | a :: x, b :: y => decide (a < b) || (a == b && lexB x y)
  | _, _ => false
def sortedB : List (List Nat) → Bool
  | a :: r => r.all (lexB a) && sortedB r
  | [] => true
theorem lexB_asym : ∀ {x y : List Nat}, lexB x y = true → lexB y x = false
  | [], [], _ => rfl
  | [], b :: y, h => by simp [lexB] at h
  | a :: x, [], h => by simp [lexB] at h
  | a :: x, b :: y, h => by
    simp only [lexB, Bool.or_eq_true, decide_eq_true_iff, Bool.and_eq_true, beq_iff_eq] at h
    simp only [lexB, Bool.or_eq_false_iff, decide_eq_false_iff_not, Bool.and_eq_false_iff, beq_eq_false_iff_ne]
    rcases h with h | ⟨rfl, h⟩
    · exact ⟨by omega, .inl (by omega)⟩
    · exact ⟨by omega, .inr (lexB_asym h)⟩
theorem sorted_find {p : List Nat → Bool} : ∀ {l : List (List Nat)} {o o' : List Nat}, sortedB l = true → l.find? p = some o → o' ∈ l → lexB o' o = true → p o' = false
  | [], o, o', _, h, _, _ => by cases h
  | a :: r, o, o', hs, h, hm, hx => by
    simp only [sortedB, Bool.and_eq_true] at hs
    rw [List.find?_cons] at h
    cases hp : p a
    · rw [hp] at h
      rcases List.mem_cons.1 hm with rfl | hm
      · exact hp
      · exact sorted_find hs.2 h hm hx
    · rw [hp] at h
      have he : a = o := Option.some.inj h
      subst he
      rcases List.mem_cons.1 hm with rfl | hm
      · rw [lexB_asym hx] at hx; cases hx
      · have := List.all_eq_true.1 hs.1 o' hm
        rw [lexB_asym this] at hx; cases hx
set_option maxRecDepth 100000 in
theorem all_sorted : ∀ {n : Nat}, n ≤ 5 → sortedB (allOf n) = true := by
  have h : ∀ n, n < 6 → sortedB (allOf n) = true := by decide +kernel
  intro n hn
  exact h n (by omega)
def turnO (n : Nat) (o : List Nat) : List Nat := o.map fun i => n - 1 - i
set_option maxRecDepth 100000 in
theorem all_turn : ∀ {n : Nat}, n ≤ 5 → ((allOf n).map (turnO n)).Perm (allOf n) := by
  have h : ∀ n, n < 6 → ((allOf n).map (turnO n)).isPerm (allOf n) = true := by decide +kernel
  intro n hn
  exact List.isPerm_iff.1 (h n (by omega))

/-- The first order that holds. -/
theorem any_some {ts : List Tk} {o : List Nat} (h : anyOf ts = some o) : setB ts = true ∧ o.Perm (List.range ts.length) ∧ hBoth (putN ts o) = true := by
  unfold anyOf at h
  cases hs : setB ts
  · rw [hs] at h; cases h
  · rw [if_pos hs] at h
    exact ⟨rfl, all_perm (setB_len hs) (List.mem_of_find?_eq_some h), List.find?_some (p := fun o => hBoth (putN ts o)) h⟩
theorem any_iff {ts : List Tk} (hs : setB ts = true) : (anyOf ts).isSome = true ↔ Can ts := by
  rw [can_order]
  unfold anyOf
  rw [if_pos hs, List.find?_isSome]
  constructor
  · rintro ⟨o, ho, hp⟩
    exact ⟨o, all_perm (setB_len hs) ho, (hBoth_holds.1 hp).2⟩
  · rintro ⟨p, h1, h2⟩
    exact ⟨p, mem_allOf h1, hBoth_holds.2 ⟨by rw [set_perm (put_all h1)]; exact hs, h2⟩⟩
theorem any_bad {ts : List Tk} (hs : setB ts = false) : anyOf ts = none := by unfold anyOf; rw [hs]; rfl
theorem cnt_bad {ts : List Tk} (hs : setB ts = false) : cntOf ts = 0 := by unfold cntOf; rw [hs]; rfl
theorem assign_bad {ts : List Tk} (hs : setB ts = false) : assignOf ts = none := by unfold assignOf; rw [hs]; rfl
theorem assign_any (ts : List Tk) : (assignOf ts).isSome = (anyOf ts).isSome := by
  cases hs : setB ts
  · rw [assign_bad hs, any_bad hs]
  · rw [Bool.eq_iff_iff, assign_iff hs, any_iff hs]
theorem any_self {ts : List Tk} (h : hBoth ts = true) : anyOf ts = some (List.range ts.length) := by
  have hs := (hBoth_iff.1 h).1
  obtain ⟨r, hr⟩ := all_head (setB_len hs)
  unfold anyOf
  rw [if_pos hs, hr, List.find?_cons, put_range, h]
theorem any_first {ts : List Tk} {o o' : List Nat} (h : anyOf ts = some o) (hp : o'.Perm (List.range ts.length)) (hx : lexB o' o = true) : hBoth (putN ts o') = false := by
  have hs := (any_some h).1
  unfold anyOf at h
  rw [if_pos hs] at h
  exact sorted_find (all_sorted (setB_len hs)) h (mem_allOf hp) hx
theorem cnt_any (ts : List Tk) : decide (0 < cntOf ts) = (anyOf ts).isSome := by
  cases hs : setB ts
  · rw [cnt_bad hs, any_bad hs]; rfl
  · unfold cntOf anyOf
    rw [if_pos hs, if_pos hs, Bool.eq_iff_iff, decide_eq_true_iff, List.find?_isSome, List.length_pos_iff_exists_mem]
    constructor
    · rintro ⟨o, ho⟩
      rw [List.mem_filter] at ho
      exact ⟨o, ho.1, ho.2⟩
    · rintro ⟨o, h1, h2⟩
      exact ⟨o, List.mem_filter.2 ⟨h1, h2⟩⟩
theorem cnt_most {ts : List Tk} : cntOf ts ≤ [1, 1, 2, 6, 24, 120].getD ts.length 0 ∨ setB ts = false := by
  cases hs : setB ts
  · exact .inr rfl
  · refine .inl ?_
    unfold cntOf
    rw [if_pos hs, ← all_count (setB_len hs)]
    exact List.length_filter_le _ _
theorem put_turn {ts : List Tk} {o : List Nat} (h : ∀ i ∈ o, i < ts.length) : putN ts.reverse o = putN ts (turnO ts.length o) := by
  unfold putN turnO
  rw [List.map_map]
  refine List.map_congr_left fun i hi => ?_
  have := h i hi
  simp only [Function.comp, List.getD_eq_getElem?_getD]
  rw [List.getElem?_reverse this]
theorem cnt_turn (ts : List Tk) : cntOf ts.reverse = cntOf ts := by
  unfold cntOf
  rw [set_perm (List.reverse_perm ts), List.length_reverse]
  cases hs : setB ts
  · rfl
  · rw [if_pos rfl, if_pos rfl]
    have hl := setB_len hs
    have h1 : (allOf ts.length).filter (fun o => hBoth (putN ts.reverse o)) = (allOf ts.length).filter (fun o => hBoth (putN ts (turnO ts.length o))) := by
      refine List.filter_congr fun o ho => ?_
      rw [put_turn fun i hi => List.mem_range.1 ((all_perm hl ho).mem_iff.1 hi)]
    rw [h1]
    have h2 : ((allOf ts.length).filter (fun o => hBoth (putN ts (turnO ts.length o)))).length = (((allOf ts.length).map (turnO ts.length)).filter fun o => hBoth (putN ts o)).length := by
      rw [List.filter_map, List.length_map]; rfl
    rw [h2]
    exact ((all_turn hl).filter _).length_eq
end

section
/- Contract of the program's CanBeLast. Nothing that was there is written. -/
open Go.RowKit
set_option linter.unusedVariables false
end

section
/- Contracts of the program's lastThatCanBeLast and AssignOrder. Nothing that was there is written. -/
open Go.RowKit
set_option linter.unusedVariables false

def lastO (us : List Tk) : Option Nat := (List.range us.length).reverse.find? fun i => canL us i
theorem last_pick (ts : List Tk) (L : List Nat) : lastO (putN ts L) = pickL ts L := by unfold lastO pickL; rw [put_len]
theorem last_none {us : List Tk} {n : Nat} (hl : us.length = n) (h : ∀ j, 0 ≤ j → j < n → canL us j = false) : lastO us = none := by
  unfold lastO
  rw [List.find?_eq_none]
  intro j hj
  rw [h j (Nat.zero_le _) (by rw [← hl]; simpa using hj)]
  decide
theorem last_some {us : List Tk} {n j : Nat} (hl : us.length = n) (hj : j < n) (hc : canL us j = true) (h : ∀ i, j + 1 ≤ i → i < n → canL us i = false) : lastO us = some j := by
  subst hl
  exact find_rev.2 ⟨hj, hc, fun i h1 h2 => h i h1 h2⟩
def LastRes (p : Option Nat) (w : World) (e : Ending) (w' : World) : Prop := e = .returned (.tuple #[.int .i64 ((p.getD 0 : Nat) : Int), .bool p.isSome]) ∧ Below w.heap.size w w'

theorem ord_put {l x : Nat} {acc : List Nat} : (List.replicate (l + 1) (0 : Int) ++ toZ acc).set l (x : Int) = List.replicate l 0 ++ toZ (x :: acc) := by
  rw [List.replicate_succ', List.append_assoc, List.set_append_right _ _ (by simp)]
  simp [toZ]
theorem asg_end {ts : List Tk} {acc : List Nat} {r : Option (List Nat)} (h : asg ts ([] : List Nat).length [] acc = r) : r = some acc := h.symm
end

end Go.Proofs.YtgfnlfjaekkdfaaDoor
