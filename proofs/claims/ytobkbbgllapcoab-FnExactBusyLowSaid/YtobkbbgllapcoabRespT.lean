/- Responses of tasks as plain data: demands of lists of tasks, the least windows, what holds (no program text). -/
import Derived.Test.YtobkbbgllapcoabResp
import Derived.Test.YtobkbbgllapcoabOwn
import Derived.Test.YtobkbbgllapcoabCrit
namespace Go.Proofs.Ytobkbbgllapcoab
set_option linter.unusedVariables false

def dmd (t : Tk) (w : Nat) (h : Bool) : Nat := demN (if h then t.hi.toNat else t.lo.toNat) t.ev.toNat w
def dLow (ts : List Tk) (w : Nat) : Nat := (ts.map fun t => dmd t w false).sum
/-- What a task needs around a switch that comes within the window l. -/
def dmS (l w : Nat) (t : Tk) : Nat := if t.cr then dmd t w true else dmd t l false
def dSwi (ts : List Tk) (l w : Nat) : Nat := (ts.map (dmS l w)).sum

theorem ok_parts {t : Tk} (h : t.ok = true) : 1 ≤ t.lo ∧ t.lo ≤ t.hi ∧ t.hi ≤ t.du ∧ t.du ≤ t.ev ∧ t.ev ≤ 20 ∧ (t.cr = false → t.lo = t.hi) := by
  unfold Tk.ok validB at h
  simp only [Bool.and_eq_true, decide_eq_true_iff, Bool.or_eq_true, beq_iff_eq] at h
  refine ⟨h.1, h.2.1, h.2.2.1, h.2.2.2.1, h.2.2.2.2.1, fun hc => ?_⟩
  rcases h.2.2.2.2.2 with h | h
  · rw [h] at hc; cases hc
  · exact h
theorem set_ok {ts : List Tk} (h : setB ts = true) {t : Tk} (ht : t ∈ ts) : t.ok = true := by
  unfold setB at h
  rw [Bool.and_eq_true] at h
  exact List.all_eq_true.1 h.2 t ht
theorem get_mem {ts : List Tk} {k : Nat} {t : Tk} (h : ts[k]? = some t) : t ∈ ts := List.mem_of_getElem? h
theorem set_of {ts : List Tk} (hl : ts.length ≤ 5) (h : ∀ t ∈ ts, t.ok = true) : setB ts = true := by
  unfold setB
  rw [Bool.and_eq_true, decide_eq_true_iff]
  exact ⟨hl, List.all_eq_true.2 h⟩
theorem set_sub {xs ys : List Tk} (h : setB ys = true) (hs : xs.Sublist ys) : setB xs = true :=
  set_of (Nat.le_trans hs.length_le (setB_len h)) fun t ht => set_ok h (hs.subset ht)
theorem set_take {ts : List Tk} (h : setB ts = true) (k : Nat) : setB (ts.take k) = true := set_sub h (List.take_sublist k ts)
theorem set_drop {ts : List Tk} (h : setB ts = true) (k : Nat) : setB (ts.drop k) = true := set_sub h (List.drop_sublist k ts)

theorem dmd_mono (t : Tk) (h : Bool) {v w : Nat} (hv : v ≤ w) : dmd t v h ≤ dmd t w h := dem_mono _ _ hv
theorem dmd_bound {t : Tk} (ht : t.ok = true) (w : Nat) (h : Bool) : dmd t w h ≤ 20 * (w + 20) := by
  obtain ⟨h1, h2, h3, h4, h5, _⟩ := ok_parts ht
  unfold dmd demN
  have a : (w + t.ev.toNat - 1) / t.ev.toNat ≤ w + 20 := Nat.le_trans (Nat.div_le_self _ _) (by omega)
  have b : (if h then t.hi.toNat else t.lo.toNat) ≤ 20 := by split <;> omega
  calc _ ≤ (w + 20) * 20 := Nat.mul_le_mul a b
    _ = 20 * (w + 20) := Nat.mul_comm _ _
theorem dmd_low {t : Tk} (ht : t.ok = true) (w : Nat) (h : Bool) : dmd t w false ≤ dmd t w h := by
  obtain ⟨h1, h2, _⟩ := ok_parts ht
  refine dem_need _ _ ?_
  cases h
  · exact Nat.le_refl _
  · show t.lo.toNat ≤ t.hi.toNat
    omega
theorem take_snoc {ts : List Tk} {k : Nat} {t : Tk} (h : ts[k]? = some t) : ts.take (k + 1) = ts.take k ++ [t] := by
  rw [List.take_add_one, h]; rfl
theorem sum_snoc (f : Tk → Nat) {ts : List Tk} {k : Nat} {t : Tk} (h : ts[k]? = some t) : ((ts.take (k + 1)).map f).sum = ((ts.take k).map f).sum + f t := by
  rw [take_snoc h]; simp
theorem dLow_take {ts : List Tk} {k : Nat} {t : Tk} (h : ts[k]? = some t) (w : Nat) : dLow (ts.take (k + 1)) w = dLow (ts.take k) w + dmd t w false := sum_snoc _ h
theorem dSwi_take {ts : List Tk} {k : Nat} {t : Tk} (h : ts[k]? = some t) (l w : Nat) : dSwi (ts.take (k + 1)) l w = dSwi (ts.take k) l w + dmS l w t := sum_snoc _ h
theorem sum_le {f g : Tk → Nat} : ∀ {ts : List Tk}, (∀ t ∈ ts, f t ≤ g t) → (ts.map f).sum ≤ (ts.map g).sum
  | [], _ => Nat.le_refl _
  | t :: ts, h => by
    simp only [List.map_cons, List.sum_cons]
    have h1 := h t (by simp)
    have h2 := sum_le (ts := ts) fun x hx => h x (by simp [hx])
    omega
theorem sum_sub (f : Tk → Nat) {xs ys : List Tk} (h : xs.Sublist ys) : (xs.map f).sum ≤ (ys.map f).sum := by
  induction h with
  | slnil => exact Nat.le_refl _
  | cons a _ ih => simp only [List.map_cons, List.sum_cons]; omega
  | cons_cons a _ ih => simp only [List.map_cons, List.sum_cons]; omega
theorem tsum_bound {f : Tk → Nat} {b : Nat} : ∀ {ts : List Tk}, (∀ t ∈ ts, f t ≤ b) → (ts.map f).sum ≤ ts.length * b
  | [], _ => by simp
  | t :: ts, h => by
    simp only [List.map_cons, List.sum_cons, List.length_cons]
    have h1 := h t (by simp)
    have h2 := tsum_bound (ts := ts) fun x hx => h x (by simp [hx])
    rw [Nat.succ_mul]
    omega
theorem dLow_mono (ts : List Tk) {v w : Nat} (h : v ≤ w) : dLow ts v ≤ dLow ts w := sum_le fun t _ => dmd_mono t false h
theorem dSwi_mono (ts : List Tk) (l : Nat) {v w : Nat} (h : v ≤ w) : dSwi ts l v ≤ dSwi ts l w := sum_le fun t _ => by
  unfold dmS; split
  · exact dmd_mono t true h
  · exact Nat.le_refl _
theorem dLow_bound {ts : List Tk} (h : setB ts = true) (w : Nat) : dLow ts w ≤ 100 * (w + 20) := by
  have h1 := tsum_bound (f := fun t => dmd t w false) fun t ht => dmd_bound (set_ok h ht) w false
  have h2 := setB_len h
  have h3 : ts.length * (20 * (w + 20)) ≤ 5 * (20 * (w + 20)) := Nat.mul_le_mul_right _ h2
  unfold dLow
  omega
theorem dmS_bound {t : Tk} (ht : t.ok = true) (l w : Nat) : dmS l w t ≤ 20 * (l + w + 20) := by
  unfold dmS; split
  · have := dmd_bound ht w true; omega
  · have := dmd_bound ht l false; omega
theorem dSwi_bound {ts : List Tk} (h : setB ts = true) (l w : Nat) : dSwi ts l w ≤ 100 * (l + w + 20) := by
  have h1 := tsum_bound (f := dmS l w) fun t ht => dmS_bound (set_ok h ht) l w
  have h2 := setB_len h
  have h3 : ts.length * (20 * (l + w + 20)) ≤ 5 * (20 * (l + w + 20)) := Nat.mul_le_mul_right _ h2
  unfold dSwi
  omega

/-- The longest response of a task that needs n, is due in d, and comes behind xs. -/
def respOf (xs : List Tk) (n d : Nat) : Option Nat := leastN (fun w => n + dLow xs w) n d
def swiOf (xs : List Tk) (l n d : Nat) : Option Nat := leastN (fun w => n + dSwi xs l w) n d
def rLow (ts : List Tk) (k : Nat) : Option Nat :=
  if setB ts then match ts[k]? with
    | some t => respOf (ts.take k) t.lo.toNat t.du.toNat
    | none => none
  else none
def rSwi (ts : List Tk) (k : Nat) : Option Nat :=
  match rLow ts k, ts[k]? with
  | some l, some t => if t.cr then swiOf (ts.take k) l t.hi.toNat t.du.toNat else none
  | _, _ => none
def rHigh (ts : List Tk) (k : Nat) : Option Nat :=
  match ts[k]? with
  | some t => if setB ts && t.cr then rLow (critL ts) (critL (ts.take k)).length else none
  | none => none
def bothAt (ts : List Tk) (k : Nat) : Bool :=
  match ts[k]? with
  | some t => if t.cr then (rSwi ts k).isSome else (rLow ts k).isSome
  | none => false
def hLow (ts : List Tk) : Bool := setB ts && (List.range ts.length).all fun k => (rLow ts k).isSome
def hBoth (ts : List Tk) : Bool := setB ts && (List.range ts.length).all (bothAt ts)
def fBad (ts : List Tk) : Option Nat := if setB ts then (List.range ts.length).find? fun k => !bothAt ts k else none
def bLow (ts : List Tk) : Option Nat := if setB ts && !ts.isEmpty then leastN (dLow ts) 1 (ts.foldl (fun m t => Nat.lcm m t.ev.toNat) 1) else none

theorem resp_mono (xs : List Tk) (n : Nat) : ∀ v w, v ≤ w → n + dLow xs v ≤ n + dLow xs w := fun v w h => Nat.add_le_add_left (dLow_mono xs h) n
theorem swi_mono (xs : List Tk) (l n : Nat) : ∀ v w, v ≤ w → n + dSwi xs l v ≤ n + dSwi xs l w := fun v w h => Nat.add_le_add_left (dSwi_mono xs l h) n
theorem rLow_bad {ts : List Tk} (k : Nat) (h : setB ts = false) : rLow ts k = none := by unfold rLow; rw [h]; rfl
theorem rLow_past {ts : List Tk} {k : Nat} (h : ts[k]? = none) : rLow ts k = none := by unfold rLow; rw [h]; split <;> rfl
theorem rLow_at {ts : List Tk} {k : Nat} {t : Tk} (hs : setB ts = true) (h : ts[k]? = some t) : rLow ts k = respOf (ts.take k) t.lo.toNat t.du.toNat := by
  unfold rLow; rw [hs, h]; rfl
theorem rSwi_none {ts : List Tk} {k : Nat} (h : rLow ts k = none) : rSwi ts k = none := by unfold rSwi; rw [h]
theorem rSwi_not {ts : List Tk} {k : Nat} {t : Tk} (h : ts[k]? = some t) (hc : t.cr = false) : rSwi ts k = none := by
  unfold rSwi; rw [h]; cases rLow ts k
  · rfl
  · simp [hc]
theorem rSwi_at {ts : List Tk} {k l : Nat} {t : Tk} (hl : rLow ts k = some l) (h : ts[k]? = some t) (hc : t.cr = true) : rSwi ts k = swiOf (ts.take k) l t.hi.toNat t.du.toNat := by
  unfold rSwi; rw [hl, h]; simp [hc]
theorem rHigh_past {ts : List Tk} {k : Nat} (h : ts[k]? = none) : rHigh ts k = none := by unfold rHigh; rw [h]
theorem rHigh_bad {ts : List Tk} (k : Nat) (h : setB ts = false) : rHigh ts k = none := by unfold rHigh; rw [h]; split <;> rfl
theorem rHigh_not {ts : List Tk} {k : Nat} {t : Tk} (h : ts[k]? = some t) (hc : t.cr = false) : rHigh ts k = none := by unfold rHigh; rw [h]; simp [hc]
theorem rHigh_at {ts : List Tk} {k : Nat} {t : Tk} (hs : setB ts = true) (h : ts[k]? = some t) (hc : t.cr = true) : rHigh ts k = rLow (critL ts) (critL (ts.take k)).length := by
  unfold rHigh; rw [h]; simp [hc, hs]
theorem both_cr {ts : List Tk} {k : Nat} {t : Tk} (h : ts[k]? = some t) (hc : t.cr = true) : bothAt ts k = (rSwi ts k).isSome := by unfold bothAt; rw [h]; simp [hc]
theorem both_no {ts : List Tk} {k : Nat} {t : Tk} (h : ts[k]? = some t) (hc : t.cr = false) : bothAt ts k = (rLow ts k).isSome := by unfold bothAt; rw [h]; simp [hc]
/-- Both modes hold for a task: low needs do. -/
theorem both_low {ts : List Tk} {k : Nat} (h : bothAt ts k = true) : (rLow ts k).isSome = true := by
  unfold bothAt at h
  cases ht : ts[k]? with
  | none => rw [ht] at h; cases h
  | some t =>
    rw [ht] at h
    simp only at h
    cases hl : rLow ts k with
    | some l => rfl
    | none =>
      rw [rSwi_none hl, hl] at h
      split at h <;> cases h
theorem some_of {o : Option Nat} (h : o.isSome = true) : ∃ n, o = some n := Option.isSome_iff_exists.1 h

theorem all_range {p : Nat → Bool} {n : Nat} : (List.range n).all p = true ↔ ∀ k, k < n → p k = true := by
  rw [List.all_eq_true]
  exact ⟨fun h k hk => h k (List.mem_range.2 hk), fun h k hk => h k (List.mem_range.1 hk)⟩
theorem fBad_some {ts : List Tk} {k : Nat} (hs : setB ts = true) (hk : k < ts.length) (hb : bothAt ts k = false) (ha : ∀ j, j < k → bothAt ts j = true) : fBad ts = some k := by
  unfold fBad
  rw [if_pos hs, find_range]
  exact ⟨hk, by rw [hb]; rfl, fun v hv => by rw [ha v hv]; rfl⟩
theorem fBad_none {ts : List Tk} (hs : setB ts = true) (ha : ∀ j, j < ts.length → bothAt ts j = true) : fBad ts = none := by
  unfold fBad
  rw [if_pos hs, List.find?_eq_none]
  intro k hk
  rw [ha k (List.mem_range.1 hk)]
  simp
theorem fBad_bad {ts : List Tk} (hs : setB ts = false) : fBad ts = none := by unfold fBad; rw [hs]; rfl
theorem hBoth_bad {ts : List Tk} (hs : setB ts = false) : hBoth ts = false := by unfold hBoth; rw [hs]; rfl
theorem hLow_bad {ts : List Tk} (hs : setB ts = false) : hLow ts = false := by unfold hLow; rw [hs]; rfl
theorem hBoth_iff {ts : List Tk} : hBoth ts = true ↔ setB ts = true ∧ ∀ k, k < ts.length → bothAt ts k = true := by
  unfold hBoth; rw [Bool.and_eq_true, all_range]
theorem hLow_iff {ts : List Tk} : hLow ts = true ↔ setB ts = true ∧ ∀ k, k < ts.length → (rLow ts k).isSome = true := by
  unfold hLow; rw [Bool.and_eq_true, all_range]
theorem hBoth_no {ts : List Tk} {k : Nat} (hk : k < ts.length) (hb : bothAt ts k = false) : hBoth ts = false := by
  cases h : hBoth ts
  · rfl
  · have := (hBoth_iff.1 h).2 k hk
    rw [hb] at this; cases this
theorem hLow_no {ts : List Tk} {k : Nat} (hk : k < ts.length) (hb : rLow ts k = none) : hLow ts = false := by
  cases h : hLow ts
  · rfl
  · have := (hLow_iff.1 h).2 k hk
    rw [hb] at this; cases this
theorem hBoth_fBad {ts : List Tk} (hs : setB ts = true) : hBoth ts = (fBad ts).isNone := by
  cases h : fBad ts with
  | none =>
    refine hBoth_iff.2 ⟨hs, fun k hk => ?_⟩
    unfold fBad at h
    rw [if_pos hs, List.find?_eq_none] at h
    have := h k (List.mem_range.2 hk)
    cases hb : bothAt ts k
    · rw [hb] at this; exact absurd rfl this
    · rfl
  | some k =>
    unfold fBad at h
    rw [if_pos hs, find_range] at h
    obtain ⟨h1, h2, _⟩ := h
    refine hBoth_no h1 ?_
    cases hb : bothAt ts k
    · rfl
    · rw [hb] at h2; cases h2
theorem fBad_at {ts : List Tk} {k : Nat} (h : fBad ts = some k) : setB ts = true ∧ k < ts.length ∧ bothAt ts k = false ∧ ∀ j, j < k → bothAt ts j = true := by
  unfold fBad at h
  cases hs : setB ts with
  | false => rw [hs] at h; cases h
  | true =>
    rw [if_pos hs, find_range] at h
    obtain ⟨h1, h2, h3⟩ := h
    refine ⟨rfl, h1, ?_, fun j hj => ?_⟩
    · cases hb : bothAt ts k
      · rfl
      · rw [hb] at h2; cases h2
    · have := h3 j hj
      cases hb : bothAt ts j
      · rw [hb] at this; cases this
      · rfl

end Go.Proofs.Ytobkbbgllapcoab
