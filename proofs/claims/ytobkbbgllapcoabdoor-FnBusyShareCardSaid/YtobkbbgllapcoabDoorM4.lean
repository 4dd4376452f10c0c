/- Texts of this seat in one file: RespT, Dem, Least, Two0, RLow, SRLow, RespU, RHigh, LwK, Hold, Busy, RespM, RespB, RespS, RespV. -/
import Derived.Test.YtobkbbgllapcoabDoorM1
import Derived.RegionTactic
import Derived.ScopeJumps
import Derived.WalkMore
import Derived.Shelf.Abstract
import Derived.Deep.RegionHeld3
import Derived.Test.YtobkbbgllapcoabDoorM2
namespace Go.Proofs.YtobkbbgllapcoabDoor

section
/- Responses of tasks as plain data: demands of lists of tasks, the least windows, what holds (no program text). -/
set_option linter.unusedVariables false

def dmd (t : Tk) (w : Nat) (h : Bool) : Nat := demN (if h then t.hi.toNat else t.lo.toNat) t.ev.toNat w
def dLow (ts : List Tk) (w : Nat) : Nat := (ts.map fun t => dmd t w false).sum
/-- What a task needs around a switch that comes within the window l. -/
def dmS (l w : Nat) (t : Tk) : Nat := if t.cr then dmd t w true else dmd t l false
def dSwi (ts : List Tk) (l w : Nat) : Nat := (ts.map (dmS l w)).sum

theorem ok_parts {t : Tk} (h : t.ok = true) : 1 ≤ t.lo ∧ t.lo ≤ t.hi ∧ t.hi ≤ t.du ∧ t.du ≤ t.ev ∧ t.ev ≤ 20 ∧ (t.cr = false → t.lo = t.hi) := by
  unfold Tk.ok validB at h
  simp only [Bool.and_eq_true, decide_eq_true_iff, Bool.or_eq_true, beq_iff_eq] at h
  refine ⟨h.1, h.2.1, h.2.2.1, h.2.2.2.1, h.2.2.2.2.1, fun hc => ?_⟩
  rcases h.2.2.2.2.2 with h | h
  · rw [h] at hc; cases hc
  · exact h
theorem set_ok {ts : List Tk} (h : setB ts = true) {t : Tk} (ht : t ∈ ts) : t.ok = true := by
  unfold setB at h
  rw [Bool.and_eq_true] at h
  exact List.all_eq_true.1 h.2 t ht
theorem get_mem {ts : List Tk} {k : Nat} {t : Tk} (h : ts[k]? = some t) : t ∈ ts := List.mem_of_getElem? h
theorem set_of {ts : List Tk} (hl : ts.length ≤ 5) (h : ∀ t ∈ ts, t.ok = true) : setB ts = true := by
  unfold setB
  rw [Bool.and_eq_true, decide_eq_true_iff]
  exact ⟨hl, List.all_eq_true.2 h⟩
theorem set_sub {xs ys : List Tk} (h : setB ys = true) (hs : xs.Sublist ys) : setB xs = true :=
  set_of (Nat.le_trans hs.length_le (setB_len h)) fun t ht => set_ok h (hs.subset ht)
theorem set_take {ts : List Tk} (h : setB ts = true) (k : Nat) : setB (ts.take k) = true := set_sub h (List.take_sublist k ts)
theorem set_drop {ts : List Tk} (h : setB ts = true) (k : Nat) : setB (ts.drop k) = true := set_sub h (List.drop_sublist k ts)

theorem dmd_mono (t : Tk) (h : Bool) {v w : Nat} (hv : v ≤ w) : dmd t v h ≤ dmd t w h := dem_mono _ _ hv
theorem dmd_bound {t : Tk} (ht : t.ok = true) (w : Nat) (h : Bool) : dmd t w h ≤ 20 * (w + 20) := by
  obtain ⟨h1, h2, h3, h4, h5, _⟩ := ok_parts ht
  unfold dmd demN
  have a : (w + t.ev.toNat - 1) / t.ev.toNat ≤ w + 20 := Nat.le_trans (Nat.div_le_self _ _) (by omega)
  have b : (if h then t.hi.toNat else t.lo.toNat) ≤ 20 := by split <;> omega
  calc _ ≤ (w + 20) * 20 := Nat.mul_le_mul a b
    _ = 20 * (w + 20) := Nat.mul_comm _ _
theorem dmd_low {t : Tk} (ht : t.ok = true) (w : Nat) (h : Bool) : dmd t w false ≤ dmd t w h := by
  obtain ⟨h1, h2, _⟩ := ok_parts ht
  refine dem_need _ _ ?_
  cases h
  · exact Nat.le_refl _
  · show t.lo.toNat ≤ t.hi.toNat
    omega
theorem take_snoc {ts : List Tk} {k : Nat} {t : Tk} (h : ts[k]? = some t) : ts.take (k + 1) = ts.take k ++ [t] := by
  rw [List.take_add_one, h]; rfl
theorem sum_snoc (f : Tk → Nat) {ts : List Tk} {k : Nat} {t : Tk} (h : ts[k]? = some t) : ((ts.take (k + 1)).map f).sum = ((ts.take k).map f).sum + f t := by
  rw [take_snoc h]; simp
theorem dLow_take {ts : List Tk} {k : Nat} {t : Tk} (h : ts[k]? = some t) (w : Nat) : dLow (ts.take (k + 1)) w = dLow (ts.take k) w + dmd t w false := sum_snoc _ h
theorem dSwi_take {ts : List Tk} {k : Nat} {t : Tk} (h : ts[k]? = some t) (l w : Nat) : dSwi (ts.take (k + 1)) l w = dSwi (ts.take k) l w + dmS l w t := sum_snoc _ h
theorem sum_le {f g : Tk → Nat} : ∀ {ts : List Tk}, (∀ t ∈ ts, f t ≤ g t) → (ts.map f).sum ≤ (ts.map g).sum
  | [], _ => Nat.le_refl _
  | t :: ts, h => by
    simp only [List.map_cons, List.sum_cons]
    have h1 := h t (by simp)
    have h2 := sum_le (ts := ts) fun x hx => h x (by simp [hx])
    omega
theorem sum_sub (f : Tk → Nat) {xs ys : List Tk} (h : xs.Sublist ys) : (xs.map f).sum ≤ (ys.map f).sum := by
  induction h with
  | slnil => exact Nat.le_refl _
  | cons a _ ih => simp only [List.map_cons, List.sum_cons]; omega
  | cons_cons a _ ih => simp only [List.map_cons, List.sum_cons]; omega
theorem tsum_bound {f : Tk → Nat} {b : Nat} : ∀ {ts : List Tk}, (∀ t ∈ ts, f t ≤ b) → (ts.map f).sum ≤ ts.length * b
  | [], _ => by simp
  | t :: ts, h => by
    simp only [List.map_cons, List.sum_cons, List.length_cons]
    have h1 := h t (by simp)
    have h2 := tsum_bound (ts := ts) fun x hx => h x (by simp [hx])
    rw [Nat.succ_mul]
    omega
theorem dLow_mono (ts : List Tk) {v w : Nat} (h : v ≤ w) : dLow ts v ≤ dLow ts w := sum_le fun t _ => dmd_mono t false h
theorem dSwi_mono (ts : List Tk) (l : Nat) {v w : Nat} (h : v ≤ w) : dSwi ts l v ≤ dSwi ts l w := sum_le fun t _ => by
  unfold dmS; split
  · exact dmd_mono t true h
  · exact Nat.le_refl _
theorem dLow_bound {ts : List Tk} (h : setB ts = true) (w : Nat) : dLow ts w ≤ 100 * (w + 20) := by
  have h1 := tsum_bound (f := fun t => dmd t w false) fun t ht => dmd_bound (set_ok h ht) w false
  have h2 := setB_len h
  have h3 : ts.length * (20 * (w + 20)) ≤ 5 * (20 * (w + 20)) := Nat.mul_le_mul_right _ h2
  unfold dLow
  omega
theorem dmS_bound {t : Tk} (ht : t.ok = true) (l w : Nat) : dmS l w t ≤ 20 * (l + w + 20) := by
  unfold dmS; split
  · have := dmd_bound ht w true; omega
  · have := dmd_bound ht l false; omega
theorem dSwi_bound {ts : List Tk} (h : setB ts = true) (l w : Nat) : dSwi ts l w ≤ 100 * (l + w + 20) := by
  have h1 := tsum_bound (f := dmS l w) fun t ht => dmS_bound (set_ok h ht) l w
  have h2 := setB_len h
  have h3 : ts.length * (20 * (l + w + 20)) ≤ 5 * (20 * (l + w + 20)) := Nat.mul_le_mul_right _ h2
  unfold dSwi
  omega

/-- The longest response of a task that needs n, is due in d, and comes behind xs. -/
def respOf (xs : List Tk) (n d : Nat) : Option Nat := leastN (fun w => n + dLow xs w) n d
def swiOf (xs : List Tk) (l n d : Nat) : Option Nat := leastN (fun w => n + dSwi xs l w) n d
def rLow (ts : List Tk) (k : Nat) : Option Nat :=
  if setB ts then match ts[k]? with
    | some t => respOf (ts.take k) t.lo.toNat t.du.toNat
    | none => none
  else none
def rSwi (ts : List Tk) (k : Nat) : Option Nat :=
  match rLow ts k, ts[k]? with
  | some l, some t => if t.cr then swiOf (ts.take k) l t.hi.toNat t.du.toNat else none
  | _, _ => none
def rHigh (ts : List Tk) (k : Nat) : Option Nat :=
  match ts[k]? with
  | some t => if setB ts && t.cr then rLow (critL ts) (critL (ts.take k)).length else none
  | none => none
def bothAt (ts : List Tk) (k : Nat) : Bool :=
  match ts[k]? with
  | some t => if t.cr then (rSwi ts k).isSome else (rLow ts k).isSome
  | none => false
def hLow (ts : List Tk) : Bool := setB ts && (List.range ts.length).all fun k => (rLow ts k).isSome
def hBoth (ts : List Tk) : Bool := setB ts && (List.range ts.length).all (bothAt ts)
def fBad (ts : List Tk) : Option Nat := if setB ts then (List.range ts.length).find? fun k => !bothAt ts k else none
def bLow (ts : List Tk) : Option Nat := if setB ts && !ts.isEmpty then leastN (dLow ts) 1 (ts.foldl (fun m t => Nat.lcm m t.ev.toNat) 1) else none

theorem resp_mono (xs : List Tk) (n : Nat) : ∀ v w, v ≤ w → n + dLow xs v ≤ n + dLow xs w := fun v w h => Nat.add_le_add_left (dLow_mono xs h) n
theorem swi_mono (xs : List Tk) (l n : Nat) : ∀ v w, v ≤ w → n + dSwi xs l v ≤ n + dSwi xs l w := fun v w h => Nat.add_le_add_left (dSwi_mono xs l h) n
theorem rLow_bad {ts : List Tk} (k : Nat) (h : setB ts = false) : rLow ts k = none := by unfold rLow; rw [h]; rfl
theorem rLow_past {ts : List Tk} {k : Nat} (h : ts[k]? = none) : rLow ts k = none := by unfold rLow; rw [h]; split <;> rfl
theorem rLow_at {ts : List Tk} {k : Nat} {t : Tk} (hs : setB ts = true) (h : ts[k]? = some t) : rLow ts k = respOf (ts.take k) t.lo.toNat t.du.toNat := by
  unfold rLow; rw [hs, h]; rfl
theorem rSwi_none {ts : List Tk} {k : Nat} (h : rLow ts k = none) : rSwi ts k = none := by unfold rSwi; rw [h]
theorem rSwi_not {ts : List Tk} {k : Nat} {t : Tk} (h : ts[k]? = some t) (hc : t.cr = false) : rSwi ts k = none := by
  unfold rSwi; rw [h]; cases rLow ts k
  · rfl
  · simp [hc]
theorem rSwi_at {ts : List Tk} {k l : Nat} {t : Tk} (hl : rLow ts k = some l) (h : ts[k]? = some t) (hc : t.cr = true) : rSwi ts k = swiOf (ts.take k) l t.hi.toNat t.du.toNat := by
  unfold rSwi; rw [hl, h]; simp [hc]
theorem rHigh_past {ts : List Tk} {k : Nat} (h : ts[k]? = none) : rHigh ts k = none := by unfold rHigh; rw [h]
theorem rHigh_bad {ts : List Tk} (k : Nat) (h : setB ts = false) : rHigh ts k = none := by unfold rHigh; rw [h]; split <;> rfl
theorem rHigh_not {ts : List Tk} {k : Nat} {t : Tk} (h : ts[k]? = some t) (hc : t.cr = false) : rHigh ts k = none := by unfold rHigh; rw [h]; simp [hc]
theorem rHigh_at {ts : List Tk} {k : Nat} {t : Tk} (hs : setB ts = true) (h : ts[k]? = some t) (hc : t.cr = true) : rHigh ts k = rLow (critL ts) (critL (ts.take k)).length := by
  unfold rHigh; rw [h]; simp [hc, hs]
theorem both_cr {ts : List Tk} {k : Nat} {t : Tk} (h : ts[k]? = some t) (hc : t.cr = true) : bothAt ts k = (rSwi ts k).isSome := by unfold bothAt; rw [h]; simp [hc]
theorem both_no {ts : List Tk} {k : Nat} {t : Tk} (h : ts[k]? = some t) (hc : t.cr = false) : bothAt ts k = (rLow ts k).isSome := by unfold bothAt; rw [h]; simp [hc]
/-- Both modes hold for a task: low needs do. -/
theorem both_low {ts : List Tk} {k : Nat} (h : bothAt ts k = true) : (rLow ts k).isSome = true := by
  unfold bothAt at h
  cases ht : ts[k]? with
  | none => rw [ht] at h; cases h
  | some t =>
    rw [ht] at h
    simp only at h
    cases hl : rLow ts k with
    | some l => rfl
    | none =>
      rw [rSwi_none hl, hl] at h
      split at h <;> cases h
theorem some_of {o : Option Nat} (h : o.isSome = true) : ∃ n, o = some n := Option.isSome_iff_exists.1 h

theorem all_range {p : Nat → Bool} {n : Nat} : (List.range n).all p = true ↔ ∀ k, k < n → p k = true := by
  rw [List.all_eq_true]
  exact ⟨fun h k hk => h k (List.mem_range.2 hk), fun h k hk => h k (List.mem_range.1 hk)⟩
theorem fBad_some {ts : List Tk} {k : Nat} (hs : setB ts = true) (hk : k < ts.length) (hb : bothAt ts k = false) (ha : ∀ j, j < k → bothAt ts j = true) : fBad ts = some k := by
  unfold fBad
  rw [if_pos hs, find_range]
  exact ⟨hk, by rw [hb]; rfl, fun v hv => by rw [ha v hv]; rfl⟩
theorem fBad_none {ts : List Tk} (hs : setB ts = true) (ha : ∀ j, j < ts.length → bothAt ts j = true) : fBad ts = none := by
  unfold fBad
  rw [if_pos hs, List.find?_eq_none]
  intro k hk
  rw [ha k (List.mem_range.1 hk)]
  simp
theorem fBad_bad {ts : List Tk} (hs : setB ts = false) : fBad ts = none := by unfold fBad; rw [hs]; rfl
theorem hBoth_bad {ts : List Tk} (hs : setB ts = false) : hBoth ts = false := by unfold hBoth; rw [hs]; rfl
theorem hLow_bad {ts : List Tk} (hs : setB ts = false) : hLow ts = false := by unfold hLow; rw [hs]; rfl
theorem hBoth_iff {ts : List Tk} : hBoth ts = true ↔ setB ts = true ∧ ∀ k, k < ts.length → bothAt ts k = true := by
  unfold hBoth; rw [Bool.and_eq_true, all_range]
theorem hLow_iff {ts : List Tk} : hLow ts = true ↔ setB ts = true ∧ ∀ k, k < ts.length → (rLow ts k).isSome = true := by
  unfold hLow; rw [Bool.and_eq_true, all_range]
theorem hBoth_no {ts : List Tk} {k : Nat} (hk : k < ts.length) (hb : bothAt ts k = false) : hBoth ts = false := by
  cases h : hBoth ts
  · rfl
  · have := (hBoth_iff.1 h).2 k hk
    rw [hb] at this; cases this
theorem hLow_no {ts : List Tk} {k : Nat} (hk : k < ts.length) (hb : rLow ts k = none) : hLow ts = false := by
  cases h : hLow ts
  · rfl
  · have := (hLow_iff.1 h).2 k hk
    rw [hb] at this; cases this
theorem hBoth_fBad {ts : List Tk} (hs : setB ts = true) : hBoth ts = (fBad ts).isNone := by
  cases h : fBad ts with
  | none =>
    refine hBoth_iff.2 ⟨hs, fun k hk => ?_⟩
    unfold fBad at h
    rw [if_pos hs, List.find?_eq_none] at h
    have := h k (List.mem_range.2 hk)
    cases hb : bothAt ts k
    · rw [hb] at this; exact absurd rfl this
    · rfl
  | some k =>
    unfold fBad at h
    rw [if_pos hs, find_range] at h
    obtain ⟨h1, h2, _⟩ := h
    refine hBoth_no h1 ?_
    cases hb : bothAt ts k
    · rfl
    · rw [hb] at h2; cases h2
theorem fBad_at {ts : List Tk} {k : Nat} (h : fBad ts = some k) : setB ts = true ∧ k < ts.length ∧ bothAt ts k = false ∧ ∀ j, j < k → bothAt ts j = true := by
  unfold fBad at h
  cases hs : setB ts with
  | false => rw [hs] at h; cases h
  | true =>
    rw [if_pos hs, find_range] at h
    obtain ⟨h1, h2, h3⟩ := h
    refine ⟨rfl, h1, ?_, fun j hj => ?_⟩
    · cases hb : bothAt ts k
      · rfl
      · rw [hb] at h2; cases h2
    · have := h3 j hj
      cases hb : bothAt ts j
      · rw [hb] at this; cases this
      · rfl
end

section
/- Contracts of demands, in the program and in the reference: what a task needs at most within a window. Nothing that was there is written. -/
open Go.RowKit
set_option linter.unusedVariables false

theorem dem_cast {n z j : Nat} (hz : 1 ≤ z) (hj : (n + z - 1) / z = j) : 0 ≤ (n : Int) + (z : Int) - 1 ∧ Int.tdiv ((n : Int) + (z : Int) - 1) (z : Int) = (j : Int) ∧ ((n : Int) + (z : Int) - 1) / (z : Int) = (j : Int) := by
  have h0 : 0 ≤ (n : Int) + (z : Int) - 1 := by omega
  have h1 : ((n : Int) + (z : Int) - 1) / (z : Int) = (j : Int) := by
    have : (n : Int) + (z : Int) - 1 = ((n + z - 1 : Nat) : Int) := by omega
    rw [this, ← hj]; simp
  exact ⟨h0, by rw [Int.tdiv_eq_ediv_of_nonneg h0]; exact h1, h1⟩

theorem needT_ex (w : World) (lo hi du ev : Int) (cr b : Bool) :
    Calls Tryd.prog 56 #[.agg #[.int .i64 lo, .int .i64 hi, .int .i64 du, .int .i64 ev, .bool cr], .bool b] w fun e w' => e = .returned (.int .i64 (if b then hi else lo)) ∧ w.alloc (.cells #[.int .i64 lo, .int .i64 hi, .int .i64 du, .int .i64 ev, .bool cr] 48) = w' := by
  cases b <;>
  · go_enter Tryd.func56, Tryd.ntmps56
    go_wp2
    go_ret
    exact ⟨rfl, rfl⟩
set_option maxHeartbeats 1000000 in
theorem iDemand_is (w : World) (lo hi du ev : Int) (cr : Bool) (n : Nat) (hb : Bool) (m : Nat) (hv : validB lo hi du ev cr = true) (hn : n ≤ 100000000) (hm : dmd ⟨lo, hi, du, ev, cr⟩ n hb = m) :
    Calls Tryd.prog 49 #[.agg #[.int .i64 lo, .int .i64 hi, .int .i64 du, .int .i64 ev, .bool cr], .int .i64 (n : Int), .bool hb] w fun e w' =>
      e = .returned (.int .i64 (m : Int)) ∧ (w.alloc (.cells #[.int .i64 lo, .int .i64 hi, .int .i64 du, .int .i64 ev, .bool cr] 48)).alloc (.cells #[.int .i64 lo, .int .i64 hi, .int .i64 du, .int .i64 ev, .bool cr] 48) = w' := by
  obtain ⟨h1, h2, h3, h4, h5, _⟩ := ok_parts (t := ⟨lo, hi, du, ev, cr⟩) hv
  dsimp only at h1 h2 h3 h4 h5
  obtain ⟨a, rfl⟩ := Int.eq_ofNat_of_zero_le (show 0 ≤ lo by omega)
  obtain ⟨b, rfl⟩ := Int.eq_ofNat_of_zero_le (show 0 ≤ hi by omega)
  obtain ⟨z, rfl⟩ := Int.eq_ofNat_of_zero_le (show 0 ≤ ev by omega)
  obtain ⟨j, hj⟩ : ∃ j, (n + z - 1) / z = j := ⟨_, rfl⟩
  have hjn : j ≤ n + 20 := by rw [← hj]; exact Nat.le_trans (Nat.div_le_self _ _) (by omega)
  obtain ⟨q1, q2, q3⟩ := dem_cast (n := n) (z := z) (by omega) hj
  have hjp : 0 ≤ (j : Int) := by omega
  cases hb
  · have hm' : j * a = m := by rw [← hm, ← hj]; rfl
    have hA : (a : Int) * (j : Int) = (m : Int) := by rw [← hm', Int.natCast_mul, Int.mul_comm]
    have hA' : (j : Int) * (a : Int) = (m : Int) := by rw [← hm', Int.natCast_mul]
    have hmb : m ≤ 20 * (n + 20) := by rw [← hm', Nat.mul_comm]; exact Nat.mul_le_mul (by omega) hjn
    clear hm hm' hj hv
    have HNX := Lib.hid (fun W : World => needT_ex W (a : Int) (b : Int) du (z : Int) cr false)
    have cT := (Blk.new w 48 #[.int .i64 (a : Int), .int .i64 (b : Int), .int .i64 du, .int .i64 (z : Int), .bool cr]).cell
    go_enter Tryd.func49, Tryd.ntmps49
    go_wp2_with fail
    refine (HNX.out _).mono ?_
    rintro e w' ⟨rfl, rfl⟩
    go_wp2
    go_ret
    exact ⟨by simp [*], by simp [*]⟩
  · have hm' : j * b = m := by rw [← hm, ← hj]; rfl
    have hA : (b : Int) * (j : Int) = (m : Int) := by rw [← hm', Int.natCast_mul, Int.mul_comm]
    have hA' : (j : Int) * (b : Int) = (m : Int) := by rw [← hm', Int.natCast_mul]
    have hmb : m ≤ 20 * (n + 20) := by rw [← hm', Nat.mul_comm]; exact Nat.mul_le_mul (by omega) hjn
    clear hm hm' hj hv
    have HNX := Lib.hid (fun W : World => needT_ex W (a : Int) (b : Int) du (z : Int) cr true)
    have cT := (Blk.new w 48 #[.int .i64 (a : Int), .int .i64 (b : Int), .int .i64 du, .int .i64 (z : Int), .bool cr]).cell
    go_enter Tryd.func49, Tryd.ntmps49
    go_wp2_with fail
    refine (HNX.out _).mono ?_
    rintro e w' ⟨rfl, rfl⟩
    go_wp2
    go_ret
    exact ⟨by simp [*], by simp [*]⟩

set_option maxHeartbeats 1000000 in
theorem sDemand_is (w : World) (lo hi du ev : Int) (cr : Bool) (n : Nat) (hb : Bool) (m : Nat) (hv : validB lo hi du ev cr = true) (hn : n ≤ 100000000) (hm : dmd ⟨lo, hi, du, ev, cr⟩ n hb = m) :
    Calls Tryd.prog 30 #[.agg #[.int .i64 lo, .int .i64 hi, .int .i64 du, .int .i64 ev, .bool cr], .int .i64 (n : Int), .bool hb] w fun e w' =>
      e = .returned (.int .i64 (m : Int)) ∧ w.alloc (.cells #[.int .i64 lo, .int .i64 hi, .int .i64 du, .int .i64 ev, .bool cr] 48) = w' := by
  obtain ⟨h1, h2, h3, h4, h5, _⟩ := ok_parts (t := ⟨lo, hi, du, ev, cr⟩) hv
  dsimp only at h1 h2 h3 h4 h5
  obtain ⟨a, rfl⟩ := Int.eq_ofNat_of_zero_le (show 0 ≤ lo by omega)
  obtain ⟨b, rfl⟩ := Int.eq_ofNat_of_zero_le (show 0 ≤ hi by omega)
  obtain ⟨z, rfl⟩ := Int.eq_ofNat_of_zero_le (show 0 ≤ ev by omega)
  obtain ⟨j, hj⟩ : ∃ j, (n + z - 1) / z = j := ⟨_, rfl⟩
  have hjn : j ≤ n + 20 := by rw [← hj]; exact Nat.le_trans (Nat.div_le_self _ _) (by omega)
  obtain ⟨q1, q2, q3⟩ := dem_cast (n := n) (z := z) (by omega) hj
  have hjp : 0 ≤ (j : Int) := by omega
  cases hb
  · have hm' : j * a = m := by rw [← hm, ← hj]; rfl
    have hA : (a : Int) * (j : Int) = (m : Int) := by rw [← hm', Int.natCast_mul, Int.mul_comm]
    have hA' : (j : Int) * (a : Int) = (m : Int) := by rw [← hm', Int.natCast_mul]
    have hmb : m ≤ 20 * (n + 20) := by rw [← hm', Nat.mul_comm]; exact Nat.mul_le_mul (by omega) hjn
    clear hm hm' hj hv
    go_enter Tryd.func30, Tryd.ntmps30
    go_wp2
    go_ret
    exact ⟨by simp [*], by simp [*]⟩
  · have hm' : j * b = m := by rw [← hm, ← hj]; rfl
    have hA : (b : Int) * (j : Int) = (m : Int) := by rw [← hm', Int.natCast_mul, Int.mul_comm]
    have hA' : (j : Int) * (b : Int) = (m : Int) := by rw [← hm', Int.natCast_mul]
    have hmb : m ≤ 20 * (n + 20) := by rw [← hm', Nat.mul_comm]; exact Nat.mul_le_mul (by omega) hjn
    clear hm hm' hj hv
    go_enter Tryd.func30, Tryd.ntmps30
    go_wp2
    go_ret
    exact ⟨by simp [*], by simp [*]⟩

/-- What the demand of a task is, and whether there is one. -/
def dmOf (t : Tk) (win : Int) (hb : Bool) : Nat × Bool := if t.ok && (decide (0 ≤ win) && decide (win ≤ 1000000)) then (dmd t win.toNat hb, true) else (0, false)
end

section
/- Contract of the program's search of a least fixed number: whatever function it asks, as long as that one only writes memory of its own. -/
open Go.RowKit
set_option linter.unusedVariables false

def resN (o : Option Nat) : Nat × Bool := (o.getD 0, o.isSome)
/-- A number and whether there is one. -/
def NbRes (v : Nat) (b : Bool) (w : World) (e : Ending) (w' : World) : Prop := e = .returned (.tuple #[.int .i64 (v : Int), .bool b]) ∧ Below w.heap.size w w'

/-- What is asked of the function that the search calls. -/
def NextIs (k : Nat) (cap : Array Value) (F : Nat → Nat) (lo hi : Nat) (w : World) : Prop :=
  ∀ (W : World) (v : Nat), lo ≤ v → v ≤ hi → Below w.heap.size w W → Calls Tryd.prog k (#[.int .i64 (v : Int)] ++ cap) W fun e W' => e = .returned (.int .i64 (F v : Int)) ∧ Below W.heap.size W W'

def lfW (a : Act) : Nat := (intOf (a.tmps.getD 8 undef)).toNat

set_option maxRecDepth 100000 in
set_option maxHeartbeats 2000000 in
theorem iLeast_is (w : World) (lo hi k : Nat) (cap : Array Value) (F : Nat → Nat) (v : Nat) (b : Bool) (ho : resN (leastN F lo hi) = (v, b)) (hm : ∀ x y, x ≤ y → F x ≤ F y) (hF : ∀ x, lo ≤ x → lo ≤ F x) (hB : ∀ x, x ≤ hi → F x ≤ 1000000000000) (hhi : hi ≤ 100000000) (hlo : lo ≤ 100000000)
    (ek : ∀ args w, (callFunc k args).run Tryd.prog w = .ok (.enter k args) w) (hfn : NextIs k cap F lo hi w) :
    Calls Tryd.prog 25 #[.int .i64 (lo : Int), .int .i64 (hi : Int), .func (.func k) #[] cap] w (NbRes v b w) := by
  have HO := Lib.hid ho
  have HM := Lib.hid hm
  have HF := Lib.hid hF
  have HB := Lib.hid hB
  have HFN := Lib.hid hfn
  clear ho hm hF hB hfn
  go_enter Tryd.func25, Tryd.ntmps25
  go_wp2
  refine wp_scope_jumps 0 (fun a' w' => Below w.heap.size w w' ∧ ∃ (x : Nat) (u3 u4 u5 u9 u10 u11 u12 u13 u14 u15 u16 u17 u18 u19 u20 u21 : Value), a' = { tmps := #[.int .i64 (lo : Int), .int .i64 (hi : Int), .func (.func k) #[] cap, u3, u4, u5, .int .i64 0, .bool false, .int .i64 (x : Int), u9, u10, u11, u12, u13, u14, u15, u16, u17, u18, u19, u20, u21], defers := [] } ∧ NoneBelow F lo x ∧ x ≤ 1000000000000) (fun a' _ => hi + 1 - lfW a') rfl ?_ ?_
  · by_cases hx : hi < lo
    · obtain ⟨rfl, rfl⟩ : 0 = v ∧ false = b := Prod.mk.inj (by rw [← HO.out, least_past (none_start F lo) hx]; rfl)
      go_wp2
      go_step3
      go_wp2
      simp only [Exit.jump]
      go_ret2
      exact ⟨rfl, Below.refl _ _⟩
    · have hc := HFN.out w lo (Nat.le_refl _) (by omega) (Below.refl _ _)
      have hcb := HB.out lo (by omega)
      by_cases he : F lo = lo
      · have hei : (F lo : Int) = (lo : Int) := by omega
        obtain ⟨rfl, rfl⟩ : lo = v ∧ true = b := Prod.mk.inj (by rw [← HO.out, least_hit (none_start F lo) (by omega) he]; rfl)
        go_wp2
        go_step3
        go_wp2_with (go_at_fn k; refine hc.mono ?_; rintro e w' ⟨rfl, hb'⟩)
        simp only [Exit.jump]
        go_ret2
        exact ⟨rfl, hb'⟩
      · have hei : ¬ (F lo : Int) = (lo : Int) := by omega
        have hnx := none_step HM.out HF.out (none_start F lo)
        have HN := Lib.hid hnx
        clear hnx
        go_wp2
        go_step3
        go_wp2_with (go_at_fn k; refine hc.mono ?_; rintro e w' ⟨rfl, hb'⟩)
        go_step3
        exact ⟨rfl, hb', F lo, _, _, _, _, _, _, _, _, _, _, _, _, _, _, _, _, rfl, HN.out, hcb⟩
  · rintro a' w' ⟨hb, x, u3, u4, u5, u9, u10, u11, u12, u13, u14, u15, u16, u17, u18, u19, u20, u21, rfl, hnn, hxb⟩
    have HN := Lib.hid hnn
    have HW := Lib.hid hb
    have hge := hnn.1
    clear hnn hb
    by_cases hx : hi < x
    · obtain ⟨rfl, rfl⟩ : 0 = v ∧ false = b := Prod.mk.inj (by rw [← HO.out, least_past HN.out hx]; rfl)
      go_wp2
      simp only [Exit.jump]
      go_ret2
      exact ⟨rfl, HW.out⟩
    · have hc := HFN.out w' x hge (by omega) HW.out
      have hcb := HB.out x (by omega)
      by_cases he : F x = x
      · have hei : (F x : Int) = (x : Int) := by omega
        obtain ⟨rfl, rfl⟩ : x = v ∧ true = b := Prod.mk.inj (by rw [← HO.out, least_hit HN.out (by omega) he]; rfl)
        go_wp2_with (go_at_fn k; refine hc.mono ?_; rintro e w2 ⟨rfl, hb'⟩)
        simp only [Exit.jump]
        go_ret2
        exact ⟨rfl, bl_trans HW.out hb'⟩
      · have hei : ¬ (F x : Int) = (x : Int) := by omega
        have hnx := none_step HM.out HF.out HN.out
        have hlt := none_le HM.out HF.out HN.out
        have HN2 := Lib.hid hnx
        clear hnx
        go_wp2_with (go_at_fn k; refine hc.mono ?_; rintro e w2 ⟨rfl, hb'⟩)
        go_step3
        exact ⟨rfl, ⟨bl_trans HW.out hb', F x, _, _, _, _, _, _, _, _, _, _, _, _, _, _, _, _, rfl, HN2.out, hcb⟩, by simp [lfW, intOf]; omega⟩
end

section
/- Parts of tasks that lie in memory. -/
open Go.RowKit
theorem Tks.take {w : World} {B : Nat} {A : Option Addr} {n k : Nat} {ts : List Tk} (h : Tks w B A n ts) (hk : k ≤ n) : Tks w B A k (ts.take k) :=
  ⟨by rw [List.length_take, h.len]; omega, fun i t ht => h.at_ i t (by
    rw [List.getElem?_take] at ht
    split at ht
    · exact ht
    · cases ht)⟩
theorem Tks.drop {w : World} {B b o : Nat} {n k m : Nat} {ts : List Tk} (h : Tks w B (some ⟨b, o, none⟩) n ts) (hm : m = o + k * 5) : Tks w B (some ⟨b, m, none⟩) (n - k) (ts.drop k) :=
  ⟨by rw [List.length_drop, h.len], fun i t ht => by
    rw [List.getElem?_drop] at ht
    obtain ⟨b', o', e, hb, hc⟩ := h.at_ _ _ ht
    injection e with e
    injection e with e1 e2
    subst e1 e2 hm
    refine ⟨b, _, rfl, hb, ?_⟩
    rw [show o + k * 5 + i * 5 = o + (k + i) * 5 by omega]
    exact hc⟩
theorem Tks.none_ {w : World} {B : Nat} {A : Option Addr} : Tks w B A 0 [] := ⟨rfl, fun i t ht => by simp at ht⟩
end

section
/- Contracts of the program's ResponseLow and of what it calls: sums of demands, its closure. Nothing that was there is written. -/
open Go.RowKit
set_option linter.unusedVariables false

def NumIs (m : Nat) (w : World) (e : Ending) (w' : World) : Prop := e = .returned (.int .i64 (m : Int)) ∧ Below w.heap.size w w'

theorem take_all {ts : List Tk} {k : Nat} (h : ts.length ≤ k) : ts.take k = ts := List.take_of_length_le h
theorem get_at {ts : List Tk} {k n : Nat} (h : ts.length = n) (hk : k < n) : ∃ t, ts[k]? = some t := ⟨ts[k]'(by omega), List.getElem?_eq_getElem _⟩

set_option maxHeartbeats 1000000 in
theorem iDemLow_is (w : World) (A : Option Addr) (n c : Nat) (ts : List Tk) (h : Tks w w.heap.size A n ts) (hs : setB ts = true) (x m : Nat) (hx : x ≤ 10000000) (hm : dLow ts x = m) :
    Calls Tryd.prog 28 #[.slice A n c, .int .i64 (x : Int)] w (NumIs m w) := by
  have H := Lib.hid h
  have HL := Lib.hid h.len
  have HS := Lib.hid hs
  have HM := Lib.hid hm
  have h5 : n ≤ 5 := by have := setB_len hs; rw [HL.out] at this; exact this
  clear h hs hm
  go_enter Tryd.func28, Tryd.ntmps28
  go_wp2
  go_loopw [5, 10] (fun s i wr => ∃ k : Nat, k ≤ n ∧ i = .int .i64 k ∧ s = .int .i64 (dLow (ts.take k) x : Nat) ∧ Below w.heap.size w wr) (fun _ i _ => n - (intOf i).toNat)
  case atStart => exact ⟨0, Nat.zero_le _, rfl, rfl, Below.refl _ _⟩
  case round =>
    obtain ⟨k, hk, rfl, rfl, hb⟩ := hrel
    have HB := Lib.hid hb
    clear hb
    by_cases hlt : k < n
    · obtain ⟨t, ht⟩ := get_at HL.out hlt
      obtain ⟨b, o, rfl, hbl, c0, c1, c2, c3, c4⟩ := (H.out.below HB.out).at_ k t ht
      have HT := Lib.hid (dLow_take ht x)
      have HV := Lib.hid (set_ok HS.out (get_mem ht))
      have hb1 := dLow_bound (set_take HS.out k) x
      have hb2 := dmd_bound HV.out x false
      obtain ⟨lo, hi, du, ev, cr⟩ := t
      dsimp only at c0 c1 c2 c3 c4
      obtain ⟨d, hd⟩ : ∃ d, dmd ⟨lo, hi, du, ev, cr⟩ x false = d := ⟨_, rfl⟩
      rw [hd] at hb2
      have HT' : Hid (dLow (ts.take (k + 1)) x = dLow (ts.take k) x + d) := by have := HT.out; rw [hd] at this; exact this
      have HD := Lib.hid hd
      clear ht hd HT
      generalize dLow (ts.take k) x = s at *
      have hsz := HB.out.size
      go_wp2_with (go_at_call 49; refine (iDemand_is _ lo hi du ev cr x false d HV.out (by omega) HD.out).mono ?_; rintro e w2 ⟨rfl, rfl⟩)
      go_roundw
      case rel => exact ⟨k + 1, by omega, by go_num, by rw [HT'.out]; go_num, by repeat (first | with_reducible exact HB.out | refine bl_alloc ?_ _ | refine bl_set ?_ (by simp; omega) _)⟩
      case measure => simp [intOf]; omega
    · obtain rfl : k = n := by omega
      have hbd := dLow_bound HS.out x
      have HE : Hid (dLow (ts.take k) x = m) := by show _ = _; rw [take_all (by rw [HL.out]; omega)]; exact HM.out
      go_wp2
      go_ret
      exact ⟨by rw [HE.out]; rfl, HB.out⟩

set_option maxHeartbeats 1000000 in
theorem iCloLow_is (w : World) (Bt Bs : Nat) (A : Option Addr) (k c : Nat) (us : List Tk) (lo : Nat) (hT : w.cell? ⟨Bt, 0, none⟩ = some (.int .i64 (lo : Int))) (hS : w.cell? ⟨Bs, 0, none⟩ = some (.slice A k c)) (hTs : Tks w w.heap.size A k us) (hs : setB us = true) (hlo : lo ≤ 20) (x m : Nat) (hx : x ≤ 10000000) (hm : lo + dLow us x = m) (hbt : Bt < w.heap.size) (hbs : Bs < w.heap.size) :
    Calls Tryd.prog 39 #[.int .i64 (x : Int), .pointer (some ⟨Bt, 0, none⟩), .pointer (some ⟨Bs, 0, none⟩)] w (NumIs m w) := by
  have H := Lib.hid hTs
  have HS := Lib.hid hs
  obtain ⟨d, hd⟩ : ∃ d, dLow us x = d := ⟨_, rfl⟩
  have hdb := dLow_bound hs x
  rw [hd] at hm hdb
  subst hm
  have HD := Lib.hid hd
  have kw : IntKind.i64.wrap ((lo : Int) + (d : Int)) = (lo : Int) + (d : Int) := IntWalk.i64_in _ (by omega)
  have hS0 : w.cell? ⟨Bt, 0, none⟩ = some (.int .i64 (lo : Int)) ∧ w.cell? ⟨Bs, 0, none⟩ = some (.slice A k c) := ⟨hT, hS⟩
  clear hTs hs hd
  go_enter Tryd.func39, Tryd.ntmps39
  go_wp2_with fail
  go_region_held3 (fun W => W.cell? ⟨Bt, 0, none⟩ = some (.int .i64 (lo : Int)) ∧ W.cell? ⟨Bs, 0, none⟩ = some (.slice A k c)) (first | exact hS0 | exact hS2)
    ((first
      | (go_at_call 28; refine (iDemLow_is _ A k c us ?_ HS.out x d hx HD.out).mono ?_; exact H.out.below (by repeat (first | with_reducible exact Below.refl w.heap.size w | with_reducible refine Below.drew ?_ | with_reducible refine bl_drewN ?_ _)); rintro e w2 ⟨rfl, hb⟩; have HB2 := Lib.hid (show Below w.heap.size w w2 from bl_trans (by repeat (first | with_reducible exact Below.refl w.heap.size w | with_reducible refine bl_drewN ?_ _ | with_reducible refine Below.drew ?_)) hb); have hS2 : w2.cell? ⟨Bt, 0, none⟩ = some (.int .i64 (lo : Int)) ∧ w2.cell? ⟨Bs, 0, none⟩ = some (.slice A k c) := ⟨(HB2.out.cell (p := ⟨Bt, 0, none⟩) hbt).trans hT, (HB2.out.cell (p := ⟨Bs, 0, none⟩) hbs).trans hS⟩; clear hb)))
  go_wp2
  go_ret
  exact ⟨by first | rfl | go_num, HB2.out⟩

set_option maxHeartbeats 1000000 in
theorem iHas_is (w : World) (A : Option Addr) (n c : Nat) (ts : List Tk) (a : Int) (h : Tks w w.heap.size A n ts) (hn : n ≤ 1048576) (b : Bool) (hb : (setB ts && (decide (0 ≤ a) && decide (a < (n : Int)))) = b) :
    Calls Tryd.prog 38 #[.slice A n c, .int .i64 a] w fun e w' => e = .returned (.bool b) ∧ Below w.heap.size w w' := by
  have H := Lib.hid h
  clear h
  cases hs : setB ts
  · subst hb
    go_enter Tryd.func38, Tryd.ntmps38
    go_wp2_with (go_at_call 14; refine (iSetValid_any _ A n c ts H.out hn).mono ?_; rintro e w2 ⟨rfl, hb2⟩)
    go_ret
    exact ⟨by simp [hs], hb2⟩
  rw [hs, Bool.true_and] at hb
  by_cases h0 : 0 ≤ a
  · by_cases h1 : a < (n : Int)
    · rw [decide_eq_true h0, decide_eq_true h1] at hb
      subst hb
      go_enter Tryd.func38, Tryd.ntmps38
      go_wp2_with (go_at_call 14; refine (iSetValid_any _ A n c ts H.out hn).mono ?_; rintro e w2 ⟨rfl, hb2⟩)
      go_ret
      exact ⟨by simp [*], hb2⟩
    · rw [decide_eq_true h0, decide_eq_false h1] at hb
      subst hb
      go_enter Tryd.func38, Tryd.ntmps38
      go_wp2_with (go_at_call 14; refine (iSetValid_any _ A n c ts H.out hn).mono ?_; rintro e w2 ⟨rfl, hb2⟩)
      go_ret
      exact ⟨by simp [*], hb2⟩
  · rw [decide_eq_false h0] at hb
    subst hb
    go_enter Tryd.func38, Tryd.ntmps38
    go_wp2_with (go_at_call 14; refine (iSetValid_any _ A n c ts H.out hn).mono ?_; rintro e w2 ⟨rfl, hb2⟩)
    go_ret
    exact ⟨by simp [*], hb2⟩

theorem cloLow_next (w : World) (Bt Bs : Nat) (A : Option Addr) (k c : Nat) (us : List Tk) (lo hi du : Nat) (h1 h2 h3 h4 : Value) (hT : Blk w Bt 48 #[.int .i64 (lo : Int), h1, h2, h3, h4]) (hS : Blk w Bs 23 #[.slice A k c]) (hTs : Tks w w.heap.size A k us) (hs : setB us = true) (hlo : lo ≤ 20) (hdu : du ≤ 10000000) :
    NextIs 39 #[.pointer (some ⟨Bt, 0, none⟩), .pointer (some ⟨Bs, 0, none⟩)] (fun x => lo + dLow us x) lo du w := fun W x h1 h2 hb =>
  iCloLow_is W Bt Bs A k c us lo ((hb.cell (p := ⟨Bt, 0, none⟩) hT.lt).trans (hT.cell 0)) ((hb.cell (p := ⟨Bs, 0, none⟩) hS.lt).trans (hS.cell 0)) ((hTs.below hb).more hb.size) hs hlo x _ (by omega) rfl (Nat.lt_of_lt_of_le hT.lt hb.size) (Nat.lt_of_lt_of_le hS.lt hb.size)
theorem blk_second (w : World) (o : Obj) (t : TypeId) (cs : Array Value) : Blk ((w.alloc o).alloc (.cells cs t)) (w.heap.size + 1) t cs := by
  have h := Blk.new (w.alloc o) t cs
  simp only [World.size_alloc] at h
  exact h

/-- A task's longest response at a place that may be none. -/
def atI (f : Nat → Option Nat) (a : Int) : Option Nat := if 0 ≤ a then f a.toNat else none

set_option maxRecDepth 100000 in
set_option maxHeartbeats 2000000 in
theorem iRLow_is (w : World) (A : Option Addr) (n c : Nat) (ts : List Tk) (a : Int) (h : Tks w w.heap.size A n ts) (hn : n ≤ 1048576) (hnc : n ≤ c) (v : Nat) (b : Bool) (hv : resN (atI (rLow ts) a) = (v, b)) :
    Calls Tryd.prog 16 #[.slice A n c, .int .i64 a] w (NbRes v b w) := by
  have H := Lib.hid h
  have HL := Lib.hid h.len
  clear h
  cases hh : (setB ts && (decide (0 ≤ a) && decide (a < (n : Int))))
  · have hr : atI (rLow ts) a = none := by
      unfold atI
      split
      · rename_i h0
        cases hs : setB ts
        · exact rLow_bad _ hs
        · rw [hs, Bool.true_and, decide_eq_true h0, Bool.true_and] at hh
          have h1 : ¬ a < (n : Int) := of_decide_eq_false hh
          exact rLow_past (List.getElem?_eq_none (by have := HL.out; omega))
      · rfl
    rw [hr] at hv
    obtain ⟨rfl, rfl⟩ := Prod.mk.inj hv
    have HH := Lib.hid hh
    clear hr hv hh
    go_enter Tryd.func16, Tryd.ntmps16
    go_wp2_with (go_at_call 38; refine (iHas_is _ A n c ts a H.out hn false HH.out).mono ?_; rintro e w1 ⟨rfl, hb⟩)
    go_ret2
    exact ⟨rfl, hb⟩
  have HH := Lib.hid hh
  rw [Bool.and_eq_true, Bool.and_eq_true, decide_eq_true_iff, decide_eq_true_iff] at hh
  obtain ⟨hs, h0, h1⟩ := hh
  obtain ⟨k, rfl⟩ := Int.eq_ofNat_of_zero_le h0
  have hk : k < n := by omega
  obtain ⟨t, ht⟩ := get_at HL.out hk
  have hr : atI (rLow ts) (k : Int) = respOf (ts.take k) t.lo.toNat t.du.toNat := by
    unfold atI; rw [if_pos h0]; exact rLow_at hs ht
  rw [hr] at hv
  have hok := ok_parts (set_ok hs (get_mem ht))
  have HS := Lib.hid (set_take hs k)
  have HT := Lib.hid ht
  have HV := Lib.hid hv
  clear hr hv ht hs
  obtain ⟨lo, hi, du, ev, cr⟩ := t
  dsimp only at hok HV
  obtain ⟨p1, p2, p3, p4, p5, _⟩ := hok
  obtain ⟨lo, rfl⟩ := Int.eq_ofNat_of_zero_le (show 0 ≤ lo by omega)
  obtain ⟨du, rfl⟩ := Int.eq_ofNat_of_zero_le (show 0 ≤ du by omega)
  go_enter Tryd.func16, Tryd.ntmps16
  go_wp2_with fail
  refine (iHas_is _ A n c ts (k : Int) H.out hn true HH.out).mono ?_
  rintro e w1 ⟨rfl, hb⟩
  have HB1 := Lib.hid hb
  have hsz := hb.size
  obtain ⟨bb, o, rfl, hbl, c0, c1, c2, c3, c4⟩ := (H.out.below hb).at_ k _ HT.out
  dsimp only at c0 c1 c2 c3 c4
  have HTk := Lib.hid (Tks.take ((H.out.below hb).more hb.size) (show k ≤ n by omega))
  clear hb
  have hbl1 : bb < w1.heap.size := by omega
  have hbl2 : bb < w1.heap.size + 1 := by omega
  have i1 : (k : Int) < (n : Int) := h1
  have i2 : (k : Int) ≤ (c : Int) := by omega
  have i3 : ¬ (c : Int) < (k : Int) := by omega
  go_wp2
  go_region
  all_goals go_wp2_with fail
  · refine (iLeast_is _ lo du 39 _ (fun x => lo + dLow (ts.take k) x) v b HV.out (resp_mono _ lo) (fun x _ => Nat.le_add_right _ _) (fun x hx => by have := dLow_bound HS.out x; omega) (by omega) (by omega) (fun _ _ => rfl) (cloLow_next _ _ _ (some ⟨bb, o, none⟩) k c (ts.take k) lo 0 du _ _ _ _ (((Blk.new w1 _ _).alloc _).drewN 1) ((blk_second w1 _ _ _).drewN 1) ((HTk.out.below (bl_drewN (bl_alloc (bl_alloc (Below.refl w1.heap.size w1) _) _) 1)).more (bl_drewN (bl_alloc (bl_alloc (Below.refl w1.heap.size w1) _) _) 1).size) HS.out (by omega) (by omega))).mono ?_
    rintro e w2 ⟨rfl, hb2⟩
    go_wp2
    go_ret2
    exact ⟨rfl, bl_trans (bl_drewN (bl_alloc (bl_alloc HB1.out _) _) 1) hb2⟩
  · refine (iLeast_is _ lo du 39 _ (fun x => lo + dLow (ts.take k) x) v b HV.out (resp_mono _ lo) (fun x _ => Nat.le_add_right _ _) (fun x hx => by have := dLow_bound HS.out x; omega) (by omega) (by omega) (fun _ _ => rfl) (cloLow_next _ _ _ (some ⟨bb, o, none⟩) k c (ts.take k) lo 0 du _ _ _ _ ((blk_second w1 _ _ _).drewN 1) (((Blk.new w1 _ _).alloc _).drewN 1) ((HTk.out.below (bl_drewN (bl_alloc (bl_alloc (Below.refl w1.heap.size w1) _) _) 1)).more (bl_drewN (bl_alloc (bl_alloc (Below.refl w1.heap.size w1) _) _) 1).size) HS.out (by omega) (by omega))).mono ?_
    rintro e w2 ⟨rfl, hb2⟩
    go_wp2
    go_ret2
    exact ⟨rfl, bl_trans (bl_drewN (bl_alloc (bl_alloc HB1.out _) _) 1) hb2⟩
end

section
/- Contract of the reference's ResponseLow. Nothing that was there is written. -/
open Go.RowKit
set_option linter.unusedVariables false

theorem Tks.get {w : World} {B b o n : Nat} {ts : List Tk} (h : Tks w B (some ⟨b, o, none⟩) n ts) {i : Nat} {t : Tk} (ht : ts[i]? = some t) : b < B ∧ TkAt w b (o + i * 5) t := by
  obtain ⟨b', o', e, hb, hc⟩ := h.at_ i t ht
  injection e with e
  injection e with e1 e2
  subst e1 e2
  exact ⟨hb, hc⟩

set_option maxHeartbeats 1000000 in
theorem sAt_is (w : World) (A : Option Addr) (n c : Nat) (ts : List Tk) (a : Int) (h : Tks w w.heap.size A n ts) (hn : n ≤ 1048576) (b : Bool) (hb : (setB ts && (decide (0 ≤ a) && decide (a < (n : Int)))) = b) :
    Calls Tryd.prog 54 #[.slice A n c, .int .i64 a] w fun e w' => e = .returned (.bool b) ∧ Below w.heap.size w w' := by
  have H := Lib.hid h
  clear h
  cases hs : setB ts
  · subst hb
    go_enter Tryd.func54, Tryd.ntmps54
    go_wp2_with (go_at_call 17; refine (sSetValid_any _ A n c ts H.out hn).mono ?_; rintro e w2 ⟨rfl, hb2⟩)
    go_ret
    exact ⟨by simp [hs], hb2⟩
  rw [hs, Bool.true_and] at hb
  by_cases h0 : 0 ≤ a
  · by_cases h1 : a < (n : Int)
    · rw [decide_eq_true h0, decide_eq_true h1] at hb
      subst hb
      go_enter Tryd.func54, Tryd.ntmps54
      go_wp2_with (go_at_call 17; refine (sSetValid_any _ A n c ts H.out hn).mono ?_; rintro e w2 ⟨rfl, hb2⟩)
      go_ret
      exact ⟨by simp [*], hb2⟩
    · rw [decide_eq_true h0, decide_eq_false h1] at hb
      subst hb
      go_enter Tryd.func54, Tryd.ntmps54
      go_wp2_with (go_at_call 17; refine (sSetValid_any _ A n c ts H.out hn).mono ?_; rintro e w2 ⟨rfl, hb2⟩)
      go_ret
      exact ⟨by simp [*], hb2⟩
  · rw [decide_eq_false h0] at hb
    subst hb
    go_enter Tryd.func54, Tryd.ntmps54
    go_wp2_with (go_at_call 17; refine (sSetValid_any _ A n c ts H.out hn).mono ?_; rintro e w2 ⟨rfl, hb2⟩)
    go_ret
    exact ⟨by simp [*], hb2⟩

set_option maxRecDepth 100000 in
set_option maxHeartbeats 2000000 in
theorem sRLow_is (w : World) (A : Option Addr) (n c : Nat) (ts : List Tk) (a : Int) (h : Tks w w.heap.size A n ts) (hn : n ≤ 1048576) (v : Nat) (b : Bool) (hv : resN (atI (rLow ts) a) = (v, b)) :
    Calls Tryd.prog 41 #[.slice A n c, .int .i64 a] w (NbRes v b w) := by
  have H := Lib.hid h
  have HL := Lib.hid h.len
  clear h
  cases hh : (setB ts && (decide (0 ≤ a) && decide (a < (n : Int))))
  · have hr : atI (rLow ts) a = none := by
      unfold atI
      split
      · rename_i h0
        cases hs : setB ts
        · exact rLow_bad _ hs
        · rw [hs, Bool.true_and, decide_eq_true h0, Bool.true_and] at hh
          have h1 : ¬ a < (n : Int) := of_decide_eq_false hh
          exact rLow_past (List.getElem?_eq_none (by have := HL.out; omega))
      · rfl
    rw [hr] at hv
    obtain ⟨rfl, rfl⟩ := Prod.mk.inj hv
    have HH := Lib.hid hh
    clear hr hv hh
    go_enter Tryd.func41, Tryd.ntmps41
    go_wp2_with (go_at_call 54; refine (sAt_is _ A n c ts a H.out hn false HH.out).mono ?_; rintro e w1 ⟨rfl, hb⟩)
    go_ret2
    exact ⟨rfl, hb⟩
  have HH := Lib.hid hh
  rw [Bool.and_eq_true, Bool.and_eq_true, decide_eq_true_iff, decide_eq_true_iff] at hh
  obtain ⟨hs, h0, h1⟩ := hh
  obtain ⟨k, rfl⟩ := Int.eq_ofNat_of_zero_le h0
  have hk : k < n := by omega
  obtain ⟨t, ht⟩ := get_at HL.out hk
  have hr : atI (rLow ts) (k : Int) = respOf (ts.take k) t.lo.toNat t.du.toNat := by
    unfold atI; rw [if_pos h0]; exact rLow_at hs ht
  rw [hr] at hv
  have hok := ok_parts (set_ok hs (get_mem ht))
  have HSS := Lib.hid hs
  have HS := Lib.hid (set_take hs k)
  have HT := Lib.hid ht
  have HV := Lib.hid hv
  clear hr hv hs
  obtain ⟨bb, o, rfl, hbl, _⟩ := H.out.at_ k _ ht
  clear ht
  obtain ⟨lo, hi, du, ev, cr⟩ := t
  dsimp only at hok HV
  obtain ⟨p1, p2, p3, p4, p5, _⟩ := hok
  obtain ⟨lo, rfl⟩ := Int.eq_ofNat_of_zero_le (show 0 ≤ lo by omega)
  obtain ⟨du, rfl⟩ := Int.eq_ofNat_of_zero_le (show 0 ≤ du by omega)
  have HV' : Hid (resN (leastN (fun y => lo + dLow (ts.take k) y) lo du) = (v, b)) := HV.out
  go_enter Tryd.func41, Tryd.ntmps41
  go_wp2_with fail
  refine (sAt_is _ _ n c ts (k : Int) H.out hn true HH.out).mono ?_
  rintro e w1 ⟨rfl, hb⟩
  have HB1 := Lib.hid hb
  have hsz := hb.size
  have C1 := (Tks.get (H.out.below hb) HT.out).2
  have c0 := C1.c0
  clear C1 hb
  have i1 : (k : Int) < (n : Int) := h1
  go_wp2
  go_loopw [6] (fun i wr => ∃ x : Nat, i = .int .i64 x ∧ x ≤ 1000000 ∧ Hid (NoneBelow (fun y => lo + dLow (ts.take k) y) lo x) ∧ Below w.heap.size w wr) (fun i _ => du + 1 - (intOf i).toNat)
  case atStart => exact ⟨lo, rfl, by omega, none_start _ lo, HB1.out⟩
  case round =>
    obtain ⟨x, rfl, hx, HN, hb⟩ := hrel
    have HB := Lib.hid hb
    have hsz2 := hb.size
    have C2 := (Tks.get (H.out.below hb) HT.out).2
    have d0 := C2.c0
    have d2 := C2.c2
    dsimp only at d0 d2
    clear C2 hb
    by_cases hxd : x ≤ du
    · have hxd' : (x : Int) ≤ (du : Int) := by omega
      go_wp2
      go_loopw [7, 8] (fun s i wr => ∃ j m : Nat, j ≤ k ∧ i = .int .i64 j ∧ s = .int .i64 (m : Int) ∧ Hid (m = lo + dLow (ts.take j) x) ∧ Below w.heap.size w wr) (fun _ i _ => k - (intOf i).toNat)
      case atStart => exact ⟨0, lo, Nat.zero_le _, rfl, rfl, (show lo = _ by simp [dLow]), HB.out⟩
      case round =>
        obtain ⟨j, m, hj, rfl, rfl, HM, hb3⟩ := hrel
        have HB3 := Lib.hid hb3
        have hsz3 := hb3.size
        clear hb3
        by_cases hjk : j < k
        · obtain ⟨u, hu⟩ := get_at HL.out (show j < n by omega)
          have C3 := (Tks.get (H.out.below HB3.out) hu).2
          have HVu := Lib.hid (set_ok HSS.out (get_mem hu))
          have HTu := Lib.hid (dLow_take hu x)
          have hb1 := dLow_bound (set_take HSS.out j) x
          have hb2 := dmd_bound HVu.out x false
          obtain ⟨d, hd⟩ : ∃ d, dmd u x false = d := ⟨_, rfl⟩
          rw [hd] at hb2
          have hm1 : m ≤ lo + 100 * (x + 20) := by rw [HM.out]; omega
          have HM' : Hid (m + d = lo + dLow (ts.take (j + 1)) x) := by show _ = _; rw [HTu.out, hd, HM.out]; omega
          have HD := Lib.hid hd
          clear hd hu HTu hb1
          obtain ⟨lo', hi', du', ev', cr'⟩ := u
          obtain ⟨g0, g1, g2, g3, g4⟩ := C3
          dsimp only at g0 g1 g2 g3 g4
          have i2 : (j : Int) < (n : Int) := by omega
          go_wp2_with (go_at_call 30; refine (sDemand_is _ lo' hi' du' ev' cr' x false d HVu.out (by omega) HD.out).mono ?_; rintro e w2 ⟨rfl, rfl⟩)
          go_roundw
          case rel => exact ⟨j + 1, m + d, by omega, by go_num, by go_num, HM', bl_alloc HB3.out _⟩
          case measure => simp [intOf]; omega
        · obtain rfl : j = k := by omega
          have hmb : m ≤ lo + 100 * (x + 20) := by have := dLow_bound HS.out x; rw [HM.out]; omega
          by_cases he : m = x
          · have hei : (m : Int) = (x : Int) := by omega
            obtain ⟨rfl, rfl⟩ : x = v ∧ true = b := Prod.mk.inj (by rw [← HV'.out, least_hit HN.out hxd (by rw [← he]; exact (by rw [he]; exact HM.out.symm.trans he))]; rfl)
            go_wp2
            go_ret2
            exact ⟨rfl, HB3.out⟩
          · have hei : ¬ (m : Int) = (x : Int) := by omega
            have hnx := none_step (resp_mono (ts.take j) lo) (fun y _ => Nat.le_add_right lo (dLow (ts.take j) y)) HN.out
            have hlt := none_le (resp_mono (ts.take j) lo) (fun y _ => Nat.le_add_right lo (dLow (ts.take j) y)) HN.out
            have hnm : Hid (NoneBelow (fun y => lo + dLow (ts.take j) y) lo m) := by show NoneBelow _ _ _; rw [HM.out]; exact hnx
            have hlm : x ≤ m := by rw [HM.out]; exact hlt
            clear hnx hlt
            go_wp2
            go_roundw
            case rel => exact ⟨m, rfl, by omega, hnm, HB3.out⟩
            case measure => simp [intOf]; omega
    · have hxd' : ¬ (x : Int) ≤ (du : Int) := by omega
      obtain ⟨rfl, rfl⟩ : 0 = v ∧ false = b := Prod.mk.inj (by rw [← HV'.out, least_past HN.out (by omega)]; rfl)
      go_wp2
      go_ret2
      exact ⟨rfl, HB.out⟩
end

section
/- Critical tasks as plain data, and what busy times are (no program text). -/
set_option linter.unusedVariables false

/-- A task with its high need alone. -/
def Tk.up (t : Tk) : Tk := ⟨t.hi, t.hi, t.du, t.ev, t.cr⟩
theorem up_ok {t : Tk} (h : t.ok = true) : t.up.ok = true := by
  obtain ⟨h1, h2, h3, h4, h5, h6⟩ := ok_parts h
  unfold Tk.ok validB Tk.up
  simp only [Bool.and_eq_true, decide_eq_true_iff, Bool.or_eq_true, beq_iff_eq]
  exact ⟨by omega, by omega, h3, h4, h5, .inr (by first | trivial | rfl)⟩
theorem critL_eq (ts : List Tk) : critL ts = (ts.filter Tk.cr).map Tk.up := rfl
theorem crit_app (xs ys : List Tk) : critL (xs ++ ys) = critL xs ++ critL ys := by rw [critL_eq, critL_eq, critL_eq, List.filter_append, List.map_append]
theorem crit_split (ts : List Tk) (k : Nat) : critL ts = critL (ts.take k) ++ critL (ts.drop k) := by rw [← crit_app, List.take_append_drop]
theorem crit_sub {xs ys : List Tk} (h : xs.Sublist ys) : (critL xs).Sublist (critL ys) := (h.filter _).map _
theorem set_crit {ts : List Tk} (h : setB ts = true) : setB (critL ts) = true := by
  refine set_of (Nat.le_trans (critL_len ts) (setB_len h)) fun t ht => ?_
  rw [critL_eq, List.mem_map] at ht
  obtain ⟨u, hu, rfl⟩ := ht
  exact up_ok (set_ok h (List.mem_filter.1 hu).1)
theorem crit_all {ts : List Tk} {t : Tk} (h : t ∈ critL ts) : t.cr = true := by
  rw [critL_eq, List.mem_map] at h
  obtain ⟨u, hu, rfl⟩ := h
  exact (List.mem_filter.1 hu).2
theorem drop_at' {ts : List Tk} {k : Nat} {t : Tk} (h : ts[k]? = some t) : ts.drop k = t :: ts.drop (k + 1) := by
  obtain ⟨hk, rfl⟩ := List.getElem?_eq_some_iff.1 h
  exact List.drop_eq_getElem_cons hk
/-- Where a critical task stands among the critical ones. -/
theorem crit_at {ts : List Tk} {k : Nat} {t : Tk} (h : ts[k]? = some t) (hc : t.cr = true) : (critL ts)[(critL (ts.take k)).length]? = some t.up := by
  rw [crit_split ts k, List.getElem?_append_right (Nat.le_refl _), Nat.sub_self, drop_at' h, critL_eq]
  simp [hc]
theorem crit_take {ts : List Tk} (k : Nat) : (critL ts).take (critL (ts.take k)).length = critL (ts.take k) := by
  rw [crit_split ts k, List.take_left]
theorem critOf_set {ts : List Tk} (h : setB ts = true) : critOf ts = critL ts := by unfold critOf; rw [if_pos h]
theorem rHigh_is {ts : List Tk} {k : Nat} {t : Tk} (hs : setB ts = true) (h : ts[k]? = some t) (hc : t.cr = true) : rHigh ts k = respOf (critL (ts.take k)) t.hi.toNat t.du.toNat := by
  rw [rHigh_at hs h hc, rLow_at (set_crit hs) (crit_at h hc), crit_take]; rfl

/-- What critical tasks need with their high needs. -/
theorem dmd_up (t : Tk) (w : Nat) : dmd t.up w false = dmd t w true := rfl
theorem dCrit_sum (ts : List Tk) (w : Nat) : dLow (critL ts) w = (ts.map fun t => if t.cr then dmd t w true else 0).sum := by
  induction ts with
  | nil => rfl
  | cons t ts ih =>
    rw [critL_eq, List.filter_cons]
    cases hc : t.cr
    · rw [if_neg (by decide), ← critL_eq, ih]; simp [hc]
    · rw [if_pos rfl, List.map_cons]
      have : dLow (t.up :: critL ts) w = dmd t.up w false + dLow (critL ts) w := by simp [dLow]
      rw [critL_eq] at this
      rw [this, ← critL_eq, ih, dmd_up]; simp [hc]
/-- What tasks need: at least what the critical ones need. -/
theorem dCrit_le (ts : List Tk) (l w : Nat) : dLow (critL ts) w ≤ dSwi ts l w := by
  rw [dCrit_sum]
  refine sum_le fun t _ => ?_
  unfold dmS
  split
  · exact Nat.le_refl _
  · exact Nat.zero_le _
theorem dLow_pos {ts : List Tk} (hs : setB ts = true) (hn : ts ≠ []) {w : Nat} (hw : 1 ≤ w) : 1 ≤ dLow ts w := by
  cases ts with
  | nil => exact absurd rfl hn
  | cons t ts =>
    have h := ok_parts (set_ok hs (List.mem_cons_self ..))
    have h1 : t.lo.toNat ≤ dmd t w false := dem_pos (by omega) (by omega) hw
    have : dLow (t :: ts) w = dmd t w false + dLow ts w := by simp [dLow]
    omega
theorem bLow_bad {ts : List Tk} (h : setB ts = false) : bLow ts = none := by unfold bLow; rw [h]; rfl
theorem bLow_nil : bLow [] = none := rfl
theorem bLow_is {ts : List Tk} (hs : setB ts = true) (hn : ts ≠ []) : bLow ts = leastN (dLow ts) 1 (lcmL ts) := by
  unfold bLow; rw [hs]
  cases ts with
  | nil => exact absurd rfl hn
  | cons t ts => rfl
theorem lcmL_le {ts : List Tk} (hs : setB ts = true) : 1 ≤ lcmL ts ∧ lcmL ts ≤ 3200000 := by
  have := lcmL_bound hs ts.length
  rwa [List.take_length] at this
end

section
/- Contracts of ResponseHigh, in the program and in the reference. Nothing that was there is written. -/
open Go.RowKit
set_option linter.unusedVariables false

theorem own_le {w : World} {B c : Nat} {A : Option Addr} {ts : List Tk} (h : Own w B (.slice A ts.length c) ts) : ts.length ≤ c := by
  rcases h.2 with ⟨e, h0⟩ | ⟨g, cap, cur, e, _, _, h1, h2, _⟩
  · omega
  · injection e with e1 e2 e3
    subst e3
    exact h1
theorem has_no {ts : List Tk} {n : Nat} {a : Int} (hl : ts.length = n) (h : (setB ts && (decide (0 ≤ a) && decide (a < (n : Int)))) = false) (f : Nat → Option Nat) (hb : ∀ k, setB ts = false → f k = none) (hp : ∀ k, ts[k]? = none → f k = none) : atI f a = none := by
  unfold atI
  split
  · rename_i h0
    cases hs : setB ts
    · exact hb _ hs
    · rw [hs, Bool.true_and, decide_eq_true h0, Bool.true_and] at h
      have h1 : ¬ a < (n : Int) := of_decide_eq_false h
      exact hp _ (List.getElem?_eq_none (by omega))
  · rfl
end

section
/- What the walks of chapter 3's laws share (no program text). -/
open Go.RowKit
set_option linter.unusedVariables false

theorem tks_to {w1 W : World} {A : Option Addr} {n : Nat} {ts : List Tk} (h : Tks w1 w1.heap.size A n ts) (hb : Below w1.heap.size w1 W) : Tks W W.heap.size A n ts := (h.below hb).more hb.size
theorem res_false {o : Option Nat} {v : Nat} (h : resN o = (v, false)) : o = none ∧ 0 = v := by
  cases o with
  | none => exact ⟨rfl, (Prod.mk.inj h).1⟩
  | some x => cases (Prod.mk.inj h).2
theorem res_true {o : Option Nat} {v : Nat} (h : resN o = (v, true)) : o = some v := by
  cases o with
  | none => cases (Prod.mk.inj h).2
  | some x => rw [← (Prod.mk.inj h).1]; rfl
theorem at_some {f : Nat → Option Nat} {a : Int} {v : Nat} (h : atI f a = some v) : ∃ k : Nat, a = (k : Int) ∧ f k = some v := by
  unfold atI at h
  split at h
  · rename_i h0
    obtain ⟨k, rfl⟩ := Int.eq_ofNat_of_zero_le h0
    exact ⟨k, rfl, h⟩
  · cases h
theorem at_nat (f : Nat → Option Nat) (k : Nat) : atI f (k : Int) = f k := by unfold atI; rw [if_pos (by omega)]; rfl
/-- A task that responds. -/
theorem rLow_some {ts : List Tk} {k v : Nat} (h : rLow ts k = some v) : setB ts = true ∧ ∃ t, ts[k]? = some t ∧ respOf (ts.take k) t.lo.toNat t.du.toNat = some v := by
  cases hs : setB ts
  · rw [rLow_bad k hs] at h; cases h
  · cases ht : ts[k]? with
    | none => rw [rLow_past ht] at h; cases h
    | some t =>
      rw [rLow_at hs ht] at h
      exact ⟨rfl, t, rfl, h⟩
theorem resp_fix {xs : List Tk} {n d v : Nat} (h : respOf xs n d = some v) : n + dLow xs v = v ∧ n ≤ v ∧ v ≤ d ∧ ∀ x, n ≤ x → x < v → x < n + dLow xs x := by
  obtain ⟨h1, h2, _, h4⟩ := least_some.1 h
  exact ⟨least_fix (resp_mono xs n) (fun x _ => Nat.le_add_right _ _) h, h1, h2, h4⟩
theorem rHigh_some {ts : List Tk} {k v : Nat} (h : rHigh ts k = some v) : setB ts = true ∧ ∃ t, ts[k]? = some t ∧ t.cr = true ∧ respOf (critL (ts.take k)) t.hi.toNat t.du.toNat = some v := by
  cases hs : setB ts
  · rw [rHigh_bad k hs] at h; cases h
  · cases ht : ts[k]? with
    | none => rw [rHigh_past ht] at h; cases h
    | some t =>
      cases hc : t.cr
      · rw [rHigh_not ht hc] at h; cases h
      · rw [rHigh_is hs ht hc] at h
        exact ⟨rfl, t, rfl, hc, h⟩
/-- The demand of a valid task in a window that is no longer than may be. -/
theorem dm_ok {t : Tk} {x m : Nat} {hb : Bool} (h : t.ok = true) (hx : x ≤ 1000000) (hm : dmd t x hb = m) : dmOf t (x : Int) hb = (m, true) := by
  unfold dmOf
  rw [h, decide_eq_true (show (0 : Int) ≤ x by omega), decide_eq_true (show (x : Int) ≤ 1000000 by omega), ← hm]; rfl
theorem task_nat {t : Tk} (h : t.ok = true) : ∃ (a b d e : Nat) (c : Bool), t = ⟨a, b, d, e, c⟩ ∧ 1 ≤ a ∧ a ≤ b ∧ b ≤ d ∧ d ≤ e ∧ e ≤ 20 := by
  obtain ⟨h1, h2, h3, h4, h5, _⟩ := ok_parts h
  obtain ⟨lo, hi, du, ev, cr⟩ := t
  dsimp only at h1 h2 h3 h4 h5
  obtain ⟨a, rfl⟩ := Int.eq_ofNat_of_zero_le (show 0 ≤ lo by omega)
  obtain ⟨b, rfl⟩ := Int.eq_ofNat_of_zero_le (show 0 ≤ hi by omega)
  obtain ⟨d, rfl⟩ := Int.eq_ofNat_of_zero_le (show 0 ≤ du by omega)
  obtain ⟨e, rfl⟩ := Int.eq_ofNat_of_zero_le (show 0 ≤ ev by omega)
  exact ⟨a, b, d, e, cr, rfl, by omega, by omega, by omega, by omega, by omega⟩
theorem own_at0 {w : World} {B c : Nat} {A : Option Addr} {ts : List Tk} (h : Own w B (.slice A ts.length c) ts) (hl : 1 ≤ ts.length) : ∃ g, A = some ⟨g, 0, none⟩ := by
  rcases h.2 with ⟨e, h0⟩ | ⟨g, cap, cur, e, _, _, h1, h2, _⟩
  · omega
  · injection e with e1 e2 e3
    exact ⟨g, e1⟩
end

section
/- Contracts of what tells whether tasks hold, in the program and in the reference. Nothing that was there is written. -/
open Go.RowKit
set_option linter.unusedVariables false

def BoRes (b : Bool) (w : World) (e : Ending) (w' : World) : Prop := e = .returned (.bool b) ∧ Below w.heap.size w w'
theorem res_some (o : Option Nat) : resN o = (o.getD 0, o.isSome) := rfl

set_option maxHeartbeats 1000000 in
theorem sLowAt_is (w : World) (A : Option Addr) (n c : Nat) (ts : List Tk) (k : Nat) (h : Tks w w.heap.size A n ts) (hn : n ≤ 1048576) (b : Bool) (hv : (rLow ts k).isSome = b) :
    Calls Tryd.prog 18 #[.slice A n c, .int .i64 (k : Int)] w (BoRes b w) := by
  have H := Lib.hid h
  clear h
  obtain ⟨v, hvv⟩ : ∃ v, resN (atI (rLow ts) (k : Int)) = (v, b) := ⟨_, by rw [at_nat, res_some, hv]⟩
  have HV := Lib.hid hvv
  clear hv hvv
  go_enter Tryd.func18, Tryd.ntmps18
  go_wp2_with (go_at_call 41; refine (sRLow_is _ A n c ts (k : Int) H.out hn v b HV.out).mono ?_; rintro e w1 ⟨rfl, hb⟩)
  go_ret
  exact ⟨rfl, hb⟩

set_option maxHeartbeats 2000000 in
theorem iHLow_is (w : World) (A : Option Addr) (n c : Nat) (ts : List Tk) (h : Tks w w.heap.size A n ts) (hn : n ≤ 1048576) (hnc : n ≤ c) (b : Bool) (hv : hLow ts = b) :
    Calls Tryd.prog 6 #[.slice A n c] w (BoRes b w) := by
  have H := Lib.hid h
  have HL := Lib.hid h.len
  clear h
  cases hs : setB ts
  · obtain rfl : false = b := by rw [← hv]; exact (hLow_bad hs).symm
    clear hv
    go_enter Tryd.func6, Tryd.ntmps6
    go_wp2_with (go_at_call 14; refine (iSetValid_any _ A n c ts H.out hn).mono ?_; rintro e w1 ⟨rfl, hb⟩)
    go_ret
    exact ⟨rfl, hb⟩
  have HS := Lib.hid hs
  have HV := Lib.hid hv
  clear hs hv
  go_enter Tryd.func6, Tryd.ntmps6
  go_wp2_with fail
  refine (iSetValid_any _ A n c ts H.out hn).mono ?_
  rintro e w1 ⟨rfl, hb⟩
  rw [HS.out]
  have HB1 := Lib.hid hb
  clear hb
  go_wp2
  go_loopw [11] (fun i wr => ∃ k : Nat, k ≤ n ∧ i = .int .i64 k ∧ Hid (∀ j, j < k → (rLow ts j).isSome = true) ∧ Below w.heap.size w wr) (fun i _ => n - (intOf i).toNat)
  case atStart => exact ⟨0, Nat.zero_le _, rfl, (show ∀ j, j < 0 → _ from fun j hj => absurd hj (Nat.not_lt_zero _)), HB1.out⟩
  case round =>
    obtain ⟨k, hk, rfl, HA, hb⟩ := hrel
    have HB := Lib.hid hb
    clear hb
    by_cases hlt : k < n
    · have hlti : (k : Int) < (n : Int) := by omega
      have hkl : k < ts.length := by rw [HL.out]; exact hlt
      obtain ⟨p, hp⟩ : ∃ p, (rLow ts k).isSome = p := ⟨_, rfl⟩
      have HP := Lib.hid hp
      obtain ⟨x, hx⟩ : ∃ x, resN (atI (rLow ts) (k : Int)) = (x, p) := ⟨_, by rw [at_nat, res_some, hp]⟩
      have HX := Lib.hid hx
      clear hx
      clear hp
      go_wp2_with fail
      refine (iRLow_is _ A n c ts (k : Int) ((H.out.below HB.out).more HB.out.size) hn hnc x p HX.out).mono ?_
      rintro e w3 ⟨rfl, hb⟩
      have HB3 := Lib.hid (bl_trans HB.out hb)
      clear hb
      cases p
      · obtain rfl : false = b := by rw [← HV.out]; exact (hLow_no hkl (by have := HP.out; cases ho : rLow ts k <;> simp_all)).symm
        go_wp2
        go_ret
        exact ⟨rfl, HB3.out⟩
      · have HA' : Hid (∀ j, j < k + 1 → (rLow ts j).isSome = true) := by
          show ∀ j, j < k + 1 → _
          intro j hj
          rcases Nat.lt_or_ge j k with h | h
          · exact HA.out j h
          · obtain rfl : j = k := by omega
            exact HP.out
        go_wp2
        go_roundw
        case rel => exact ⟨k + 1, by omega, by go_num, HA', HB3.out⟩
        case measure => simp [intOf]; omega
    · obtain rfl : k = n := by omega
      obtain rfl : true = b := by rw [← HV.out]; exact (hLow_iff.2 ⟨HS.out, fun j hj => HA.out j (by rw [← HL.out]; exact hj)⟩).symm
      go_wp2
      go_ret
      exact ⟨rfl, HB.out⟩

set_option maxHeartbeats 2000000 in
theorem sHLow_is (w : World) (A : Option Addr) (n c : Nat) (ts : List Tk) (h : Tks w w.heap.size A n ts) (hn : n ≤ 1048576) (b : Bool) (hv : hLow ts = b) :
    Calls Tryd.prog 7 #[.slice A n c] w (BoRes b w) := by
  have H := Lib.hid h
  have HL := Lib.hid h.len
  clear h
  cases hs : setB ts
  · obtain rfl : false = b := by rw [← hv]; exact (hLow_bad hs).symm
    clear hv
    by_cases hn0 : n = 0
    · subst hn0
      obtain rfl : ts = [] := List.eq_nil_of_length_eq_zero HL.out
      cases hs
    have hni : (0 : Int) < (n : Int) := by omega
    go_enter Tryd.func7, Tryd.ntmps7
    go_wp2
    refine wp_loop_rounds 1 ?_
    rw [rounds_succ]
    go_wp2_with fail
    refine (sSetValid_any _ A n c ts H.out hn).mono ?_
    rintro e w1 ⟨rfl, hb⟩
    rw [hs]
    have HB1 := Lib.hid hb
    clear hb
    go_wp2_with fail
    refine (sSetValid_any _ A n c ts ((H.out.below HB1.out).more HB1.out.size) hn).mono ?_
    rintro e w2 ⟨rfl, hb⟩
    rw [hs]
    have HB2 := Lib.hid (bl_trans HB1.out hb)
    clear hb
    go_wp2
    go_ret
    exact ⟨rfl, HB2.out⟩
  have HS := Lib.hid hs
  have HV := Lib.hid hv
  clear hs hv
  go_enter Tryd.func7, Tryd.ntmps7
  go_wp2
  go_loopw [3] (fun i wr => ∃ k : Nat, k ≤ n ∧ i = .int .i64 k ∧ Hid (∀ j, j < k → (rLow ts j).isSome = true) ∧ Below w.heap.size w wr) (fun i _ => n - (intOf i).toNat)
  case atStart => exact ⟨0, Nat.zero_le _, rfl, (show ∀ j, j < 0 → _ from fun j hj => absurd hj (Nat.not_lt_zero _)), Below.refl _ _⟩
  case round =>
    obtain ⟨k, hk, rfl, HA, hb⟩ := hrel
    have HB := Lib.hid hb
    clear hb
    by_cases hlt : k < n
    · have hlti : (k : Int) < (n : Int) := by omega
      have hkl : k < ts.length := by rw [HL.out]; exact hlt
      go_wp2_with fail
      refine (sSetValid_any _ A n c ts ((H.out.below HB.out).more HB.out.size) hn).mono ?_
      rintro e w2 ⟨rfl, hb⟩
      rw [HS.out]
      have HB2 := Lib.hid (bl_trans HB.out hb)
      clear hb
      obtain ⟨p, hp⟩ : ∃ p, (rLow ts k).isSome = p := ⟨_, rfl⟩
      have HP := Lib.hid hp
      clear hp
      go_wp2_with fail
      refine (sLowAt_is _ A n c ts k ((H.out.below HB2.out).more HB2.out.size) hn p HP.out).mono ?_
      rintro e w3 ⟨rfl, hb⟩
      have HB3 := Lib.hid (bl_trans HB2.out hb)
      clear hb
      cases p
      · obtain rfl : false = b := by rw [← HV.out]; exact (hLow_no hkl (by have := HP.out; cases ho : rLow ts k <;> simp_all)).symm
        go_wp2
        go_ret
        exact ⟨rfl, HB3.out⟩
      · have HA' : Hid (∀ j, j < k + 1 → (rLow ts j).isSome = true) := by
          show ∀ j, j < k + 1 → _
          intro j hj
          rcases Nat.lt_or_ge j k with h | h
          · exact HA.out j h
          · obtain rfl : j = k := by omega
            exact HP.out
        go_wp2
        go_roundw
        case rel => exact ⟨k + 1, by omega, by go_num, HA', HB3.out⟩
        case measure => simp [intOf]; omega
    · obtain rfl : k = n := by omega
      obtain rfl : true = b := by rw [← HV.out]; exact (hLow_iff.2 ⟨HS.out, fun j hj => HA.out j (by rw [← HL.out]; exact hj)⟩).symm
      go_wp2_with fail
      refine (sSetValid_any _ A k c ts ((H.out.below HB.out).more HB.out.size) hn).mono ?_
      rintro e w2 ⟨rfl, hb⟩
      rw [HS.out]
      have HB2 := Lib.hid (bl_trans HB.out hb)
      clear hb
      go_wp2
      go_ret
      exact ⟨rfl, HB2.out⟩
end

section
/- Contracts of BusyLow, in the program and in the reference. Nothing that was there is written. -/
open Go.RowKit
set_option linter.unusedVariables false

set_option maxHeartbeats 1000000 in
theorem iCloBusy_is (w : World) (Bs : Nat) (A : Option Addr) (n c : Nat) (ts : List Tk) (hS : w.cell? ⟨Bs, 0, none⟩ = some (.slice A n c)) (hTs : Tks w w.heap.size A n ts) (hs : setB ts = true) (x m : Nat) (hx : x ≤ 10000000) (hm : dLow ts x = m) :
    Calls Tryd.prog 27 #[.int .i64 (x : Int), .pointer (some ⟨Bs, 0, none⟩)] w (NumIs m w) := by
  have H := Lib.hid hTs
  have HS := Lib.hid hs
  have HM := Lib.hid hm
  clear hTs hs hm
  go_enter Tryd.func27, Tryd.ntmps27
  go_wp2_with (go_at_call 28; refine (iDemLow_is _ A n c ts H.out HS.out x m hx HM.out).mono ?_; rintro e w2 ⟨rfl, hb⟩)
  go_ret
  exact ⟨rfl, hb⟩
theorem cloBusy_next (w : World) (Bs : Nat) (A : Option Addr) (n c : Nat) (ts : List Tk) (lo hi : Nat) (hS : Blk w Bs 23 #[.slice A n c]) (hTs : Tks w w.heap.size A n ts) (hs : setB ts = true) (hdu : hi ≤ 10000000) :
    NextIs 27 #[.pointer (some ⟨Bs, 0, none⟩)] (dLow ts) lo hi w := fun W x h1 h2 hb =>
  iCloBusy_is W Bs A n c ts ((hb.cell (p := ⟨Bs, 0, none⟩) hS.lt).trans (hS.cell 0)) ((hTs.below hb).more hb.size) hs x _ (by omega) rfl

set_option maxRecDepth 100000 in
set_option maxHeartbeats 2000000 in
theorem iBusy_is (w : World) (A : Option Addr) (n c : Nat) (ts : List Tk) (h : Tks w w.heap.size A n ts) (hn : n ≤ 1048576) (v : Nat) (b : Bool) (hv : resN (bLow ts) = (v, b)) :
    Calls Tryd.prog 12 #[.slice A n c] w (NbRes v b w) := by
  have H := Lib.hid h
  have HL := Lib.hid h.len
  clear h
  by_cases h0 : n = 0
  · subst h0
    obtain rfl : ts = [] := List.eq_nil_of_length_eq_zero HL.out
    obtain ⟨rfl, rfl⟩ := Prod.mk.inj hv
    go_enter Tryd.func12, Tryd.ntmps12
    go_wp2
    go_ret2
    exact ⟨rfl, bl_alloc (Below.refl _ _) _⟩
  have hne : ts ≠ [] := by rintro rfl; exact h0 HL.out.symm
  have hi0 : ¬ (n : Int) = 0 := by omega
  have bS0 := Blk.new w 23 #[.slice A n c]
  have cS0 := bS0.cell
  cases hs : setB ts
  · rw [bLow_bad hs] at hv
    obtain ⟨rfl, rfl⟩ := Prod.mk.inj hv
    clear hv
    go_enter Tryd.func12, Tryd.ntmps12
    go_wp2_with (go_at_call 14; refine (iSetValid_any _ A n c ts ((H.out.below (bl_alloc (Below.refl w.heap.size w) _)).more (by simp)) hn).mono ?_; rintro e w1 ⟨rfl, hb⟩)
    go_ret2
    exact ⟨rfl, bl_trans (bl_alloc (Below.refl _ _) _) hb⟩
  rw [bLow_is hs hne] at hv
  have HV := Lib.hid hv
  have HS := Lib.hid hs
  have HNE : Hid (ts ≠ []) := hne
  obtain ⟨l1, l2⟩ := lcmL_le hs
  have hhy : hyperOf ts = lcmL ts := by simp [hyperOf, hs]
  have HY := Lib.hid hhy
  clear hv hs hne hhy
  go_enter Tryd.func12, Tryd.ntmps12
  go_wp2_with fail
  refine (iSetValid_any _ A n c ts ((H.out.below (bl_alloc (Below.refl w.heap.size w) _)).more (by simp)) hn).mono ?_
  rintro e w1 ⟨rfl, hb⟩
  rw [HS.out]
  have HB1 := Lib.hid (show Below w.heap.size w w1 from bl_trans (bl_alloc (Below.refl _ _) _) hb)
  have bS1 := Lib.hid (show Blk w1 w.heap.size 23 #[.slice A n c] from bS0.below hb bS0.lt)
  have cS1 := bS1.out.cell
  clear hb
  go_wp2_with fail
  refine (iHyperOf_any w1 A n c ts ((H.out.below HB1.out).more HB1.out.size) hn).mono ?_
  rintro e w2 ⟨rfl, hb⟩
  rw [HY.out]
  have HB2 := Lib.hid (bl_trans HB1.out hb)
  have bS2 := Lib.hid (show Blk w2 w.heap.size 23 #[.slice A n c] from bS1.out.below hb bS1.out.lt)
  clear hb cS1
  go_wp2_with fail
  refine (iLeast_is w2 1 (lcmL ts) 27 _ (dLow ts) v b HV.out (fun x y hxy => dLow_mono ts hxy) (fun x hx => dLow_pos HS.out HNE.out hx) (fun x hx => by have := dLow_bound HS.out x; omega) (by omega) (by omega) (fun _ _ => rfl) (cloBusy_next w2 _ A n c ts 1 _ bS2.out ((H.out.below HB2.out).more HB2.out.size) HS.out (by omega))).mono ?_
  rintro e w3 ⟨rfl, hb⟩
  go_wp2
  go_ret2
  exact ⟨rfl, bl_trans HB2.out hb⟩

set_option maxRecDepth 100000 in
set_option maxHeartbeats 2000000 in
theorem sBusy_is (w : World) (A : Option Addr) (n c : Nat) (ts : List Tk) (h : Tks w w.heap.size A n ts) (hn : n ≤ 1048576) (v : Nat) (b : Bool) (hv : resN (bLow ts) = (v, b)) :
    Calls Tryd.prog 13 #[.slice A n c] w (NbRes v b w) := by
  have H := Lib.hid h
  have HL := Lib.hid h.len
  clear h
  cases hs : setB ts
  · rw [bLow_bad hs] at hv
    obtain ⟨rfl, rfl⟩ := Prod.mk.inj hv
    clear hv
    go_enter Tryd.func13, Tryd.ntmps13
    go_wp2_with (go_at_call 17; refine (sSetValid_any _ A n c ts H.out hn).mono ?_; rintro e w1 ⟨rfl, hb⟩)
    go_ret2
    exact ⟨rfl, hb⟩
  by_cases h0 : n = 0
  · subst h0
    obtain rfl : ts = [] := List.eq_nil_of_length_eq_zero HL.out
    obtain ⟨rfl, rfl⟩ := Prod.mk.inj hv
    go_enter Tryd.func13, Tryd.ntmps13
    go_wp2_with (go_at_call 17; refine (sSetValid_any _ A 0 c [] H.out hn).mono ?_; rintro e w1 ⟨rfl, hb⟩)
    go_ret2
    exact ⟨rfl, hb⟩
  have hne : ts ≠ [] := by rintro rfl; exact h0 HL.out.symm
  have hi0 : ¬ (n : Int) = 0 := by omega
  have hib : ((n : Int) == 0) = false := by simpa using hi0
  rw [bLow_is hs hne] at hv
  have HV := Lib.hid hv
  have HS := Lib.hid hs
  have HNE : Hid (ts ≠ []) := hne
  obtain ⟨l1, l2⟩ := lcmL_le hs
  have hhy : hyperOf ts = lcmL ts := by simp [hyperOf, hs]
  have HY := Lib.hid hhy
  clear hv hs hne hhy
  go_enter Tryd.func13, Tryd.ntmps13
  go_wp2_with fail
  refine (sSetValid_any _ A n c ts H.out hn).mono ?_
  rintro e w1 ⟨rfl, hb⟩
  rw [HS.out]
  have HB1 := Lib.hid hb
  clear hb
  go_wp2
  go_loopw [4] (fun i wr => ∃ x : Nat, i = .int .i64 x ∧ x ≤ 1000000000000 ∧ Hid (NoneBelow (dLow ts) 1 x) ∧ Below w.heap.size w wr) (fun i _ => lcmL ts + 1 - (intOf i).toNat)
  case atStart => exact ⟨1, rfl, by omega, none_start _ 1, HB1.out⟩
  case round =>
    obtain ⟨x, rfl, hx, HN, hb⟩ := hrel
    have HB := Lib.hid hb
    clear hb
    by_cases hxd : x ≤ lcmL ts
    · have hxd' : (x : Int) ≤ (lcmL ts : Int) := by omega
      go_wp2_with fail
      refine (sHyperOf_any wr A n c ts ((H.out.below HB.out).more HB.out.size) hn).mono ?_
      rintro e w2 ⟨rfl, hb⟩
      rw [HY.out]
      have HB2 := Lib.hid (bl_trans HB.out hb)
      clear hb
      go_wp2
      go_loopw [5, 6] (fun s i wr => ∃ j m : Nat, j ≤ n ∧ i = .int .i64 j ∧ s = .int .i64 (m : Int) ∧ Hid (m = dLow (ts.take j) x) ∧ Below w.heap.size w wr) (fun _ i _ => n - (intOf i).toNat)
      case atStart => exact ⟨0, 0, Nat.zero_le _, rfl, rfl, (show 0 = _ by simp [dLow]), HB2.out⟩
      case round =>
        obtain ⟨j, m, hj, rfl, rfl, HM, hb3⟩ := hrel
        have HB3 := Lib.hid hb3
        have hsz3 := hb3.size
        clear hb3
        by_cases hjk : j < n
        · obtain ⟨u, hu⟩ := get_at HL.out hjk
          obtain ⟨bb, o, rfl, hbl, g0, g1, g2, g3, g4⟩ := (H.out.below HB3.out).at_ j u hu
          have HVu := Lib.hid (set_ok HS.out (get_mem hu))
          have HTu := Lib.hid (dLow_take hu x)
          have hb1 := dLow_bound (set_take HS.out j) x
          have hb2 := dmd_bound HVu.out x false
          obtain ⟨d, hd⟩ : ∃ d, dmd u x false = d := ⟨_, rfl⟩
          rw [hd] at hb2
          have hm1 : m ≤ 100 * (x + 20) := by rw [HM.out]; omega
          have HM' : Hid (m + d = dLow (ts.take (j + 1)) x) := by show _ = _; rw [HTu.out, hd, HM.out]
          have HD := Lib.hid hd
          clear hd hu HTu hb1
          obtain ⟨lo', hi', du', ev', cr'⟩ := u
          dsimp only at g0 g1 g2 g3 g4
          go_wp2_with (go_at_call 30; refine (sDemand_is _ lo' hi' du' ev' cr' x false d HVu.out (by omega) HD.out).mono ?_; rintro e w3 ⟨rfl, rfl⟩)
          go_roundw
          case rel => exact ⟨j + 1, m + d, by omega, by go_num, by go_num, HM', bl_alloc HB3.out _⟩
          case measure => simp [intOf]; omega
        · obtain rfl : j = n := by omega
          have HM2 : Hid (m = dLow ts x) := by show _ = _; rw [HM.out, take_all (by rw [HL.out]; omega)]
          have hmb : m ≤ 100 * (x + 20) := by have := dLow_bound HS.out x; rw [HM2.out]; omega
          by_cases he : m = x
          · have hei : (m : Int) = (x : Int) := by omega
            obtain ⟨rfl, rfl⟩ : x = v ∧ true = b := Prod.mk.inj (by rw [← HV.out, least_hit HN.out hxd (HM2.out.symm.trans he)]; rfl)
            go_wp2
            go_ret2
            exact ⟨rfl, HB3.out⟩
          · have hei : ¬ (m : Int) = (x : Int) := by omega
            have hnx := none_step (fun x y hxy => dLow_mono ts hxy) (fun y hy => dLow_pos HS.out HNE.out hy) HN.out
            have hlt := none_le (fun x y hxy => dLow_mono ts hxy) (fun y hy => dLow_pos HS.out HNE.out hy) HN.out
            have hnm : Hid (NoneBelow (dLow ts) 1 m) := by show NoneBelow _ _ _; rw [HM2.out]; exact hnx
            have hlm : x ≤ m := by rw [HM2.out]; exact hlt
            clear hnx hlt
            go_wp2
            go_roundw
            case rel => exact ⟨m, rfl, by omega, hnm, HB3.out⟩
            case measure => simp [intOf]; omega
    · have hxd' : ¬ (x : Int) ≤ (lcmL ts : Int) := by omega
      obtain ⟨rfl, rfl⟩ : 0 = v ∧ false = b := Prod.mk.inj (by rw [← HV.out, least_past HN.out (by omega)]; rfl)
      go_wp2_with fail
      refine (sHyperOf_any wr A n c ts ((H.out.below HB.out).more HB.out.size) hn).mono ?_
      rintro e w2 ⟨rfl, hb⟩
      rw [HY.out]
      have HB2 := Lib.hid (bl_trans HB.out hb)
      clear hb
      go_wp2
      go_ret2
      exact ⟨rfl, HB2.out⟩
end

section
/- Responses with fewer tasks (no program text). -/
open Go.RowKit
set_option linter.unusedVariables false

theorem drop_get (ts : List Tk) (k : Nat) (hk : 1 ≤ k) : (ts.drop 1)[k - 1]? = ts[k]? := by
  rw [List.getElem?_drop]; congr 1; omega
theorem take_drop1 {ts : List Tk} {t0 : Tk} {k : Nat} (h0 : ts[0]? = some t0) (hk : 1 ≤ k) : ts.take k = t0 :: (ts.drop 1).take (k - 1) := by
  cases ts with
  | nil => cases h0
  | cons t ts =>
    injection h0 with h0
    subst h0
    obtain ⟨j, rfl⟩ : ∃ j, k = j + 1 := ⟨k - 1, by omega⟩
    simp
theorem dLow_cons (t : Tk) (ts : List Tk) (w : Nat) : dLow (t :: ts) w = dmd t w false + dLow ts w := by simp [dLow]
/-- With the first task less another one responds earlier by its need at least. -/
theorem resp_more {ts : List Tk} {t0 : Tk} {k v : Nat} (hs : setB ts = true) (h0 : ts[0]? = some t0) (hk : 1 ≤ k) (h : rLow ts k = some v) : ∃ m, rLow (ts.drop 1) (k - 1) = some m ∧ m + t0.lo.toNat ≤ v := by
  obtain ⟨_, t, ht, hf⟩ := rLow_some h
  obtain ⟨x1, x2, x3, x4⟩ := resp_fix hf
  have ht' : (ts.drop 1)[k - 1]? = some t := by rw [drop_get ts k hk]; exact ht
  rw [rLow_at (set_drop hs 1) ht']
  rw [take_drop1 h0 hk, dLow_cons] at x1
  have o0 := ok_parts (set_ok hs (get_mem h0))
  have ot := ok_parts (set_ok hs (get_mem ht))
  have hv1 : 1 ≤ v := by omega
  have hd0 : t0.lo.toNat ≤ dmd t0 v false := dem_pos (by omega) (by omega) hv1
  have hmono := dLow_mono ((ts.drop 1).take (k - 1)) (show v - t0.lo.toNat ≤ v by omega)
  have hu : t.lo.toNat + dLow ((ts.drop 1).take (k - 1)) (v - t0.lo.toNat) ≤ v - t0.lo.toNat := by omega
  cases hm : respOf ((ts.drop 1).take (k - 1)) t.lo.toNat t.du.toNat with
  | none =>
    have := least_none.1 hm (v - t0.lo.toNat) (by omega) (by omega)
    omega
  | some m =>
    refine ⟨m, rfl, ?_⟩
    obtain ⟨g1, g2, g3, g4⟩ := least_some.1 hm
    rcases Nat.lt_or_ge (v - t0.lo.toNat) m with hlt | hge
    · have := g4 (v - t0.lo.toNat) (by omega) hlt
      omega
    · omega
end

section
/- Busy times and shares: what tasks need in a common multiple of their periods (no program text). -/
open Go.RowKit
set_option linter.unusedVariables false

theorem jobs_mul {e H : Nat} (he : 1 ≤ e) (h : e ∣ H) : (H + e - 1) / e = H / e := by
  obtain ⟨q, rfl⟩ := h
  rw [Nat.mul_div_cancel_left _ (by omega)]
  refine Nat.div_eq_of_lt_le ?_ ?_
  · rw [Nat.mul_comm]; omega
  · rw [Nat.succ_mul, Nat.mul_comm]; omega
/-- In a multiple of its period a task needs just its share. -/
theorem dmd_hyper {t : Tk} (ht : t.ok = true) {H : Nat} (h : t.ev.toNat ∣ H) : dmd t H false * t.ev.toNat = H * t.lo.toNat := by
  have o := ok_parts ht
  unfold dmd demN
  rw [jobs_mul (by omega) h]
  obtain ⟨q, rfl⟩ := h
  rw [Nat.mul_div_cancel_left _ (by omega)]
  show q * t.lo.toNat * t.ev.toNat = t.ev.toNat * q * t.lo.toNat
  ac_rfl
theorem dmd_ge {t : Tk} (ht : t.ok = true) (n : Nat) : n * t.lo.toNat ≤ dmd t n false * t.ev.toNat := by
  have o := ok_parts ht
  exact dem_ge t.lo.toNat (by omega) n
theorem dmd_scale {t : Tk} (ht : t.ok = true) {H : Nat} (h : t.ev.toNat ∣ H) (n : Nat) : dmd t H false * n ≤ H * dmd t n false := by
  have o := ok_parts ht
  have h1 := dmd_hyper ht h
  have h2 := dmd_ge ht n
  have e1 : t.ev.toNat > 0 := by omega
  refine Nat.le_of_mul_le_mul_right ?_ e1
  calc dmd t H false * n * t.ev.toNat = (dmd t H false * t.ev.toNat) * n := by ac_rfl
    _ = H * (n * t.lo.toNat) := by rw [h1]; ac_rfl
    _ ≤ H * (dmd t n false * t.ev.toNat) := Nat.mul_le_mul_left _ h2
    _ = H * dmd t n false * t.ev.toNat := by ac_rfl
theorem dLow_scale : ∀ {ts : List Tk}, (∀ t ∈ ts, t.ok = true) → ∀ {H : Nat}, (∀ t ∈ ts, t.ev.toNat ∣ H) → ∀ n, dLow ts H * n ≤ H * dLow ts n
  | [], _, _, _, _ => by simp [dLow]
  | t :: ts, ho, H, hd, n => by
    rw [dLow_cons, dLow_cons, Nat.add_mul, Nat.mul_add]
    exact Nat.add_le_add (dmd_scale (ho t (by simp)) (hd t (by simp)) n) (dLow_scale (fun x hx => ho x (by simp [hx])) (fun x hx => hd x (by simp [hx])) n)
/-- If some window is enough, a common multiple of the periods is. -/
theorem hyper_enough {ts : List Tk} (hs : setB ts = true) {n : Nat} (h1 : 1 ≤ n) (hn : dLow ts n ≤ n) : dLow ts (lcmL ts) ≤ lcmL ts := by
  have h := dLow_scale (fun t ht => set_ok hs ht) (fun t ht => lcmL_dvd ht) n (H := lcmL ts)
  have h2 : lcmL ts * dLow ts n ≤ lcmL ts * n := Nat.mul_le_mul_left _ hn
  exact Nat.le_of_mul_le_mul_right (Nat.le_trans h h2) h1
theorem bLow_some {ts : List Tk} {n : Nat} (h : bLow ts = some n) : setB ts = true ∧ ts ≠ [] ∧ 1 ≤ n ∧ n ≤ lcmL ts ∧ dLow ts n = n ∧ ∀ x, 1 ≤ x → x < n → x < dLow ts x := by
  cases hs : setB ts
  · rw [bLow_bad hs] at h; cases h
  · by_cases hn : ts = []
    · subst hn; cases h
    · rw [bLow_is hs hn] at h
      obtain ⟨h1, h2, h3, h4⟩ := least_some.1 h
      exact ⟨rfl, hn, h1, h2, least_fix (fun x y hxy => dLow_mono ts hxy) (fun x hx => dLow_pos hs hn hx) h, h4⟩
/-- There is a busy time exactly if the tasks need no more than there is in a common multiple of the periods. -/
theorem bLow_iff {ts : List Tk} (hs : setB ts = true) (hn : ts ≠ []) : (bLow ts).isSome = decide (dLow ts (lcmL ts) ≤ lcmL ts) := by
  rw [bLow_is hs hn]
  cases h : leastN (dLow ts) 1 (lcmL ts) with
  | none =>
    have := least_none.1 h (lcmL ts) (lcmL_le hs).1 (Nat.le_refl _)
    rw [decide_eq_false (by omega)]; rfl
  | some n =>
    obtain ⟨h1, h2, h3, h4⟩ := least_some.1 h
    rw [decide_eq_true (hyper_enough hs h1 h3)]; rfl
/-- Without its first task a processor is busy shorter. -/
theorem busy_more {ts : List Tk} {n : Nat} (h : bLow ts = some n) (hl : 2 ≤ ts.length) : ∃ m, bLow (ts.drop 1) = some m ∧ m < n := by
  obtain ⟨hs, hn, h1, h2, h3, h4⟩ := bLow_some h
  cases ts with
  | nil => exact absurd rfl hn
  | cons t ts =>
    have hr : ts ≠ [] := by rintro rfl; simp at hl
    have hs' : setB ts = true := set_drop hs 1
    have o := ok_parts (set_ok hs (List.mem_cons_self ..))
    rw [dLow_cons] at h3
    have hd : t.lo.toNat ≤ dmd t n false := dem_pos (by omega) (by omega) h1
    have hp := dLow_pos hs' hr h1
    have hm := dLow_mono ts (show n - t.lo.toNat ≤ n by omega)
    have he := hyper_enough hs' h1 (show dLow ts n ≤ n by omega)
    show ∃ m, bLow ts = some m ∧ m < n
    have hi := bLow_iff hs' hr
    rw [decide_eq_true he] at hi
    obtain ⟨m, hm'⟩ := some_of hi
    refine ⟨m, hm', ?_⟩
    obtain ⟨_, _, g1, g2, g3, g4⟩ := bLow_some hm'
    rcases Nat.lt_or_ge (n - t.lo.toNat) m with hlt | hge
    · have := g4 (n - t.lo.toNat) (by omega) hlt
      omega
    · omega
/-- No response is longer than a busy time. -/
theorem resp_busy {ts : List Tk} {k n r : Nat} (h : bLow ts = some n) (hr : rLow ts k = some r) : r ≤ n := by
  obtain ⟨hs, hn, h1, h2, h3, h4⟩ := bLow_some h
  obtain ⟨_, t, ht, hf⟩ := rLow_some hr
  obtain ⟨x1, x2, x3, x4⟩ := resp_fix hf
  have o := ok_parts (set_ok hs (get_mem ht))
  have hle : dLow (ts.take (k + 1)) n ≤ dLow ts n := sum_sub _ (List.take_sublist _ _)
  rw [dLow_take ht] at hle
  have hd : t.lo.toNat ≤ dmd t n false := dem_pos (by omega) (by omega) h1
  rcases Nat.lt_or_ge n r with hlt | hge
  · have := x4 n (by omega) hlt
    omega
  · exact hge

/-- Among critical tasks with their high needs alone. -/
theorem crit_idem {c : List Tk} (h : ∀ t ∈ c, t.cr = true ∧ t.lo = t.hi) : critL c = c := by
  induction c with
  | nil => rfl
  | cons t c ih =>
    obtain ⟨h1, h2⟩ := h t (by simp)
    rw [critL_eq, List.filter_cons, if_pos h1, List.map_cons, ← critL_eq, ih fun x hx => h x (by simp [hx])]
    congr 1
    obtain ⟨lo, hi, du, ev, cr⟩ := t
    dsimp only at h2
    subst h2
    rfl
theorem crit_mem {ts : List Tk} {t : Tk} (h : t ∈ critL ts) : t.cr = true ∧ t.lo = t.hi := by
  rw [critL_eq, List.mem_map] at h
  obtain ⟨u, hu, rfl⟩ := h
  exact ⟨(List.mem_filter.1 hu).2, rfl⟩
theorem high_low {ts : List Tk} (hs : setB ts = true) (k : Nat) : rHigh (critL ts) k = rLow (critL ts) k := by
  cases ht : (critL ts)[k]? with
  | none => rw [rHigh_past ht, rLow_past ht]
  | some t =>
    have hk := (List.getElem?_eq_some_iff.1 ht).1
    rw [rHigh_at (set_crit hs) ht (crit_mem (get_mem ht)).1, crit_idem fun t ht => crit_mem ht, crit_idem fun t ht => crit_mem ((List.take_sublist k _).subset ht), List.length_take]
    congr 1
    omega
theorem dCrit_yes {ts : List Tk} {k : Nat} {t : Tk} (h : ts[k]? = some t) (hc : t.cr = true) (w : Nat) : dLow (critL (ts.take (k + 1))) w = dLow (critL (ts.take k)) w + dmd t w true := by
  rw [critL_yes h hc]
  simp [dLow, dmd]
theorem dCrit_no {ts : List Tk} {k : Nat} {t : Tk} (h : ts[k]? = some t) (hc : t.cr = false) (w : Nat) : dLow (critL (ts.take (k + 1))) w = dLow (critL (ts.take k)) w := by
  rw [critL_no h hc]
end

section
/- Switches, prefixes and critical tasks alone, as plain data (no program text). -/
open Go.RowKit
set_option linter.unusedVariables false

theorem rSwi_some {ts : List Tk} {k v : Nat} (h : rSwi ts k = some v) : setB ts = true ∧ ∃ t l, ts[k]? = some t ∧ t.cr = true ∧ rLow ts k = some l ∧ swiOf (ts.take k) l t.hi.toNat t.du.toNat = some v := by
  cases hl : rLow ts k with
  | none => rw [rSwi_none hl] at h; cases h
  | some l =>
    obtain ⟨hs, t, ht, hf⟩ := rLow_some hl
    cases hc : t.cr
    · rw [rSwi_not ht hc] at h; cases h
    · rw [rSwi_at hl ht hc] at h
      exact ⟨hs, t, l, ht, hc, rfl, h⟩
theorem swi_fix {xs : List Tk} {l n d v : Nat} (h : swiOf xs l n d = some v) : n + dSwi xs l v = v ∧ n ≤ v ∧ v ≤ d ∧ ∀ x, n ≤ x → x < v → x < n + dSwi xs l x := by
  obtain ⟨h1, h2, _, h4⟩ := least_some.1 h
  exact ⟨least_fix (swi_mono xs l n) (fun x _ => Nat.le_add_right _ _) h, h1, h2, h4⟩
theorem dLow_le_swi {ts : List Tk} (ho : ∀ t ∈ ts, t.ok = true) {l w : Nat} (h : w ≤ l) : dLow ts w ≤ dSwi ts l w := sum_le fun t ht => by
  unfold dmS; split
  · exact dmd_low (ho t ht) w true
  · exact dmd_mono t false h
/-- A response at the switch is no shorter than those in both modes. -/
theorem swi_longest {ts : List Tk} {k v : Nat} (h : rSwi ts k = some v) : ∃ l r, rLow ts k = some l ∧ rHigh ts k = some r ∧ l ≤ v ∧ r ≤ v := by
  obtain ⟨hs, t, l, ht, hc, hl, hf⟩ := rSwi_some h
  obtain ⟨x1, x2, x3, x4⟩ := swi_fix hf
  obtain ⟨_, t', ht', hr⟩ := rLow_some hl
  obtain rfl : t = t' := by rw [ht] at ht'; exact Option.some.inj ht'
  obtain ⟨y1, y2, y3, y4⟩ := resp_fix hr
  have o := ok_parts (set_ok hs (get_mem ht))
  have hh : ∃ r, rHigh ts k = some r ∧ r ≤ v := by
    rw [rHigh_is hs ht hc]
    have hd := dCrit_le (ts.take k) l v
    cases hx : respOf (critL (ts.take k)) t.hi.toNat t.du.toNat with
    | none =>
      have := least_none.1 hx v x2 x3
      omega
    | some r =>
      refine ⟨r, rfl, ?_⟩
      obtain ⟨z1, z2, z3, z4⟩ := resp_fix hx
      rcases Nat.lt_or_ge v r with hlt | hge
      · have := z4 v x2 hlt
        omega
      · exact hge
  obtain ⟨r, hr1, hr2⟩ := hh
  refine ⟨l, r, hl, hr1, ?_, hr2⟩
  rcases Nat.lt_or_ge v l with hlt | hge
  · have h1 := y4 v (by omega) hlt
    have h2 := dLow_le_swi (fun u hu => set_ok (set_take hs k) hu) (Nat.le_of_lt hlt) (l := l) (w := v)
    omega
  · exact hge

/-- The first task responds in what it needs. -/
theorem first_low {ts : List Tk} {t : Tk} (hs : setB ts = true) (h : ts[0]? = some t) : rLow ts 0 = some t.lo.toNat := by
  have o := ok_parts (set_ok hs (get_mem h))
  rw [rLow_at hs h]
  exact least_hit (none_start _ _) (by omega) (by simp [dLow])
theorem first_swi {ts : List Tk} {t : Tk} (hs : setB ts = true) (h : ts[0]? = some t) (hc : t.cr = true) : rSwi ts 0 = some t.hi.toNat := by
  have o := ok_parts (set_ok hs (get_mem h))
  rw [rSwi_at (first_low hs h) h hc]
  exact least_hit (none_start _ _) (by omega) (by simp [dSwi])
theorem first_both {ts : List Tk} {t : Tk} (hs : setB ts = true) (h : ts[0]? = some t) : bothAt ts 0 = true := by
  cases hc : t.cr
  · rw [both_no h hc, first_low hs h]; rfl
  · rw [both_cr h hc, first_swi hs h hc]; rfl
theorem one_good {t : Tk} (h : t.ok = true) : fBad [t] = none := by
  have hs : setB [t] = true := set_of (by simp) fun u hu => by simp at hu; rw [hu]; exact h
  refine fBad_none hs fun j hj => ?_
  obtain rfl : j = 0 := by simp at hj; exact hj
  exact first_both hs rfl

/-- What comes behind does not matter. -/
theorem take_get {ts : List Tk} {m j : Nat} (h : j < m) : (ts.take m)[j]? = ts[j]? := by rw [List.getElem?_take, if_pos h]
theorem take_take' {ts : List Tk} {m j : Nat} (h : j < m) : (ts.take m).take j = ts.take j := by rw [List.take_take, Nat.min_eq_left (Nat.le_of_lt h)]
theorem rLow_pre {ts : List Tk} {m j : Nat} (hs : setB ts = true) (h : j < m) : rLow (ts.take m) j = rLow ts j := by
  cases ht : ts[j]? with
  | none => rw [rLow_past ht, rLow_past (by rw [take_get h]; exact ht)]
  | some t => rw [rLow_at hs ht, rLow_at (set_take hs m) (by rw [take_get h]; exact ht), take_take' h]
theorem rSwi_pre {ts : List Tk} {m j : Nat} (hs : setB ts = true) (h : j < m) : rSwi (ts.take m) j = rSwi ts j := by
  cases hl : rLow ts j with
  | none => rw [rSwi_none hl, rSwi_none (by rw [rLow_pre hs h]; exact hl)]
  | some l =>
    obtain ⟨_, t, ht, _⟩ := rLow_some hl
    cases hc : t.cr
    · rw [rSwi_not ht hc, rSwi_not (by rw [take_get h]; exact ht) hc]
    · rw [rSwi_at hl ht hc, rSwi_at (by rw [rLow_pre hs h]; exact hl) (by rw [take_get h]; exact ht) hc, take_take' h]
theorem both_pre {ts : List Tk} {m j : Nat} (hs : setB ts = true) (h : j < m) : bothAt (ts.take m) j = bothAt ts j := by
  unfold bothAt
  rw [take_get h, rSwi_pre hs h, rLow_pre hs h]
theorem hBoth_pre {ts : List Tk} (h : hBoth ts = true) (m : Nat) : hBoth (ts.take m) = true := by
  obtain ⟨h1, h2⟩ := hBoth_iff.1 h
  refine hBoth_iff.2 ⟨set_take h1 m, fun k hk => ?_⟩
  rw [List.length_take] at hk
  rw [both_pre h1 (by omega)]
  exact h2 k (by omega)
theorem bad_pre {ts : List Tk} {k : Nat} (h : fBad ts = some k) : k < ts.length ∧ hBoth (ts.take k) = true ∧ hBoth (ts.take (k + 1)) = false := by
  obtain ⟨hs, hk, hb, ha⟩ := fBad_at h
  refine ⟨hk, hBoth_iff.2 ⟨set_take hs k, fun j hj => ?_⟩, ?_⟩
  · rw [List.length_take] at hj
    rw [both_pre hs (by omega)]
    exact ha j (by omega)
  · refine hBoth_no (k := k) (by rw [List.length_take]; omega) ?_
    rw [both_pre hs (by omega)]
    exact hb
theorem hBoth_low {ts : List Tk} (h : hBoth ts = true) : hLow ts = true := by
  obtain ⟨h1, h2⟩ := hBoth_iff.1 h
  exact hLow_iff.2 ⟨h1, fun k hk => both_low (h2 k hk)⟩

/-- Where a critical task comes from. -/
theorem crit_from : ∀ {ts : List Tk} {i : Nat}, i < (critL ts).length → ∃ k t, ts[k]? = some t ∧ t.cr = true ∧ (critL (ts.take k)).length = i
  | [], i, h => by simp [critL] at h
  | t :: ts, i, h => by
    have hc : critL (t :: ts) = critL [t] ++ critL ts := crit_app [t] ts
    cases hcr : t.cr
    · have h1 : critL [t] = [] := by simp [critL, hcr]
      rw [hc, h1, List.nil_append] at h
      obtain ⟨k, u, h2, h3, h4⟩ := crit_from h
      refine ⟨k + 1, u, by simpa using h2, h3, ?_⟩
      rw [List.take_succ_cons, show t :: ts.take k = [t] ++ ts.take k from rfl, crit_app, h1, List.nil_append]
      exact h4
    · have h1 : (critL [t]).length = 1 := by simp [critL, hcr]
      rcases Nat.eq_zero_or_pos i with rfl | hi
      · exact ⟨0, t, rfl, hcr, by simp [critL]⟩
      · rw [hc, List.length_append, h1] at h
        obtain ⟨k, u, h2, h3, h4⟩ := crit_from (ts := ts) (i := i - 1) (by omega)
        refine ⟨k + 1, u, by simpa using h2, h3, ?_⟩
        rw [List.take_succ_cons, show t :: ts.take k = [t] ++ ts.take k from rfl, crit_app, List.length_append, h1, h4]
        omega
theorem crit_mem' {ts : List Tk} {t : Tk} (h : t ∈ critL ts) : t.cr = true ∧ t.lo = t.hi := by
  rw [critL_eq, List.mem_map] at h
  obtain ⟨u, hu, rfl⟩ := h
  exact ⟨(List.mem_filter.1 hu).2, rfl⟩
/-- Tasks that are critical and need no more in the high mode need the same around a switch. -/
theorem swi_same {xs : List Tk} (h : ∀ t ∈ xs, t.cr = true ∧ t.lo = t.hi) (l w : Nat) : dSwi xs l w = dLow xs w := by
  unfold dSwi dLow
  congr 1
  refine List.map_congr_left fun t ht => ?_
  obtain ⟨h1, h2⟩ := h t ht
  unfold dmS dmd
  rw [h1, ← h2]; rfl
theorem crit_both {ts : List Tk} (hs : setB ts = true) {i : Nat} (h : (rLow (critL ts) i).isSome = true) : bothAt (critL ts) i = true := by
  obtain ⟨l, hl⟩ := some_of h
  obtain ⟨_, t, ht, hf⟩ := rLow_some hl
  obtain ⟨h1, h2⟩ := crit_mem' (get_mem ht)
  rw [both_cr ht h1, rSwi_at hl ht h1]
  have he : swiOf ((critL ts).take i) l t.hi.toNat t.du.toNat = respOf ((critL ts).take i) t.lo.toNat t.du.toNat := by
    unfold swiOf respOf
    congr 1
    · funext w
      rw [swi_same (fun u hu => crit_mem' ((List.take_sublist i _).subset hu)), h2]
    · rw [h2]
  rw [he, hf]; rfl
theorem crit_holds {ts : List Tk} (h : hBoth ts = true) : hLow (critL ts) = true ∧ hBoth (critL ts) = true := by
  obtain ⟨h1, h2⟩ := hBoth_iff.1 h
  have key : ∀ i, i < (critL ts).length → (rLow (critL ts) i).isSome = true := by
    intro i hi
    obtain ⟨k, t, ht, hc, hk⟩ := crit_from hi
    have hb := h2 k (List.getElem?_eq_some_iff.1 ht).1
    rw [both_cr ht hc] at hb
    obtain ⟨v, hv⟩ := some_of hb
    obtain ⟨l, r, _, hr, _, _⟩ := swi_longest hv
    rw [rHigh_at h1 ht hc, hk] at hr
    rw [hr]; rfl
  exact ⟨hLow_iff.2 ⟨set_crit h1, key⟩, hBoth_iff.2 ⟨set_crit h1, fun i hi => crit_both h1 (key i hi)⟩⟩
end

section
/- Low shares of all tasks against what they need in a common multiple of their periods (no program text). -/
open Go.RowKit
set_option linter.unusedVariables false

def bothS (ts : List Tk) : Nat × Nat := addN (lowOf ts true) (lowOf ts false)
theorem filter_both (ts : List Tk) : ((ts.filter fun t => t.cr == true) ++ (ts.filter fun t => t.cr == false)).Perm ts := by
  induction ts with
  | nil => exact List.Perm.refl _
  | cons t ts ih =>
    cases hc : t.cr
    · rw [List.filter_cons, List.filter_cons, hc, if_neg (by decide), if_pos (by decide)]
      exact List.perm_middle.trans (List.Perm.cons t ih)
    · rw [List.filter_cons, List.filter_cons, hc, if_pos (by decide), if_neg (by decide)]
      exact List.Perm.cons t ih
theorem need_sum {H : Nat} : ∀ {ts : List Tk}, (∀ t ∈ ts, t.ok = true) → (∀ t ∈ ts, t.ev.toNat ∣ H) → ((ts.map fun t => (t.lo.toNat, t.ev.toNat)).map fun x => H / x.2 * x.1).sum = dLow ts H
  | [], _, _ => rfl
  | t :: ts, ho, hd => by
    have o := ok_parts (ho t (by simp))
    rw [dLow_cons, List.map_cons, List.map_cons, List.sum_cons, need_sum (fun x hx => ho x (by simp [hx])) (fun x hx => hd x (by simp [hx]))]
    congr 1
    unfold dmd demN
    rw [jobs_mul (by omega) (hd t (by simp))]
    rfl
theorem bothS_is {ts : List Tk} (hs : setB ts = true) : bothS ts = redN (dLow ts (lcmL ts)) (lcmL ts) := by
  have ho : ∀ t ∈ ts, t.ok = true := fun t ht => set_ok hs ht
  have hH := (lcmL_le hs).1
  have hp : ∀ c, ∀ x ∈ (ts.filter fun t => t.cr == c).map part, 0 < x.2 := fun c x hx => (parts_facts c ho x hx).1
  unfold bothS lowOf
  rw [if_pos hs, if_pos hs]
  unfold lowL
  rw [← sum_app (hp true) (hp false), ← List.map_append, sum_perm ((filter_both ts).map part) (by
    intro x hx
    rw [List.map_append, List.mem_append] at hx
    rcases hx with h | h
    · exact hp true x h
    · exact hp false x h)]
  rw [sum_rep part (fun t => (t.lo.toNat, t.ev.toNat)) ts (fun t ht => by
    have o := ok_parts (ho t ht)
    refine ⟨(part_facts (ho t ht)).1, by show 0 < t.ev.toNat; omega, ?_⟩
    exact red_same t.lo.toNat t.ev.toNat)]
  rw [sum_common (n := lcmL ts) (by omega) (by
    intro x hx
    rw [List.mem_map] at hx
    obtain ⟨t, ht, rfl⟩ := hx
    have o := ok_parts (ho t ht)
    exact ⟨by show 0 < t.ev.toNat; omega, lcmL_dvd ht⟩)]
  rw [need_sum ho fun t ht => lcmL_dvd ht]
theorem both_le {ts : List Tk} (hs : setB ts = true) : leN (bothS ts) (1, 1) ↔ dLow ts (lcmL ts) ≤ lcmL ts := by
  have hH := (lcmL_le hs).1
  rw [bothS_is hs]
  have h1 := red_same (dLow ts (lcmL ts)) (lcmL ts)
  have h2 := red_pos (n := dLow ts (lcmL ts)) (show 0 < lcmL ts by omega)
  generalize redN (dLow ts (lcmL ts)) (lcmL ts) = s at *
  unfold leN
  simp only [Nat.mul_one, Nat.one_mul]
  constructor
  · intro h
    refine Nat.le_of_mul_le_mul_right ?_ h2
    rw [← h1, Nat.mul_comm (lcmL ts)]
    exact Nat.mul_le_mul_right _ h
  · intro h
    refine Nat.le_of_mul_le_mul_right ?_ (show 0 < lcmL ts by omega)
    rw [h1, Nat.mul_comm s.2]
    exact Nat.mul_le_mul_right _ h
/-- The sum of both low shares: it is no too great one, and it is at most 1 exactly if the tasks need no more than there is. -/
theorem both_sum {ts : List Tk} {p1 q1 p2 q2 : Nat} (hs : setB ts = true) (h1 : lowOf ts true = (p1, q1)) (h2 : lowOf ts false = (p2, q2)) :
    ∃ p q : Nat, plusB p1 q1 p2 q2 = true ∧ plusS p1 q1 p2 q2 = (p, q) ∧ (decide (cmpS p q 1 1 ≤ 0) = decide (dLow ts (lcmL ts) ≤ lcmL ts)) := by
  have s1 := (lowOf_sh true hs).1
  have s2 := (lowOf_sh false hs).1
  rw [h1] at s1
  rw [h2] at s2
  have hb : bothS ts = addN (p1, q1) (p2, q2) := by unfold bothS; rw [h1, h2]
  have hi := bothS_is hs
  have hl := lcmL_le hs
  have hd := dLow_bound hs (lcmL ts)
  have ha : addB (p1, q1) (p2, q2) = true := by
    unfold addB
    rw [← hb, hi]
    have l1 := red_le_num (dLow ts (lcmL ts)) (lcmL ts)
    have l2 := red_le_den (dLow ts (lcmL ts)) (lcmL ts)
    rw [Bool.and_eq_true, decide_eq_true_iff, decide_eq_true_iff]
    exact ⟨by omega, by omega⟩
  obtain ⟨g1, g2⟩ := plus_sh s1 s2
  rw [ha] at g1
  rw [if_pos ha, ← hb] at g2
  have hsh : Sh (bothS ts).1 (bothS ts).2 := by
    obtain ⟨a, b, x, y, e1, e2, e3, e4, _, _, e5, e6⟩ := plus_out g1
    rw [e5] at g2
    rw [← g2]; exact e6
  refine ⟨(bothS ts).1, (bothS ts).2, g1, g2, ?_⟩
  have h11 : Sh 1 1 := by
    have := sh_red (a := 1) (b := 1) (by decide) (by decide) (by decide)
    exact this
  have hc := cmp_sh hsh h11
  rw [show ((1 : Int)) = ((1 : Nat) : Int) from rfl, hc]
  exact decide_eq_decide.2 ((cmp_le _ _).trans (both_le hs))
/-- Tasks that hold with low needs need no more than there is. -/
theorem holds_share {ts : List Tk} (h : hLow ts = true) (hl : 1 ≤ ts.length) : dLow ts (lcmL ts) ≤ lcmL ts := by
  obtain ⟨hs, ha⟩ := hLow_iff.1 h
  obtain ⟨r, hr⟩ := some_of (ha (ts.length - 1) (by omega))
  obtain ⟨_, t, ht, hf⟩ := rLow_some hr
  obtain ⟨x1, x2, x3, _⟩ := resp_fix hf
  have o := ok_parts (set_ok hs (get_mem ht))
  have hd : dmd t r false = t.lo.toNat := by
    unfold dmd demN
    have hj : (r + t.ev.toNat - 1) / t.ev.toNat = 1 := Nat.div_eq_of_lt_le (by omega) (by omega)
    rw [hj, Nat.one_mul]; rfl
  have hsum := dLow_take ht r
  rw [show ts.length - 1 + 1 = ts.length by omega, List.take_length, hd] at hsum
  exact hyper_enough hs (show 1 ≤ r by omega) (by omega)
theorem hLow_pre {ts : List Tk} (h : hLow ts = true) (m : Nat) : hLow (ts.take m) = true := by
  obtain ⟨h1, h2⟩ := hLow_iff.1 h
  refine hLow_iff.2 ⟨set_take h1 m, fun k hk => ?_⟩
  rw [List.length_take] at hk
  rw [rLow_pre h1 (by omega)]
  exact h2 k (by omega)
end

end Go.Proofs.YtobkbbgllapcoabDoor
