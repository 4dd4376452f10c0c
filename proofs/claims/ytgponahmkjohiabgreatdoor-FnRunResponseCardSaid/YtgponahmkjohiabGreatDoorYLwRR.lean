import Derived.RegionTactic
import Derived.ChangeAlike
import Derived.ScopeJumps
import Derived.WalkMore
import Derived.Shelf.Abstract
import Derived.Deep.RegionHeld3
import Derived.LoopTactic
import Derived.Deep.QuietTactic
import Derived.BigQuiet
import Derived.Laws.IdiomStrings
import Derived.Test.YtgponahmkjohiabGreatDoorZNI
import Derived.Test.YtgponahmkjohiabGreatDoorZNG
import Derived.Test.YtgponahmkjohiabGreatDoorZMcN
import Derived.Test.YtgponahmkjohiabGreatDoorZPmL
import Derived.Test.YtgponahmkjohiabGreatDoorZDrA
namespace Go.Proofs.YtgponahmkjohiabGreatDoor
section
open Go.RowKit
set_option linter.unusedVariables false
def highI (ts : List Tk) : Nat → List Jb → List Int
  | _, [] => []
  | k, j :: js => (if (tkOf ts j.ta).lo < j.ne then [(k : Int)] else []) ++ highI ts (k + 1) js
def highV (ts : List Tk) (js : List Jb) : List Int := if jobsB ts js then highI ts 0 js else []
theorem high_app (ts : List Tk) : ∀ (xs ys : List Jb) (k : Nat), highI ts k (xs ++ ys) = highI ts k xs ++ highI ts (k + xs.length) ys
  | [], ys, k => by simp [highI]
  | j :: xs, ys, k => by
    rw [List.cons_append, highI, highI, high_app ts xs ys (k + 1), List.append_assoc]
    congr 3
    simp; omega
theorem high_take {ts : List Tk} {js : List Jb} {q : Nat} {j : Jb} (h : js[q]? = some j) : highI ts 0 (js.take (q + 1)) = highI ts 0 (js.take q) ++ if (tkOf ts j.ta).lo < j.ne then [(q : Int)] else [] := by
  have hq := (List.getElem?_eq_some_iff.1 h).1
  rw [List.take_add_one, h, Option.toList_some, high_app]
  congr 1
  rw [List.length_take, Nat.min_eq_left (Nat.le_of_lt hq), Nat.zero_add]
  simp [highI]
end
section
set_option linter.unusedVariables false
def demN (n e w : Nat) : Nat := (w + e - 1) / e * n
theorem dem_mono (n e : Nat) {v w : Nat} (h : v ≤ w) : demN n e v ≤ demN n e w :=
  Nat.mul_le_mul_right n (Nat.div_le_div_right (by omega))
def NoneBelow (F : Nat → Nat) (lo w : Nat) : Prop := lo ≤ w ∧ ∀ v, lo ≤ v → v < w → v < F v
def leastN (F : Nat → Nat) (lo hi : Nat) : Option Nat := (List.range (hi + 1)).find? fun w => decide (lo ≤ w) && decide (F w ≤ w)
theorem find_range {p : Nat → Bool} {n w : Nat} : (List.range n).find? p = some w ↔ w < n ∧ p w = true ∧ ∀ v, v < w → p v = false := by
  rw [List.find?_range_eq_some]
  simp
  constructor
  · rintro ⟨a, b, c⟩; exact ⟨b, a, c⟩
  · rintro ⟨a, b, c⟩; exact ⟨b, a, c⟩
theorem least_some {F : Nat → Nat} {lo hi w : Nat} : leastN F lo hi = some w ↔ lo ≤ w ∧ w ≤ hi ∧ F w ≤ w ∧ ∀ v, lo ≤ v → v < w → v < F v := by
  unfold leastN
  rw [find_range]
  constructor
  · rintro ⟨h1, h2, h3⟩
    rw [Bool.and_eq_true, decide_eq_true_iff, decide_eq_true_iff] at h2
    refine ⟨h2.1, by omega, h2.2, fun v hv hw => ?_⟩
    have := h3 v hw
    rw [decide_eq_true hv, Bool.true_and, decide_eq_false_iff_not] at this
    omega
  · rintro ⟨h1, h2, h3, h4⟩
    refine ⟨by omega, by rw [decide_eq_true h1, decide_eq_true h3]; rfl, fun v hv => ?_⟩
    by_cases hl : lo ≤ v
    · have := h4 v hl hv
      rw [decide_eq_false (show ¬ F v ≤ v by omega), Bool.and_false]
    · rw [decide_eq_false hl, Bool.false_and]
theorem least_none {F : Nat → Nat} {lo hi : Nat} : leastN F lo hi = none ↔ ∀ v, lo ≤ v → v ≤ hi → v < F v := by
  unfold leastN
  rw [List.find?_eq_none]
  constructor
  · intro h v h1 h2
    have := h v (List.mem_range.2 (by omega))
    rw [Bool.and_eq_true, decide_eq_true_iff, decide_eq_true_iff] at this
    have h3 : ¬ F v ≤ v := fun h3 => this ⟨h1, h3⟩
    omega
  · intro h v hv
    have hv := List.mem_range.1 hv
    rw [Bool.and_eq_true, decide_eq_true_iff, decide_eq_true_iff]
    rintro ⟨h1, h2⟩
    have := h v h1 (by omega)
    omega
theorem none_start (F : Nat → Nat) (lo : Nat) : NoneBelow F lo lo := ⟨Nat.le_refl _, fun v h1 h2 => by omega⟩
theorem none_le {F : Nat → Nat} {lo : Nat} (hm : ∀ v w, v ≤ w → F v ≤ F w) (hF : ∀ w, lo ≤ w → lo ≤ F w) {w : Nat} (h : NoneBelow F lo w) : w ≤ F w := by
  rcases Nat.lt_or_ge (F w) w with hlt | hge
  · have h1 := h.2 (F w) (hF w h.1) hlt
    have h2 := hm (F w) w (Nat.le_of_lt hlt)
    omega
  · exact hge
theorem none_step {F : Nat → Nat} {lo : Nat} (hm : ∀ v w, v ≤ w → F v ≤ F w) (hF : ∀ w, lo ≤ w → lo ≤ F w) {w : Nat} (h : NoneBelow F lo w) : NoneBelow F lo (F w) := by
  refine ⟨hF w h.1, fun v h1 h2 => ?_⟩
  rcases Nat.lt_or_ge v w with hv | hv
  · exact h.2 v h1 hv
  · exact Nat.lt_of_lt_of_le h2 (hm w v hv)
theorem least_hit {F : Nat → Nat} {lo hi w : Nat} (h : NoneBelow F lo w) (hw : w ≤ hi) (he : F w = w) : leastN F lo hi = some w :=
  least_some.2 ⟨h.1, hw, by omega, h.2⟩
theorem least_past {F : Nat → Nat} {lo hi w : Nat} (h : NoneBelow F lo w) (hw : hi < w) : leastN F lo hi = none :=
  least_none.2 fun v h1 h2 => h.2 v h1 (by omega)
end
section
set_option linter.unusedVariables false
def dmd (t : Tk) (w : Nat) (h : Bool) : Nat := demN (if h then t.hi.toNat else t.lo.toNat) t.ev.toNat w
def dLow (ts : List Tk) (w : Nat) : Nat := (ts.map fun t => dmd t w false).sum
theorem ok_parts {t : Tk} (h : t.ok = true) : 1 ≤ t.lo ∧ t.lo ≤ t.hi ∧ t.hi ≤ t.du ∧ t.du ≤ t.ev ∧ t.ev ≤ 20 ∧ (t.cr = false → t.lo = t.hi) := by
  unfold Tk.ok validB at h
  simp only [Bool.and_eq_true, decide_eq_true_iff, Bool.or_eq_true, beq_iff_eq] at h
  refine ⟨h.1, h.2.1, h.2.2.1, h.2.2.2.1, h.2.2.2.2.1, fun hc => ?_⟩
  rcases h.2.2.2.2.2 with h | h
  · rw [h] at hc; cases hc
  · exact h
theorem get_mem {ts : List Tk} {k : Nat} {t : Tk} (h : ts[k]? = some t) : t ∈ ts := List.mem_of_getElem? h
theorem set_of {ts : List Tk} (hl : ts.length ≤ 5) (h : ∀ t ∈ ts, t.ok = true) : setB ts = true := by
  unfold setB
  rw [Bool.and_eq_true, decide_eq_true_iff]
  exact ⟨hl, List.all_eq_true.2 h⟩
theorem set_sub {xs ys : List Tk} (h : setB ys = true) (hs : xs.Sublist ys) : setB xs = true :=
  set_of (Nat.le_trans hs.length_le (setB_len h)) fun t ht => set_ok h (hs.subset ht)
theorem set_take {ts : List Tk} (h : setB ts = true) (k : Nat) : setB (ts.take k) = true := set_sub h (List.take_sublist k ts)
theorem dmd_mono (t : Tk) (h : Bool) {v w : Nat} (hv : v ≤ w) : dmd t v h ≤ dmd t w h := dem_mono _ _ hv
theorem dmd_bound {t : Tk} (ht : t.ok = true) (w : Nat) (h : Bool) : dmd t w h ≤ 20 * (w + 20) := by
  obtain ⟨h1, h2, h3, h4, h5, _⟩ := ok_parts ht
  unfold dmd demN
  have a : (w + t.ev.toNat - 1) / t.ev.toNat ≤ w + 20 := Nat.le_trans (Nat.div_le_self _ _) (by omega)
  have b : (if h then t.hi.toNat else t.lo.toNat) ≤ 20 := by split <;> omega
  calc _ ≤ (w + 20) * 20 := Nat.mul_le_mul a b
    _ = 20 * (w + 20) := Nat.mul_comm _ _
theorem take_snoc {ts : List Tk} {k : Nat} {t : Tk} (h : ts[k]? = some t) : ts.take (k + 1) = ts.take k ++ [t] := by
  rw [List.take_add_one, h]; rfl
theorem sum_snoc (f : Tk → Nat) {ts : List Tk} {k : Nat} {t : Tk} (h : ts[k]? = some t) : ((ts.take (k + 1)).map f).sum = ((ts.take k).map f).sum + f t := by
  rw [take_snoc h]; simp
theorem dLow_take {ts : List Tk} {k : Nat} {t : Tk} (h : ts[k]? = some t) (w : Nat) : dLow (ts.take (k + 1)) w = dLow (ts.take k) w + dmd t w false := sum_snoc _ h
theorem sum_le {f g : Tk → Nat} : ∀ {ts : List Tk}, (∀ t ∈ ts, f t ≤ g t) → (ts.map f).sum ≤ (ts.map g).sum
  | [], _ => Nat.le_refl _
  | t :: ts, h => by
    simp only [List.map_cons, List.sum_cons]
    have h1 := h t (by simp)
    have h2 := sum_le (ts := ts) fun x hx => h x (by simp [hx])
    omega
theorem tsum_bound {f : Tk → Nat} {b : Nat} : ∀ {ts : List Tk}, (∀ t ∈ ts, f t ≤ b) → (ts.map f).sum ≤ ts.length * b
  | [], _ => by simp
  | t :: ts, h => by
    simp only [List.map_cons, List.sum_cons, List.length_cons]
    have h1 := h t (by simp)
    have h2 := tsum_bound (ts := ts) fun x hx => h x (by simp [hx])
    rw [Nat.succ_mul]
    omega
theorem dLow_mono (ts : List Tk) {v w : Nat} (h : v ≤ w) : dLow ts v ≤ dLow ts w := sum_le fun t _ => dmd_mono t false h
theorem dLow_bound {ts : List Tk} (h : setB ts = true) (w : Nat) : dLow ts w ≤ 100 * (w + 20) := by
  have h1 := tsum_bound (f := fun t => dmd t w false) fun t ht => dmd_bound (set_ok h ht) w false
  have h2 := setB_len h
  have h3 : ts.length * (20 * (w + 20)) ≤ 5 * (20 * (w + 20)) := Nat.mul_le_mul_right _ h2
  unfold dLow
  omega
def respOf (xs : List Tk) (n d : Nat) : Option Nat := leastN (fun w => n + dLow xs w) n d
def rLow (ts : List Tk) (k : Nat) : Option Nat :=
  if setB ts then match ts[k]? with
    | some t => respOf (ts.take k) t.lo.toNat t.du.toNat
    | none => none
  else none
def hLow (ts : List Tk) : Bool := setB ts && (List.range ts.length).all fun k => (rLow ts k).isSome
theorem resp_mono (xs : List Tk) (n : Nat) : ∀ v w, v ≤ w → n + dLow xs v ≤ n + dLow xs w := fun v w h => Nat.add_le_add_left (dLow_mono xs h) n
theorem rLow_bad {ts : List Tk} (k : Nat) (h : setB ts = false) : rLow ts k = none := by unfold rLow; rw [h]; rfl
theorem rLow_past {ts : List Tk} {k : Nat} (h : ts[k]? = none) : rLow ts k = none := by unfold rLow; rw [h]; split <;> rfl
theorem rLow_at {ts : List Tk} {k : Nat} {t : Tk} (hs : setB ts = true) (h : ts[k]? = some t) : rLow ts k = respOf (ts.take k) t.lo.toNat t.du.toNat := by
  unfold rLow; rw [hs, h]; rfl
theorem all_range {p : Nat → Bool} {n : Nat} : (List.range n).all p = true ↔ ∀ k, k < n → p k = true := by
  rw [List.all_eq_true]
  exact ⟨fun h k hk => h k (List.mem_range.2 hk), fun h k hk => h k (List.mem_range.1 hk)⟩
theorem hLow_bad {ts : List Tk} (hs : setB ts = false) : hLow ts = false := by unfold hLow; rw [hs]; rfl
theorem hLow_iff {ts : List Tk} : hLow ts = true ↔ setB ts = true ∧ ∀ k, k < ts.length → (rLow ts k).isSome = true := by
  unfold hLow; rw [Bool.and_eq_true, all_range]
theorem hLow_no {ts : List Tk} {k : Nat} (hk : k < ts.length) (hb : rLow ts k = none) : hLow ts = false := by
  cases h : hLow ts
  · rfl
  · have := (hLow_iff.1 h).2 k hk
    rw [hb] at this; cases this
end
section
open Go.RowKit
set_option linter.unusedVariables false
def resN (o : Option Nat) : Nat × Bool := (o.getD 0, o.isSome)
def NbRes (v : Nat) (b : Bool) (w : World) (e : Ending) (w' : World) : Prop := e = .returned (.tuple #[.int .i64 (v : Int), .bool b]) ∧ Below w.heap.size w w'
def NextIs (k : Nat) (cap : Array Value) (F : Nat → Nat) (lo hi : Nat) (w : World) : Prop :=
  ∀ (W : World) (v : Nat), lo ≤ v → v ≤ hi → Below w.heap.size w W → Calls Tryz.prog k (#[.int .i64 (v : Int)] ++ cap) W fun e W' => e = .returned (.int .i64 (F v : Int)) ∧ Below W.heap.size W W'
def lfW (a : Act) : Nat := (intOf (a.tmps.getD 8 undef)).toNat
set_option maxRecDepth 100000 in
set_option maxHeartbeats 2000000 in
theorem iLeast_is (w : World) (lo hi k : Nat) (cap : Array Value) (F : Nat → Nat) (v : Nat) (b : Bool) (ho : resN (leastN F lo hi) = (v, b)) (hm : ∀ x y, x ≤ y → F x ≤ F y) (hF : ∀ x, lo ≤ x → lo ≤ F x) (hB : ∀ x, x ≤ hi → F x ≤ 1000000000000) (hhi : hi ≤ 100000000) (hlo : lo ≤ 100000000)
    (ek : ∀ args w, (callFunc k args).run Tryz.prog w = .ok (.enter k args) w) (hfn : NextIs k cap F lo hi w) :
    Calls Tryz.prog 64 #[.int .i64 (lo : Int), .int .i64 (hi : Int), .func (.func k) #[] cap] w (NbRes v b w) := by
  have HO := Lib.hid ho
  have HM := Lib.hid hm
  have HF := Lib.hid hF
  have HB := Lib.hid hB
  have HFN := Lib.hid hfn
  clear ho hm hF hB hfn
  go_enter Tryz.func64, Tryz.ntmps64
  go_wp2
  refine wp_scope_jumps 0 (fun a' w' => Below w.heap.size w w' ∧ ∃ (x : Nat) (u3 u4 u5 u9 u10 u11 u12 u13 u14 u15 u16 u17 u18 u19 u20 u21 : Value), a' = { tmps := #[.int .i64 (lo : Int), .int .i64 (hi : Int), .func (.func k) #[] cap, u3, u4, u5, .int .i64 0, .bool false, .int .i64 (x : Int), u9, u10, u11, u12, u13, u14, u15, u16, u17, u18, u19, u20, u21], defers := [] } ∧ NoneBelow F lo x ∧ x ≤ 1000000000000) (fun a' _ => hi + 1 - lfW a') rfl ?_ ?_
  · by_cases hx : hi < lo
    · obtain ⟨rfl, rfl⟩ : 0 = v ∧ false = b := Prod.mk.inj (by rw [← HO.out, least_past (none_start F lo) hx]; rfl)
      go_wp2
      go_step3
      go_wp2
      simp only [Exit.jump]
      go_ret2
      exact ⟨rfl, Below.refl _ _⟩
    · have hc := HFN.out w lo (Nat.le_refl _) (by omega) (Below.refl _ _)
      have hcb := HB.out lo (by omega)
      by_cases he : F lo = lo
      · have hei : (F lo : Int) = (lo : Int) := by omega
        obtain ⟨rfl, rfl⟩ : lo = v ∧ true = b := Prod.mk.inj (by rw [← HO.out, least_hit (none_start F lo) (by omega) he]; rfl)
        go_wp2
        go_step3
        go_wp2_with (go_at_fn k; refine hc.mono ?_; rintro e w' ⟨rfl, hb'⟩)
        simp only [Exit.jump]
        go_ret2
        exact ⟨rfl, hb'⟩
      · have hei : ¬ (F lo : Int) = (lo : Int) := by omega
        have hnx := none_step HM.out HF.out (none_start F lo)
        have HN := Lib.hid hnx
        clear hnx
        go_wp2
        go_step3
        go_wp2_with (go_at_fn k; refine hc.mono ?_; rintro e w' ⟨rfl, hb'⟩)
        go_step3
        exact ⟨rfl, hb', F lo, _, _, _, _, _, _, _, _, _, _, _, _, _, _, _, _, rfl, HN.out, hcb⟩
  · rintro a' w' ⟨hb, x, u3, u4, u5, u9, u10, u11, u12, u13, u14, u15, u16, u17, u18, u19, u20, u21, rfl, hnn, hxb⟩
    have HN := Lib.hid hnn
    have HW := Lib.hid hb
    have hge := hnn.1
    clear hnn hb
    by_cases hx : hi < x
    · obtain ⟨rfl, rfl⟩ : 0 = v ∧ false = b := Prod.mk.inj (by rw [← HO.out, least_past HN.out hx]; rfl)
      go_wp2
      simp only [Exit.jump]
      go_ret2
      exact ⟨rfl, HW.out⟩
    · have hc := HFN.out w' x hge (by omega) HW.out
      have hcb := HB.out x (by omega)
      by_cases he : F x = x
      · have hei : (F x : Int) = (x : Int) := by omega
        obtain ⟨rfl, rfl⟩ : x = v ∧ true = b := Prod.mk.inj (by rw [← HO.out, least_hit HN.out (by omega) he]; rfl)
        go_wp2_with (go_at_fn k; refine hc.mono ?_; rintro e w2 ⟨rfl, hb'⟩)
        simp only [Exit.jump]
        go_ret2
        exact ⟨rfl, bl_trans HW.out hb'⟩
      · have hei : ¬ (F x : Int) = (x : Int) := by omega
        have hnx := none_step HM.out HF.out HN.out
        have hlt := none_le HM.out HF.out HN.out
        have HN2 := Lib.hid hnx
        clear hnx
        go_wp2_with (go_at_fn k; refine hc.mono ?_; rintro e w2 ⟨rfl, hb'⟩)
        go_step3
        exact ⟨rfl, ⟨bl_trans HW.out hb', F x, _, _, _, _, _, _, _, _, _, _, _, _, _, _, _, _, rfl, HN2.out, hcb⟩, by simp [lfW, intOf]; omega⟩
end
section
open Go.RowKit
set_option linter.unusedVariables false
theorem dem_cast {n z j : Nat} (hz : 1 ≤ z) (hj : (n + z - 1) / z = j) : 0 ≤ (n : Int) + (z : Int) - 1 ∧ Int.tdiv ((n : Int) + (z : Int) - 1) (z : Int) = (j : Int) ∧ ((n : Int) + (z : Int) - 1) / (z : Int) = (j : Int) := by
  have h0 : 0 ≤ (n : Int) + (z : Int) - 1 := by omega
  have h1 : ((n : Int) + (z : Int) - 1) / (z : Int) = (j : Int) := by
    have : (n : Int) + (z : Int) - 1 = ((n + z - 1 : Nat) : Int) := by omega
    rw [this, ← hj]; simp
  exact ⟨h0, by rw [Int.tdiv_eq_ediv_of_nonneg h0]; exact h1, h1⟩
theorem needT_ex (w : World) (lo hi du ev : Int) (cr b : Bool) :
    Calls Tryz.prog 57 #[.agg #[.int .i64 lo, .int .i64 hi, .int .i64 du, .int .i64 ev, .bool cr], .bool b] w fun e w' => e = .returned (.int .i64 (if b then hi else lo)) ∧ w.alloc (.cells #[.int .i64 lo, .int .i64 hi, .int .i64 du, .int .i64 ev, .bool cr] 43) = w' := by
  cases b <;>
  · go_enter Tryz.func57, Tryz.ntmps57
    go_wp2
    go_ret
    exact ⟨rfl, rfl⟩
set_option maxHeartbeats 1000000 in
theorem iDemand_is (w : World) (lo hi du ev : Int) (cr : Bool) (n : Nat) (hb : Bool) (m : Nat) (hv : validB lo hi du ev cr = true) (hn : n ≤ 100000000) (hm : dmd ⟨lo, hi, du, ev, cr⟩ n hb = m) :
    Calls Tryz.prog 108 #[.agg #[.int .i64 lo, .int .i64 hi, .int .i64 du, .int .i64 ev, .bool cr], .int .i64 (n : Int), .bool hb] w fun e w' =>
      e = .returned (.int .i64 (m : Int)) ∧ (w.alloc (.cells #[.int .i64 lo, .int .i64 hi, .int .i64 du, .int .i64 ev, .bool cr] 43)).alloc (.cells #[.int .i64 lo, .int .i64 hi, .int .i64 du, .int .i64 ev, .bool cr] 43) = w' := by
  obtain ⟨h1, h2, h3, h4, h5, _⟩ := ok_parts (t := ⟨lo, hi, du, ev, cr⟩) hv
  dsimp only at h1 h2 h3 h4 h5
  obtain ⟨a, rfl⟩ := Int.eq_ofNat_of_zero_le (show 0 ≤ lo by omega)
  obtain ⟨b, rfl⟩ := Int.eq_ofNat_of_zero_le (show 0 ≤ hi by omega)
  obtain ⟨z, rfl⟩ := Int.eq_ofNat_of_zero_le (show 0 ≤ ev by omega)
  obtain ⟨j, hj⟩ : ∃ j, (n + z - 1) / z = j := ⟨_, rfl⟩
  have hjn : j ≤ n + 20 := by rw [← hj]; exact Nat.le_trans (Nat.div_le_self _ _) (by omega)
  obtain ⟨q1, q2, q3⟩ := dem_cast (n := n) (z := z) (by omega) hj
  have hjp : 0 ≤ (j : Int) := by omega
  cases hb
  · have hm' : j * a = m := by rw [← hm, ← hj]; rfl
    have hA : (a : Int) * (j : Int) = (m : Int) := by rw [← hm', Int.natCast_mul, Int.mul_comm]
    have hA' : (j : Int) * (a : Int) = (m : Int) := by rw [← hm', Int.natCast_mul]
    have hmb : m ≤ 20 * (n + 20) := by rw [← hm', Nat.mul_comm]; exact Nat.mul_le_mul (by omega) hjn
    clear hm hm' hj hv
    have HNX := Lib.hid (fun W : World => needT_ex W (a : Int) (b : Int) du (z : Int) cr false)
    have cT := (Blk.new w 43 #[.int .i64 (a : Int), .int .i64 (b : Int), .int .i64 du, .int .i64 (z : Int), .bool cr]).cell
    go_enter Tryz.func108, Tryz.ntmps108
    go_wp2_with fail
    refine (HNX.out _).mono ?_
    rintro e w' ⟨rfl, rfl⟩
    go_wp2
    go_ret
    exact ⟨by simp [*], by simp [*]⟩
  · have hm' : j * b = m := by rw [← hm, ← hj]; rfl
    have hA : (b : Int) * (j : Int) = (m : Int) := by rw [← hm', Int.natCast_mul, Int.mul_comm]
    have hA' : (j : Int) * (b : Int) = (m : Int) := by rw [← hm', Int.natCast_mul]
    have hmb : m ≤ 20 * (n + 20) := by rw [← hm', Nat.mul_comm]; exact Nat.mul_le_mul (by omega) hjn
    clear hm hm' hj hv
    have HNX := Lib.hid (fun W : World => needT_ex W (a : Int) (b : Int) du (z : Int) cr true)
    have cT := (Blk.new w 43 #[.int .i64 (a : Int), .int .i64 (b : Int), .int .i64 du, .int .i64 (z : Int), .bool cr]).cell
    go_enter Tryz.func108, Tryz.ntmps108
    go_wp2_with fail
    refine (HNX.out _).mono ?_
    rintro e w' ⟨rfl, rfl⟩
    go_wp2
    go_ret
    exact ⟨by simp [*], by simp [*]⟩
end
section
open Go.RowKit
set_option linter.unusedVariables false
def NumIs (m : Nat) (w : World) (e : Ending) (w' : World) : Prop := e = .returned (.int .i64 (m : Int)) ∧ Below w.heap.size w w'
theorem take_all {ts : List Tk} {k : Nat} (h : ts.length ≤ k) : ts.take k = ts := List.take_of_length_le h
theorem get_at {ts : List Tk} {k n : Nat} (h : ts.length = n) (hk : k < n) : ∃ t, ts[k]? = some t := ⟨ts[k]'(by omega), List.getElem?_eq_getElem _⟩
set_option maxHeartbeats 1000000 in
theorem iDemLow_is (w : World) (A : Option Addr) (n c : Nat) (ts : List Tk) (h : Tks w w.heap.size A n ts) (hs : setB ts = true) (x m : Nat) (hx : x ≤ 10000000) (hm : dLow ts x = m) :
    Calls Tryz.prog 66 #[.slice A n c, .int .i64 (x : Int)] w (NumIs m w) := by
  have H := Lib.hid h
  have HL := Lib.hid h.len
  have HS := Lib.hid hs
  have HM := Lib.hid hm
  have h5 : n ≤ 5 := by have := setB_len hs; rw [HL.out] at this; exact this
  clear h hs hm
  go_enter Tryz.func66, Tryz.ntmps66
  go_wp2
  go_loopw [5, 10] (fun s i wr => ∃ k : Nat, k ≤ n ∧ i = .int .i64 k ∧ s = .int .i64 (dLow (ts.take k) x : Nat) ∧ Below w.heap.size w wr) (fun _ i _ => n - (intOf i).toNat)
  case atStart => exact ⟨0, Nat.zero_le _, rfl, rfl, Below.refl _ _⟩
  case round =>
    obtain ⟨k, hk, rfl, rfl, hb⟩ := hrel
    have HB := Lib.hid hb
    clear hb
    by_cases hlt : k < n
    · obtain ⟨t, ht⟩ := get_at HL.out hlt
      obtain ⟨b, o, rfl, hbl, c0, c1, c2, c3, c4⟩ := (H.out.below HB.out).at_ k t ht
      have HT := Lib.hid (dLow_take ht x)
      have HV := Lib.hid (set_ok HS.out (get_mem ht))
      have hb1 := dLow_bound (set_take HS.out k) x
      have hb2 := dmd_bound HV.out x false
      obtain ⟨lo, hi, du, ev, cr⟩ := t
      dsimp only at c0 c1 c2 c3 c4
      obtain ⟨d, hd⟩ : ∃ d, dmd ⟨lo, hi, du, ev, cr⟩ x false = d := ⟨_, rfl⟩
      rw [hd] at hb2
      have HT' : Hid (dLow (ts.take (k + 1)) x = dLow (ts.take k) x + d) := by have := HT.out; rw [hd] at this; exact this
      have HD := Lib.hid hd
      clear ht hd HT
      generalize dLow (ts.take k) x = s at *
      have hsz := HB.out.size
      go_wp2_with (go_at_call 108; refine (iDemand_is _ lo hi du ev cr x false d HV.out (by omega) HD.out).mono ?_; rintro e w2 ⟨rfl, rfl⟩)
      go_roundw
      case rel => exact ⟨k + 1, by omega, by go_num, by rw [HT'.out]; go_num, by repeat (first | with_reducible exact HB.out | refine bl_alloc ?_ _ | refine bl_set ?_ (by simp; omega) _)⟩
      case measure => simp [intOf]; omega
    · obtain rfl : k = n := by omega
      have hbd := dLow_bound HS.out x
      have HE : Hid (dLow (ts.take k) x = m) := by show _ = _; rw [take_all (by rw [HL.out]; omega)]; exact HM.out
      go_wp2
      go_ret
      exact ⟨by rw [HE.out]; rfl, HB.out⟩
set_option maxHeartbeats 1000000 in
theorem iCloLow_is (w : World) (Bt Bs : Nat) (A : Option Addr) (k c : Nat) (us : List Tk) (lo : Nat) (hT : w.cell? ⟨Bt, 0, none⟩ = some (.int .i64 (lo : Int))) (hS : w.cell? ⟨Bs, 0, none⟩ = some (.slice A k c)) (hTs : Tks w w.heap.size A k us) (hs : setB us = true) (hlo : lo ≤ 20) (x m : Nat) (hx : x ≤ 10000000) (hm : lo + dLow us x = m) (hbt : Bt < w.heap.size) (hbs : Bs < w.heap.size) :
    Calls Tryz.prog 65 #[.int .i64 (x : Int), .pointer (some ⟨Bt, 0, none⟩), .pointer (some ⟨Bs, 0, none⟩)] w (NumIs m w) := by
  have H := Lib.hid hTs
  have HS := Lib.hid hs
  obtain ⟨d, hd⟩ : ∃ d, dLow us x = d := ⟨_, rfl⟩
  have hdb := dLow_bound hs x
  rw [hd] at hm hdb
  subst hm
  have HD := Lib.hid hd
  have kw : IntKind.i64.wrap ((lo : Int) + (d : Int)) = (lo : Int) + (d : Int) := IntWalk.i64_in _ (by omega)
  have hS0 : w.cell? ⟨Bt, 0, none⟩ = some (.int .i64 (lo : Int)) ∧ w.cell? ⟨Bs, 0, none⟩ = some (.slice A k c) := ⟨hT, hS⟩
  clear hTs hs hd
  go_enter Tryz.func65, Tryz.ntmps65
  go_wp2_with fail
  go_region_held3 (fun W => W.cell? ⟨Bt, 0, none⟩ = some (.int .i64 (lo : Int)) ∧ W.cell? ⟨Bs, 0, none⟩ = some (.slice A k c)) (first | exact hS0 | exact hS2)
    ((first
      | (go_at_call 66; refine (iDemLow_is _ A k c us ?_ HS.out x d hx HD.out).mono ?_; exact H.out.below (by repeat (first | with_reducible exact Below.refl w.heap.size w | with_reducible refine Below.drew ?_ | with_reducible refine bl_drewN ?_ _)); rintro e w2 ⟨rfl, hb⟩; have HB2 := Lib.hid (show Below w.heap.size w w2 from bl_trans (by repeat (first | with_reducible exact Below.refl w.heap.size w | with_reducible refine bl_drewN ?_ _ | with_reducible refine Below.drew ?_)) hb); have hS2 : w2.cell? ⟨Bt, 0, none⟩ = some (.int .i64 (lo : Int)) ∧ w2.cell? ⟨Bs, 0, none⟩ = some (.slice A k c) := ⟨(HB2.out.cell (p := ⟨Bt, 0, none⟩) hbt).trans hT, (HB2.out.cell (p := ⟨Bs, 0, none⟩) hbs).trans hS⟩; clear hb)))
  go_wp2
  go_ret
  exact ⟨by first | rfl | go_num, HB2.out⟩
set_option maxHeartbeats 1000000 in
theorem iHas_is (w : World) (A : Option Addr) (n c : Nat) (ts : List Tk) (a : Int) (h : Tks w w.heap.size A n ts) (hn : n ≤ 1048576) (b : Bool) (hb : (setB ts && (decide (0 ≤ a) && decide (a < (n : Int)))) = b) :
    Calls Tryz.prog 63 #[.slice A n c, .int .i64 a] w fun e w' => e = .returned (.bool b) ∧ Below w.heap.size w w' := by
  have H := Lib.hid h
  clear h
  cases hs : setB ts
  · subst hb
    go_enter Tryz.func63, Tryz.ntmps63
    go_wp2_with (go_at_call 53; refine (iSetValid_any _ A n c ts H.out hn).mono ?_; rintro e w2 ⟨rfl, hb2⟩)
    go_ret
    exact ⟨by simp [hs], hb2⟩
  rw [hs, Bool.true_and] at hb
  by_cases h0 : 0 ≤ a
  · by_cases h1 : a < (n : Int)
    · rw [decide_eq_true h0, decide_eq_true h1] at hb
      subst hb
      go_enter Tryz.func63, Tryz.ntmps63
      go_wp2_with (go_at_call 53; refine (iSetValid_any _ A n c ts H.out hn).mono ?_; rintro e w2 ⟨rfl, hb2⟩)
      go_ret
      exact ⟨by simp [*], hb2⟩
    · rw [decide_eq_true h0, decide_eq_false h1] at hb
      subst hb
      go_enter Tryz.func63, Tryz.ntmps63
      go_wp2_with (go_at_call 53; refine (iSetValid_any _ A n c ts H.out hn).mono ?_; rintro e w2 ⟨rfl, hb2⟩)
      go_ret
      exact ⟨by simp [*], hb2⟩
  · rw [decide_eq_false h0] at hb
    subst hb
    go_enter Tryz.func63, Tryz.ntmps63
    go_wp2_with (go_at_call 53; refine (iSetValid_any _ A n c ts H.out hn).mono ?_; rintro e w2 ⟨rfl, hb2⟩)
    go_ret
    exact ⟨by simp [*], hb2⟩
theorem cloLow_next (w : World) (Bt Bs : Nat) (A : Option Addr) (k c : Nat) (us : List Tk) (lo hi du : Nat) (h1 h2 h3 h4 : Value) (hT : Blk w Bt 43 #[.int .i64 (lo : Int), h1, h2, h3, h4]) (hS : Blk w Bs 23 #[.slice A k c]) (hTs : Tks w w.heap.size A k us) (hs : setB us = true) (hlo : lo ≤ 20) (hdu : du ≤ 10000000) :
    NextIs 65 #[.pointer (some ⟨Bt, 0, none⟩), .pointer (some ⟨Bs, 0, none⟩)] (fun x => lo + dLow us x) lo du w := fun W x h1 h2 hb =>
  iCloLow_is W Bt Bs A k c us lo ((hb.cell (p := ⟨Bt, 0, none⟩) hT.lt).trans (hT.cell 0)) ((hb.cell (p := ⟨Bs, 0, none⟩) hS.lt).trans (hS.cell 0)) ((hTs.below hb).more hb.size) hs hlo x _ (by omega) rfl (Nat.lt_of_lt_of_le hT.lt hb.size) (Nat.lt_of_lt_of_le hS.lt hb.size)
theorem blk_second (w : World) (o : Obj) (t : TypeId) (cs : Array Value) : Blk ((w.alloc o).alloc (.cells cs t)) (w.heap.size + 1) t cs := by
  have h := Blk.new (w.alloc o) t cs
  simp only [World.size_alloc] at h
  exact h
def atI (f : Nat → Option Nat) (a : Int) : Option Nat := if 0 ≤ a then f a.toNat else none
set_option maxRecDepth 100000 in
set_option maxHeartbeats 2000000 in
theorem iRLow_is (w : World) (A : Option Addr) (n c : Nat) (ts : List Tk) (a : Int) (h : Tks w w.heap.size A n ts) (hn : n ≤ 1048576) (hnc : n ≤ c) (v : Nat) (b : Bool) (hv : resN (atI (rLow ts) a) = (v, b)) :
    Calls Tryz.prog 20 #[.slice A n c, .int .i64 a] w (NbRes v b w) := by
  have H := Lib.hid h
  have HL := Lib.hid h.len
  clear h
  cases hh : (setB ts && (decide (0 ≤ a) && decide (a < (n : Int))))
  · have hr : atI (rLow ts) a = none := by
      unfold atI
      split
      · rename_i h0
        cases hs : setB ts
        · exact rLow_bad _ hs
        · rw [hs, Bool.true_and, decide_eq_true h0, Bool.true_and] at hh
          have h1 : ¬ a < (n : Int) := of_decide_eq_false hh
          exact rLow_past (List.getElem?_eq_none (by have := HL.out; omega))
      · rfl
    rw [hr] at hv
    obtain ⟨rfl, rfl⟩ := Prod.mk.inj hv
    have HH := Lib.hid hh
    clear hr hv hh
    go_enter Tryz.func20, Tryz.ntmps20
    go_wp2_with (go_at_call 63; refine (iHas_is _ A n c ts a H.out hn false HH.out).mono ?_; rintro e w1 ⟨rfl, hb⟩)
    go_ret2
    exact ⟨rfl, hb⟩
  have HH := Lib.hid hh
  rw [Bool.and_eq_true, Bool.and_eq_true, decide_eq_true_iff, decide_eq_true_iff] at hh
  obtain ⟨hs, h0, h1⟩ := hh
  obtain ⟨k, rfl⟩ := Int.eq_ofNat_of_zero_le h0
  have hk : k < n := by omega
  obtain ⟨t, ht⟩ := get_at HL.out hk
  have hr : atI (rLow ts) (k : Int) = respOf (ts.take k) t.lo.toNat t.du.toNat := by
    unfold atI; rw [if_pos h0]; exact rLow_at hs ht
  rw [hr] at hv
  have hok := ok_parts (set_ok hs (get_mem ht))
  have HS := Lib.hid (set_take hs k)
  have HT := Lib.hid ht
  have HV := Lib.hid hv
  clear hr hv ht hs
  obtain ⟨lo, hi, du, ev, cr⟩ := t
  dsimp only at hok HV
  obtain ⟨p1, p2, p3, p4, p5, _⟩ := hok
  obtain ⟨lo, rfl⟩ := Int.eq_ofNat_of_zero_le (show 0 ≤ lo by omega)
  obtain ⟨du, rfl⟩ := Int.eq_ofNat_of_zero_le (show 0 ≤ du by omega)
  go_enter Tryz.func20, Tryz.ntmps20
  go_wp2_with fail
  refine (iHas_is _ A n c ts (k : Int) H.out hn true HH.out).mono ?_
  rintro e w1 ⟨rfl, hb⟩
  have HB1 := Lib.hid hb
  have hsz := hb.size
  obtain ⟨bb, o, rfl, hbl, c0, c1, c2, c3, c4⟩ := (H.out.below hb).at_ k _ HT.out
  dsimp only at c0 c1 c2 c3 c4
  have HTk := Lib.hid (Tks.take ((H.out.below hb).more hb.size) (show k ≤ n by omega))
  clear hb
  have hbl1 : bb < w1.heap.size := by omega
  have hbl2 : bb < w1.heap.size + 1 := by omega
  have i1 : (k : Int) < (n : Int) := h1
  have i2 : (k : Int) ≤ (c : Int) := by omega
  have i3 : ¬ (c : Int) < (k : Int) := by omega
  go_wp2
  go_region
  all_goals go_wp2_with fail
  · refine (iLeast_is _ lo du 65 _ (fun x => lo + dLow (ts.take k) x) v b HV.out (resp_mono _ lo) (fun x _ => Nat.le_add_right _ _) (fun x hx => by have := dLow_bound HS.out x; omega) (by omega) (by omega) (fun _ _ => rfl) (cloLow_next _ _ _ (some ⟨bb, o, none⟩) k c (ts.take k) lo 0 du _ _ _ _ (((Blk.new w1 _ _).alloc _).drewN 1) ((blk_second w1 _ _ _).drewN 1) ((HTk.out.below (bl_drewN (bl_alloc (bl_alloc (Below.refl w1.heap.size w1) _) _) 1)).more (bl_drewN (bl_alloc (bl_alloc (Below.refl w1.heap.size w1) _) _) 1).size) HS.out (by omega) (by omega))).mono ?_
    rintro e w2 ⟨rfl, hb2⟩
    go_wp2
    go_ret2
    exact ⟨rfl, bl_trans (bl_drewN (bl_alloc (bl_alloc HB1.out _) _) 1) hb2⟩
  · refine (iLeast_is _ lo du 65 _ (fun x => lo + dLow (ts.take k) x) v b HV.out (resp_mono _ lo) (fun x _ => Nat.le_add_right _ _) (fun x hx => by have := dLow_bound HS.out x; omega) (by omega) (by omega) (fun _ _ => rfl) (cloLow_next _ _ _ (some ⟨bb, o, none⟩) k c (ts.take k) lo 0 du _ _ _ _ ((blk_second w1 _ _ _).drewN 1) (((Blk.new w1 _ _).alloc _).drewN 1) ((HTk.out.below (bl_drewN (bl_alloc (bl_alloc (Below.refl w1.heap.size w1) _) _) 1)).more (bl_drewN (bl_alloc (bl_alloc (Below.refl w1.heap.size w1) _) _) 1).size) HS.out (by omega) (by omega))).mono ?_
    rintro e w2 ⟨rfl, hb2⟩
    go_wp2
    go_ret2
    exact ⟨rfl, bl_trans (bl_drewN (bl_alloc (bl_alloc HB1.out _) _) 1) hb2⟩
end
section
open Go.RowKit
set_option linter.unusedVariables false
theorem at_nat (f : Nat → Option Nat) (k : Nat) : atI f (k : Int) = f k := by unfold atI; rw [if_pos (by omega)]; rfl
end
section
open Go.RowKit
set_option linter.unusedVariables false
def BoRes (b : Bool) (w : World) (e : Ending) (w' : World) : Prop := e = .returned (.bool b) ∧ Below w.heap.size w w'
theorem res_some (o : Option Nat) : resN o = (o.getD 0, o.isSome) := rfl
set_option maxHeartbeats 2000000 in
theorem iHLow_is (w : World) (A : Option Addr) (n c : Nat) (ts : List Tk) (h : Tks w w.heap.size A n ts) (hn : n ≤ 1048576) (hnc : n ≤ c) (b : Bool) (hv : hLow ts = b) :
    Calls Tryz.prog 16 #[.slice A n c] w (BoRes b w) := by
  have H := Lib.hid h
  have HL := Lib.hid h.len
  clear h
  cases hs : setB ts
  · obtain rfl : false = b := by rw [← hv]; exact (hLow_bad hs).symm
    clear hv
    go_enter Tryz.func16, Tryz.ntmps16
    go_wp2_with (go_at_call 53; refine (iSetValid_any _ A n c ts H.out hn).mono ?_; rintro e w1 ⟨rfl, hb⟩)
    go_ret
    exact ⟨rfl, hb⟩
  have HS := Lib.hid hs
  have HV := Lib.hid hv
  clear hs hv
  go_enter Tryz.func16, Tryz.ntmps16
  go_wp2_with fail
  refine (iSetValid_any _ A n c ts H.out hn).mono ?_
  rintro e w1 ⟨rfl, hb⟩
  rw [HS.out]
  have HB1 := Lib.hid hb
  clear hb
  go_wp2
  go_loopw [11] (fun i wr => ∃ k : Nat, k ≤ n ∧ i = .int .i64 k ∧ Hid (∀ j, j < k → (rLow ts j).isSome = true) ∧ Below w.heap.size w wr) (fun i _ => n - (intOf i).toNat)
  case atStart => exact ⟨0, Nat.zero_le _, rfl, (show ∀ j, j < 0 → _ from fun j hj => absurd hj (Nat.not_lt_zero _)), HB1.out⟩
  case round =>
    obtain ⟨k, hk, rfl, HA, hb⟩ := hrel
    have HB := Lib.hid hb
    clear hb
    by_cases hlt : k < n
    · have hlti : (k : Int) < (n : Int) := by omega
      have hkl : k < ts.length := by rw [HL.out]; exact hlt
      obtain ⟨p, hp⟩ : ∃ p, (rLow ts k).isSome = p := ⟨_, rfl⟩
      have HP := Lib.hid hp
      obtain ⟨x, hx⟩ : ∃ x, resN (atI (rLow ts) (k : Int)) = (x, p) := ⟨_, by rw [at_nat, res_some, hp]⟩
      have HX := Lib.hid hx
      clear hx
      clear hp
      go_wp2_with fail
      refine (iRLow_is _ A n c ts (k : Int) ((H.out.below HB.out).more HB.out.size) hn hnc x p HX.out).mono ?_
      rintro e w3 ⟨rfl, hb⟩
      have HB3 := Lib.hid (bl_trans HB.out hb)
      clear hb
      cases p
      · obtain rfl : false = b := by rw [← HV.out]; exact (hLow_no hkl (by have := HP.out; cases ho : rLow ts k <;> simp_all)).symm
        go_wp2
        go_ret
        exact ⟨rfl, HB3.out⟩
      · have HA' : Hid (∀ j, j < k + 1 → (rLow ts j).isSome = true) := by
          show ∀ j, j < k + 1 → _
          intro j hj
          rcases Nat.lt_or_ge j k with h | h
          · exact HA.out j h
          · obtain rfl : j = k := by omega
            exact HP.out
        go_wp2
        go_roundw
        case rel => exact ⟨k + 1, by omega, by go_num, HA', HB3.out⟩
        case measure => simp [intOf]; omega
    · obtain rfl : k = n := by omega
      obtain rfl : true = b := by rw [← HV.out]; exact (hLow_iff.2 ⟨HS.out, fun j hj => HA.out j (by rw [← HL.out]; exact hj)⟩).symm
      go_wp2
      go_ret
      exact ⟨rfl, HB.out⟩
end
section
open Go.RowKit
set_option linter.unusedVariables false
section
variable {ts : List Tk} {js : List Jb} {p : Po}
theorem lft_len (hv : jobsB ts js = true) {n k : Nat} (h : lft ts js p n k) : k < js.length ∧ (jobOf js k).tm < n := by
  obtain ⟨q, hq, rfl⟩ := h
  obtain ⟨i1, i2⟩ := run_at (p := p) hv n
  have hl := Nat.lt_of_lt_of_le (i1.wk q hq).1 i1.nx
  exact ⟨hl, (i2 _ hl).1 (i1.wk q hq).1⟩
theorem opn_g (hv : jobsB ts js = true) {n k : Nat} (h : opn ts js p n k) : 0 ≤ gN ts js p n k ∧ gN ts js p n k < (jobOf js k).ne ∧ (hiN ts js p n = true → (tkJ ts js k).cr = true) ∧ (hiN ts js p n = false → gN ts js p n k < (tkJ ts js k).lo) := by
  obtain ⟨o1, _, _⟩ := open_at (p := p) hv n
  obtain ⟨q, hq, rfl⟩ := h
  exact ⟨o1.pos _, (o1.wk q hq).2.2.2, fun hh => o1.crit hh q hq, fun hh => o1.low hh q hq⟩
end
end
section
open Go.RowKit
set_option linter.unusedVariables false
theorem sumZ_mul (f : Nat → Int) (c : Int) : ∀ n : Nat, sumZ (fun k => f k * c) n = sumZ f n * c
  | 0 => (Int.zero_mul c).symm
  | n + 1 => by
    show sumZ (fun k => f k * c) n + f n * c = (sumZ f n + f n) * c
    rw [sumZ_mul f c n, Int.add_mul]
theorem sumZ_class (cl : Nat → Int) (x : Nat → Int) (n : Nat) : ∀ i : Nat, sumZ (fun k => if 0 ≤ cl k ∧ cl k < i then x k else 0) n = sumZ (fun j => sumZ (fun k => if cl k = (j : Int) then x k else 0) n) i
  | 0 => sumZ_zero fun k _ => if_neg (by omega)
  | i + 1 => by
    show _ = sumZ (fun j => sumZ (fun k => if cl k = (j : Int) then x k else 0) n) i + sumZ (fun k => if cl k = (i : Int) then x k else 0) n
    rw [← sumZ_class cl x n i, ← sumZ_add]
    refine sumZ_congr fun k _ => ?_
    by_cases e : cl k = (i : Int)
    · rw [if_pos (by omega), if_neg (by omega), if_pos e]; omega
    · by_cases h : 0 ≤ cl k ∧ cl k < (i : Int)
      · rw [if_pos (by omega), if_pos h, if_neg e]; omega
      · rw [if_neg (by omega), if_neg h, if_neg e]; rfl
def cntZ (P : Nat → Bool) (n : Nat) : Int := sumZ (fun k => if P k then 1 else 0) n
theorem cntZ_succ (P : Nat → Bool) (n : Nat) : cntZ P (n + 1) = cntZ P n + if P n then 1 else 0 := rfl
theorem sumZ_cnt {P : Nat → Bool} {x : Nat → Int} {c : Int} {n : Nat} (h : ∀ k, k < n → P k = true → x k ≤ c) : sumZ (fun k => if P k then x k else 0) n ≤ cntZ P n * c := by
  unfold cntZ
  rw [← sumZ_mul]
  refine sumZ_le fun k hk => ?_
  try dsimp only
  by_cases e : P k = true
  · rw [if_pos e, if_pos e]; have := h k hk e; omega
  · rw [if_neg e, if_neg e]; omega
section
variable {ts : List Tk} {js : List Jb} {p : Po}
theorem cnt_far (hv : jobsB ts js = true) {P : Nat → Bool} {z T : Int} (hP : ∀ k, k < js.length → P k = true → (jobOf js k).ta = z ∧ (tkJ ts js k).ev = T) : ∀ n : Nat, n ≤ js.length → cntZ P n = 0 ∨ ∃ a b, a ≤ b ∧ b < n ∧ P a = true ∧ P b = true ∧ (cntZ P n - 1) * T ≤ (jobOf js b).tm - (jobOf js a).tm
  | 0, _ => .inl rfl
  | n + 1, hn => by
    have hnl : n < js.length := hn
    rw [cntZ_succ]
    by_cases e : P n = true
    · rw [if_pos e]
      right
      rcases cnt_far hv hP n (by omega) with h0 | ⟨a, b, h1, h2, h3, h4, h5⟩
      · exact ⟨n, n, Nat.le_refl _, Nat.lt_succ_self _, e, e, by rw [h0]; simp⟩
      · refine ⟨a, n, by omega, Nat.lt_succ_self _, h3, e, ?_⟩
        have h6 := tm_far hv h2 hnl ((hP b (by omega) h4).1.trans (hP n hnl e).1.symm)
        rw [(hP n hnl e).2] at h6
        rw [show cntZ P n + 1 - 1 = (cntZ P n - 1) + 1 by omega, Int.add_mul]
        omega
    · rw [if_neg e, Int.add_zero]
      rcases cnt_far hv hP n (by omega) with h0 | ⟨a, b, h1, h2, h3⟩
      · exact .inl h0
      · exact .inr ⟨a, b, h1, by omega, h3⟩
theorem work_eq (hv : jobsB ts js = true) (P : Nat → Bool) {n : Nat} : ∀ {m : Nat}, n ≤ m → (∀ u, n ≤ u → u < m → ∃ c, chN ts js p u = some c ∧ P c = true) → sumZ (fun k => if P k then gN ts js p m k - gN ts js p n k else 0) js.length = (m : Int) - n := by
  intro m hm
  induction hm with
  | refl => intro _; rw [sumZ_zero fun k _ => by split <;> omega]; omega
  | @step m hm ih =>
    intro h
    have hm' : n ≤ m := hm
    obtain ⟨c, hc, hP⟩ := h m hm (Nat.lt_succ_self _)
    have h0 := ih fun u h1 h2 => h u h1 (Nat.lt_succ_of_lt h2)
    have hcl := (opn_len hv (ch_some hv hc).1).1
    have e : sumZ (fun k => if P k then gN ts js p (m + 1) k - gN ts js p n k else 0) js.length = sumZ (fun k => (if P k then gN ts js p m k - gN ts js p n k else 0) + (if k = c then 1 else 0)) js.length := by
      refine sumZ_congr fun k _ => ?_
      try dsimp only
      have hk : gN ts js p (m + 1) k = if chN ts js p m = some k then gN ts js p m k + 1 else gN ts js p m k := rfl
      rw [hc] at hk
      by_cases e : k = c
      · subst e
        rw [if_pos rfl] at hk
        rw [if_pos hP, if_pos hP, if_pos rfl, hk]; omega
      · rw [if_neg fun e' => e (Option.some.inj e').symm] at hk
        rw [hk, if_neg e]; omega
    rw [show (m.succ) = m + 1 from rfl, e, sumZ_add, h0, sumZ_point (f := fun k => if k = c then (1 : Int) else 0) hcl (fun k _ hk => if_neg hk)]
    try dsimp only
    rw [if_pos rfl]
    omega
theorem task_work (hv : jobsB ts js = true) {Q : Nat → Bool} {x : Nat → Int} {z T c : Int} {a b : Int} (hT : 1 ≤ T) (hc : 0 ≤ c) (hQ : ∀ k, k < js.length → Q k = true → (jobOf js k).ta = z ∧ (tkJ ts js k).ev = T ∧ a ≤ (jobOf js k).tm ∧ (jobOf js k).tm < b ∧ x k ≤ c) : sumZ (fun k => if Q k then x k else 0) js.length ≤ (if a < b then (b - a + T - 1) / T * c else 0) := by
  refine Int.le_trans (sumZ_cnt (c := c) fun k hk e => (hQ k hk e).2.2.2.2) ?_
  rcases cnt_far hv (fun k hk e => ⟨(hQ k hk e).1, (hQ k hk e).2.1⟩) js.length (Nat.le_refl _) with h0 | ⟨u, v, h1, h2, h3, h4, h5⟩
  · rw [h0, Int.zero_mul]
    split
    · exact Int.mul_nonneg (Int.ediv_nonneg (by omega) (by omega)) hc
    · exact Int.le_refl _
  · have hu := (hQ u (by omega) h3).2.2.1
    have hv' := (hQ v h2 h4).2.2.2.1
    have hu2 := tm_mono hv h1 h2
    rw [if_pos (by omega)]
    refine Int.mul_le_mul_of_nonneg_right ?_ hc
    refine (Int.le_ediv_iff_mul_le (by omega)).2 ?_
    have : (cntZ Q js.length - 1) * T = cntZ Q js.length * T - T := by rw [Int.sub_mul, Int.one_mul]
    omega
end
end
section
open Go.RowKit
set_option linter.unusedVariables false
section
variable {ts : List Tk} {js : List Jb} {p : Po}
theorem dem_castI {n e : Int} {w : Nat} (hn : 0 ≤ n) (he : 1 ≤ e) : ((demN n.toNat e.toNat w : Nat) : Int) = ((w : Int) + e - 1) / e * n := by
  obtain ⟨a, rfl⟩ := Int.eq_ofNat_of_zero_le hn
  obtain ⟨b, rfl⟩ := Int.eq_ofNat_of_zero_le (show 0 ≤ e by omega)
  unfold demN
  simp only [Int.toNat_natCast]
  rw [Int.natCast_mul, Int.natCast_ediv]
  congr 2
  omega
theorem sum_tasks (f : Tk → Nat) : ∀ {i : Nat}, i ≤ ts.length → ((((ts.take i).map f).sum : Nat) : Int) = sumZ (fun j => ((f (tkOf ts (j : Int)) : Nat) : Int)) i
  | 0, _ => by simp [sumZ]
  | i + 1, h => by
    have hg : ts[i]? = some ts[i] := List.getElem?_eq_getElem (by omega)
    rw [sum_snoc f hg, Int.natCast_add, sum_tasks f (by omega)]
    show _ = sumZ (fun j => ((f (tkOf ts (j : Int)) : Nat) : Int)) i + ((f (tkOf ts (i : Int)) : Nat) : Int)
    rw [tkOf_get hg]
theorem busy_from (hv : jobsB ts js = true) (B : Nat → Prop) : ∀ a : Nat, ∃ t0, t0 ≤ a ∧ (∀ q, lft ts js p t0 q → ¬ B q) ∧ ∀ u, t0 < u → u ≤ a → ∃ q, lft ts js p u q ∧ B q
  | 0 => ⟨0, Nat.le_refl _, (fun q hq => by obtain ⟨_, h, _⟩ := hq; cases h), fun u h1 h2 => by omega⟩
  | a + 1 => by
    by_cases h : ∃ q, lft ts js p (a + 1) q ∧ B q
    · obtain ⟨t0, h1, h2, h3⟩ := busy_from hv B a
      refine ⟨t0, by omega, h2, fun u u1 u2 => ?_⟩
      by_cases e : u = a + 1
      · rw [e]; exact h
      · exact h3 u u1 (by omega)
    · exact ⟨a + 1, Nat.le_refl _, fun q hq hb => h ⟨q, hq, hb⟩, fun u h1 h2 => by omega⟩
theorem g_le (hv : jobsB ts js = true) {k : Nat} (hk : k < js.length) : ∀ n : Nat, gN ts js p n k ≤ (jobOf js k).ne
  | 0 => by have := (job_ok hv hk).1; show (0 : Int) ≤ _; omega
  | n + 1 => by
    show (if chN ts js p n = some k then gN ts js p n k + 1 else gN ts js p n k) ≤ _
    split
    · rename_i h
      have := (opn_g hv (ch_some hv h).1).2.1
      omega
    · exact g_le hv hk n
theorem g_low (hv : jobsB ts js = true) {k a : Nat} (hk : k < js.length) (ha : (a : Int) ≤ (jobOf js k).tm) : ∀ n : Nat, (∀ u, a ≤ u → u < n → hiN ts js p u = false) → gN ts js p n k ≤ (tkJ ts js k).lo
  | 0, _ => by have := (tk_nums (job_ok hv hk).2.2.2.2.2.2.2).1; show (0 : Int) ≤ _; omega
  | n + 1, h => by
    have ih := g_low hv hk ha n fun u h1 h2 => h u h1 (by omega)
    show (if chN ts js p n = some k then gN ts js p n k + 1 else gN ts js p n k) ≤ _
    split
    · rename_i hc
      have ho := (ch_some hv hc).1
      have := (opn_len hv ho).2
      have := (opn_g hv ho).2.2.2 (h n (by omega) (Nat.lt_succ_self _))
      omega
    · exact ih
theorem fp_work (hv : jobsB ts js = true) {i k t0 m : Nat} (hi : i ≤ ts.length) (hk : k < js.length) (hki : ¬ (jobOf js k).ta < (i : Int)) (hm : t0 ≤ m)
    (hP : ∀ u, t0 ≤ u → u < m → ∃ c, chN ts js p u = some c ∧ ((jobOf js c).ta < (i : Int) ∨ c = k)) (E cap : Nat → Int) (hcap : ∀ j, 0 ≤ cap j)
    (hx : ∀ q j : Nat, q < js.length → (jobOf js q).ta = (j : Int) → j < i → gN ts js p m q - gN ts js p t0 q ≤ if (t0 : Int) ≤ (jobOf js q).tm ∧ (jobOf js q).tm < E j then cap j else 0) :
    (m : Int) - t0 ≤ sumZ (fun j => if (t0 : Int) < E j then (E j - t0 + (tkOf ts (j : Int)).ev - 1) / (tkOf ts (j : Int)).ev * cap j else 0) i + (gN ts js p m k - gN ts js p t0 k) := by
  have hw := work_eq hv (P := fun q => decide (0 ≤ (jobOf js q).ta ∧ (jobOf js q).ta < (i : Int)) || decide (q = k)) hm fun u h1 h2 => by
    obtain ⟨c, hc, h⟩ := hP u h1 h2
    refine ⟨c, hc, ?_⟩
    have := (job_ok hv (opn_len hv (ch_some hv hc).1).1).2.2.2.1
    rcases h with h | h
    · simp [h, this]
    · simp [h]
  have e1 : sumZ (fun q => if (decide (0 ≤ (jobOf js q).ta ∧ (jobOf js q).ta < (i : Int)) || decide (q = k)) = true then gN ts js p m q - gN ts js p t0 q else 0) js.length =
      sumZ (fun q => (if 0 ≤ (jobOf js q).ta ∧ (jobOf js q).ta < (i : Int) then gN ts js p m q - gN ts js p t0 q else 0) + (if q = k then gN ts js p m q - gN ts js p t0 q else 0)) js.length := by
    refine sumZ_congr fun q _ => ?_
    by_cases h1 : 0 ≤ (jobOf js q).ta ∧ (jobOf js q).ta < (i : Int)
    · have h2 : q ≠ k := by rintro rfl; exact hki h1.2
      rw [if_pos h1, if_neg h2]
      simp [h1]
    · rw [if_neg h1]
      by_cases h2 : q = k
      · rw [if_pos h2]; simp [h2]
      · rw [if_neg h2]; simp [h1, h2]
  have e2 : sumZ (fun q => if q = k then gN ts js p m q - gN ts js p t0 q else 0) js.length = gN ts js p m k - gN ts js p t0 k := by
    rw [sumZ_point hk fun q _ hq => if_neg hq]
    exact if_pos rfl
  rw [← hw, e1, sumZ_add, e2, sumZ_class]
  refine Int.add_le_add_right (sumZ_le fun j hj => ?_) _
  have hjt : j < ts.length := by omega
  obtain ⟨t, ht⟩ : ∃ t, ts[j]? = some t := ⟨_, List.getElem?_eq_getElem hjt⟩
  have hev : 1 ≤ (tkOf ts (j : Int)).ev := by
    have hs : setB ts = true := by unfold jobsB at hv; simp only [Bool.and_eq_true] at hv; exact hv.1
    rw [tkOf_get ht]
    have := tk_nums (set_ok hs (get_mem ht))
    omega
  refine Int.le_trans ?_ (task_work hv (Q := fun q => decide ((jobOf js q).ta = (j : Int)) && (decide ((t0 : Int) ≤ (jobOf js q).tm) && decide ((jobOf js q).tm < E j))) (x := fun _ => cap j) (z := (j : Int)) (T := (tkOf ts (j : Int)).ev) (c := cap j) (a := (t0 : Int)) (b := E j) hev (hcap j) fun q _ hQ => ?_)
  · refine sumZ_le fun q hq => ?_
    try dsimp only
    by_cases e : (jobOf js q).ta = (j : Int)
    · rw [if_pos e]
      refine Int.le_trans (hx q j hq e hj) ?_
      by_cases h : (t0 : Int) ≤ (jobOf js q).tm ∧ (jobOf js q).tm < E j
      · rw [if_pos h, if_pos (by simp [e, h])]; exact Int.le_refl _
      · rw [if_neg h]
        split
        · exact hcap j
        · exact Int.le_refl _
    · rw [if_neg e]
      split
      · exact hcap j
      · exact Int.le_refl _
  · simp at hQ
    refine ⟨hQ.1, ?_, hQ.2.1, hQ.2.2, Int.le_refl _⟩
    unfold tkJ
    rw [hQ.1]
theorem set_jobs (hv : jobsB ts js = true) : setB ts = true := by unfold jobsB at hv; simp only [Bool.and_eq_true] at hv; exact hv.1
theorem fp_low (hv : jobsB ts js = true) {i k t0 a t R : Nat} {tk : Tk} (h : FpAt ts js p i k t0 a t) (hi : ts[i]? = some tk) (hR : tk.lo.toNat + dLow (ts.take i) R ≤ R) (ht : a + R ≤ t) (hlow : ∀ u, t0 ≤ u → u ≤ t0 + R → hiN ts js p u = false) : False := by
  have hs := set_jobs hv
  have hil : i < ts.length := (List.getElem?_eq_some_iff.1 hi).1
  have hok := tk_nums (set_ok hs (get_mem hi))
  have hle := h.le
  have hmt : t0 + R ≤ t := by omega
  have hw := fp_work hv (m := t0 + R) (Nat.le_of_lt hil) h.len (by rw [h.ta]; omega) (Nat.le_add_right _ _) (fun u h1 h2 => h.runs hv u h1 (by omega)) (fun _ => ((t0 + R : Nat) : Int)) (fun j => if 0 ≤ (tkOf ts (j : Int)).lo then (tkOf ts (j : Int)).lo else 0) (fun j => by split <;> omega) (fun q j hq hqj hj => by
    have hlo : 0 ≤ (tkOf ts (j : Int)).lo := by
      obtain ⟨u, hu⟩ : ∃ u, ts[j]? = some u := ⟨_, List.getElem?_eq_getElem (by omega)⟩
      rw [tkOf_get hu]; have := tk_nums (set_ok hs (get_mem hu)); omega
    rw [if_pos hlo]
    by_cases e1 : (t0 : Int) ≤ (jobOf js q).tm
    · rw [g_zero hv hq e1]
      by_cases e2 : (jobOf js q).tm < ((t0 + R : Nat) : Int)
      · rw [if_pos ⟨e1, e2⟩]
        have := g_low hv hq e1 (t0 + R) fun u h1 h2 => hlow u h1 (by omega)
        unfold tkJ at this
        rw [hqj] at this
        omega
      · rw [if_neg (fun e => e2 e.2), g_zero hv hq (by omega)]; omega
    · rw [h.before hv (by omega) (by omega) (Nat.le_add_right _ _), if_neg (fun e => e1 e.1)]; omega)
  rw [h.zero hv] at hw
  have hd := sum_tasks (ts := ts) (fun u => dmd u R false) (Nat.le_of_lt hil)
  have hsum : sumZ (fun j => if (t0 : Int) < ((t0 + R : Nat) : Int) then (((t0 + R : Nat) : Int) - t0 + (tkOf ts (j : Int)).ev - 1) / (tkOf ts (j : Int)).ev * (if 0 ≤ (tkOf ts (j : Int)).lo then (tkOf ts (j : Int)).lo else 0) else 0) i ≤ ((dLow (ts.take i) R : Nat) : Int) := by
    unfold dLow
    rw [hd]
    refine sumZ_le fun j hj => ?_
    obtain ⟨u, hu⟩ : ∃ u, ts[j]? = some u := ⟨_, List.getElem?_eq_getElem (by omega)⟩
    try dsimp only
    rw [tkOf_get hu]
    have hu2 := tk_nums (set_ok hs (get_mem hu))
    unfold dmd
    simp only [Bool.false_eq_true, if_false]
    rw [dem_castI (by omega) (by omega)]
    split
    · rw [if_pos (by omega)]
      rw [show ((t0 + R : Nat) : Int) - t0 = (R : Int) by omega]
      exact Int.le_refl _
    · exact Int.mul_nonneg (Int.ediv_nonneg (by omega) (by omega)) (by omega)
  have hk : gN ts js p (t0 + R) k < tk.lo := by
    by_cases e : a < t0 + R
    · have ho := opn_of_lft hv (lft_since hv h.left (u := t0 + R) (by rw [h.tm]; omega) hmt)
      have := (opn_g hv ho).2.2.2 (hlow _ (by omega) (Nat.le_refl _))
      unfold tkJ at this
      rw [h.ta, tkOf_get hi] at this
      exact this
    · rw [g_zero hv h.len (by rw [h.tm]; omega)]; omega
  have hR' : tk.lo + ((dLow (ts.take i) R : Nat) : Int) ≤ (R : Int) := by omega
  omega
end
end
section
open Go.RowKit
set_option linter.unusedVariables false
section
variable {ts : List Tk} {js : List Jb} {p : Po}
theorem bound_all (hv : jobsB ts js = true) (hd : p.due = false) (b : Nat → Nat) (hb : ∀ i tk, ts[i]? = some tk → (b i : Int) ≤ tk.ev)
    (hstep : ∀ i k t0 a t tk, ts[i]? = some tk → FpAt ts js p i k t0 a t → a + b i ≤ t → False) :
    ∀ k t, lft ts js p t k → (t : Int) < (jobOf js k).tm + b (jobOf js k).ta.toNat := by
  intro k
  induction k using Nat.strongRecOn with
  | _ k ih =>
    intro t hl
    obtain ⟨hk, htm⟩ := lft_len hv hl
    obtain ⟨a1, a2, a3, a4, a5, a6, a7, a8⟩ := job_ok hv hk
    obtain ⟨i, hi⟩ := Int.eq_ofNat_of_zero_le a4
    obtain ⟨a, ha⟩ := Int.eq_ofNat_of_zero_le a2
    have hil : i < ts.length := by omega
    have hti : ts[i]? = some ts[i] := List.getElem?_eq_getElem hil
    rw [hi, ha, Int.toNat_natCast]
    rcases Int.lt_or_le (t : Int) ((a : Int) + b i) with h | h
    · exact h
    · exfalso
      obtain ⟨t0, h1, h2, h3⟩ := busy_from (p := p) hv (fun q => (jobOf js q).ta < (i : Int)) a
      refine hstep i k t0 a t _ hti ⟨hd, hk, hi, ha, h1, by omega, hl, h2, h3, fun c hc hci hca hlc => ?_⟩ (by omega)
      have hck : c < k := by
        rcases Nat.lt_or_ge c k with hh | hh
        · exact hh
        · have := tm_mono hv hh hc; omega
      have h5 := ih c hck a hlc
      rw [hci, Int.toNat_natCast] at h5
      have h6 := tm_far hv hck hk (by rw [hci, hi])
      have h7 := hb i _ hti
      unfold tkJ at h6
      rw [hi, tkOf_get hti] at h6
      omega
theorem resp_parts {i R : Nat} {tk : Tk} (hs : setB ts = true) (hi : ts[i]? = some tk) (h : rLow ts i = some R) : tk.lo.toNat + dLow (ts.take i) R ≤ R ∧ R ≤ tk.du.toNat := by
  rw [rLow_at hs hi] at h
  obtain ⟨_, h2, h3, _⟩ := least_some.1 h
  exact ⟨h3, h2⟩
theorem low_all (hv : jobsB ts js = true) (hd : p.due = false) (hlow : ∀ u, hiN ts js p u = false) (b : Nat → Nat) (hb : ∀ i tk, ts[i]? = some tk → rLow ts i = some (b i)) :
    ∀ k t, lft ts js p t k → (t : Int) < (jobOf js k).tm + b (jobOf js k).ta.toNat := by
  have hs := set_jobs hv
  refine bound_all hv hd b (fun i tk hi => ?_) fun i k t0 a t tk hi h ht => fp_low hv h hi (resp_parts hs hi (hb i tk hi)).1 ht fun u _ _ => hlow u
  have h1 := (resp_parts hs hi (hb i tk hi)).2
  have := tk_nums (set_ok hs (get_mem hi))
  omega
end
end
section
open Go.RowKit
set_option linter.unusedVariables false
section
variable {ts : List Tk} {js : List Jb} {p : Po}
theorem sw_of {u : Nat} (h : swN ts js p u = true) : hiN ts js p u = false ∧ ∃ c, chN ts js p u = some c ∧ (tkJ ts js c).cr = true ∧ gN ts js p (u + 1) c = (tkJ ts js c).lo ∧ gN ts js p (u + 1) c ≠ (jobOf js c).ne := by
  unfold swN at h
  cases hc : chN ts js p u with
  | none => rw [hc] at h; cases h
  | some c =>
    rw [hc] at h
    simp at h
    exact ⟨h.1, c, rfl, h.2.1, h.2.2.1, h.2.2.2⟩
theorem never_high (hv : jobsB ts js = true) (h : ∀ k, k < js.length → (jobOf js k).ne ≤ (tkJ ts js k).lo) : ∀ u, hiN ts js p u = false ∧ (runM ts js p u).hi = false
  | 0 => ⟨by
      cases hh : hiN ts js p 0
      · rfl
      · exact absurd ((hiN_iff hv 0).1 hh).1 (by simp [runM, initM]), rfl⟩
  | u + 1 => by
    have ih := never_high hv h u
    have hs : swN ts js p u = false := by
      cases hx : swN ts js p u
      · rfl
      · obtain ⟨_, c, h1, h2, h3, h4⟩ := sw_of hx
        have hl := (opn_len hv (ch_some hv h1).1).1
        have := g_le (p := p) hv hl (u + 1)
        have := h c hl
        omega
    have hr : (runM ts js p (u + 1)).hi = false := by rw [hi_next hv, ih.1, hs]; rfl
    refine ⟨?_, hr⟩
    cases hh : hiN ts js p (u + 1)
    · rfl
    · have := ((hiN_iff hv _).1 hh).1; rw [hr] at this; cases this
end
end
end Go.Proofs.YtgponahmkjohiabGreatDoor
namespace Go.Proofs.YtgponahmkjohiabGreatDoor
section
open Go.RowKit
set_option linter.unusedVariables false
def lgStep (task : Int) (j : Jb) (x m : Int) : Int := if j.ta = task ∧ 0 ≤ j.tm ∧ 0 ≤ x then (if m < IntKind.i64.wrap (x - j.tm) then IntKind.i64.wrap (x - j.tm) else m) else m
def lgK (task : Int) (js : List Jb) (en : List Int) : Nat → Int
  | 0 => 0
  | k + 1 => lgStep task (js.getD k ⟨0, 0, 0⟩) (en.getD k 0) (lgK task js en k)
theorem lg_succ {task : Int} {js : List Jb} {en : List Int} {k : Nat} {j : Jb} {x m : Int} (hj : js[k]? = some j) (hx : en[k]? = some x) (h : lgK task js en k = m) : lgK task js en (k + 1) = lgStep task j x m := by
  rw [lgK, h]
  simp [List.getD, hj, hx]
def longV (task : Int) (js : List Jb) (en : List Int) : Int := if en.length = js.length then lgK task js en js.length else 0
set_option maxRecDepth 100000 in
set_option maxHeartbeats 2000000 in
theorem iLong_is (w : World) (Aj : Option Addr) (nj cj : Nat) (js : List Jb) (A1 : Option Addr) (n1 c1 : Nat) (A2 : Option Addr) (n2 c2 : Nat) (A3 : Option Addr) (n3 c3 : Nat) (hi : Bool) (en : List Int) (hj : Jbs w w.heap.size Aj nj js) (h : Zs w w.heap.size A1 n1 en) (hn : n1 ≤ 1100000) (hnj : nj ≤ 1100000) (task : Int) (r : Int) (hr : longV task js en = r) :
    Calls Tryz.prog 21 #[.slice Aj nj cj, .agg #[.slice A1 n1 c1, .slice A2 n2 c2, .slice A3 n3 c3, .bool hi], .int .i64 task] w fun e w' => e = .returned (.int .i64 r) ∧ Below w.heap.size w w' := by
  have HE := Lib.hid (And.intro (bl_alloc (Below.refl w.heap.size w) (.cells #[.slice A1 n1 c1, .slice A2 n2 c2, .slice A3 n3 c3, .bool hi] 29)) (Blk.new w 29 #[.slice A1 n1 c1, .slice A2 n2 c2, .slice A3 n3 c3, .bool hi]))
  obtain ⟨wa, hwa⟩ : ∃ wa, w.alloc (.cells #[.slice A1 n1 c1, .slice A2 n2 c2, .slice A3 n3 c3, .bool hi] 29) = wa := ⟨_, rfl⟩
  rw [hwa] at HE
  have E := Lib.hid ((h.below HE.out.1).more HE.out.1.size)
  have J := Lib.hid ((hj.below HE.out.1).more HE.out.1.size)
  have LE := h.len
  have LJ := hj.len
  have cA := HE.out.2.cell
  clear h hj
  by_cases hne : n1 = nj
  case neg =>
    obtain rfl : r = 0 := by
      rw [← hr]
      unfold longV
      rw [if_neg (by omega)]
    have t1 : ((n1 : Int) == (nj : Int)) = false := by rw [beq_eq_false_iff_ne]; omega
    have t2 : ((n1 : Int) != (nj : Int)) = true := by rw [bne_iff_ne]; omega
    have t3 : ¬ (n1 : Int) = (nj : Int) := by omega
    clear LE LJ hr
    go_enter Tryz.func21, Tryz.ntmps21
    go_wp2
    go_ret
    exact ⟨rfl, HE.out.1⟩
  subst hne
  have hr2 : lgK task js en n1 = r := by
    rw [← hr]
    unfold longV
    rw [if_pos (by omega), LJ]
  have HR := Lib.hid hr2
  have HLE := Lib.hid LE
  have HLJ := Lib.hid LJ
  clear LE LJ hr hr2
  go_enter Tryz.func21, Tryz.ntmps21
  go_wp2
  try rw [hwa]
  go_loopw [7, 18] (fun s i wr => ∃ (k : Nat) (m : Int), k ≤ n1 ∧ i = .int .i64 k ∧ s = .int .i64 m ∧ Hid (lgK task js en k = m) ∧ Hid (Below wa.heap.size wa wr)) (fun _ i _ => n1 - (intOf i).toNat)
  case atStart => exact ⟨0, 0, Nat.zero_le _, rfl, rfl, Lib.hid rfl, Lib.hid (Below.refl _ _)⟩
  case round =>
    obtain ⟨k, m, hk, rfl, rfl, HM, HB⟩ := hrel
    clear cA hwa
    have hw1 : wa.heap.size ≤ wr.heap.size := HB.out.size
    by_cases hkn : k < n1
    · have q2 : (k : Int) < (n1 : Int) := by omega
      have q1 : (0 : Int) ≤ (k : Int) := by omega
      obtain ⟨x, hx⟩ := zs_at E.out hkn
      obtain ⟨j, hj⟩ : ∃ j, js[k]? = some j := ⟨js[k]'(by rw [HLJ.out]; exact hkn), List.getElem?_eq_getElem _⟩
      obtain ⟨bj, oj, rfl, hbj, a0, a1, a2⟩ := (J.out.below HB.out).at_ k j hj
      obtain ⟨b, o, rfl, hbl, c0⟩ := (E.out.below HB.out).at_ k x hx
      obtain ⟨ta, tm, ne⟩ := j
      dsimp only at a0 a1 a2
      have HN := Lib.hid (lg_succ hj hx HM.out)
      clear hj hx
      have bA := HE.out.2.below HB.out HE.out.2.lt
      have hbw : b < wr.heap.size := by have := HB.out.size; omega
      have cJ := (Blk.new wr 46 #[.int .i64 ta, .int .i64 tm, .int .i64 ne]).cell
      have cAa := (bA.alloc (.cells #[.int .i64 ta, .int .i64 tm, .int .i64 ne] 46)).cell
      have c0a := (World.cell?_alloc_lt wr (.cells #[.int .i64 ta, .int .i64 tm, .int .i64 ne] 46) ⟨b, o + k, none⟩ hbw).trans c0
      have HBn := Lib.hid (bl_alloc HB.out (.cells #[.int .i64 ta, .int .i64 tm, .int .i64 ne] 46))
      clear bA
      by_cases h1 : ta = task
      case neg =>
        have t1 : (ta == task) = false := by simpa using h1
        go_wp2
        go_roundw
        case rel => exact ⟨k + 1, m, by omega, by go_num, rfl, Lib.hid (by rw [HN.out]; unfold lgStep; dsimp only; rw [if_neg (by omega)]), Lib.hid (by repeat (first | with_reducible exact HBn.out | with_reducible refine Below.drew ?_ | with_reducible refine bl_drewN ?_ _))⟩
        case measure => simp [intOf]; omega
      subst h1
      by_cases h2 : 0 ≤ tm
      case neg =>
        have t2 : decide (0 ≤ tm) = false := decide_eq_false h2
        by_cases h3 : 0 ≤ x
        · have t3 : decide (0 ≤ x) = true := decide_eq_true h3
          go_wp2
          go_roundw
          case rel => exact ⟨k + 1, m, by omega, by go_num, rfl, Lib.hid (by rw [HN.out]; unfold lgStep; dsimp only; rw [if_neg (by omega)]), Lib.hid (by repeat (first | with_reducible exact HBn.out | with_reducible refine Below.drew ?_ | with_reducible refine bl_drewN ?_ _))⟩
          case measure => simp [intOf]; omega
        · have t3 : decide (0 ≤ x) = false := decide_eq_false h3
          go_wp2
          go_roundw
          case rel => exact ⟨k + 1, m, by omega, by go_num, rfl, Lib.hid (by rw [HN.out]; unfold lgStep; dsimp only; rw [if_neg (by omega)]), Lib.hid (by repeat (first | with_reducible exact HBn.out | with_reducible refine Below.drew ?_ | with_reducible refine bl_drewN ?_ _))⟩
          case measure => simp [intOf]; omega
      have t2 : decide (0 ≤ tm) = true := decide_eq_true h2
      by_cases h3 : 0 ≤ x
      case neg =>
        have t3 : decide (0 ≤ x) = false := decide_eq_false h3
        go_wp2
        go_roundw
        case rel => exact ⟨k + 1, m, by omega, by go_num, rfl, Lib.hid (by rw [HN.out]; unfold lgStep; dsimp only; rw [if_neg (by omega)]), Lib.hid (by repeat (first | with_reducible exact HBn.out | with_reducible refine Below.drew ?_ | with_reducible refine bl_drewN ?_ _))⟩
        case measure => simp [intOf]; omega
      have t3 : decide (0 ≤ x) = true := decide_eq_true h3
      obtain ⟨d, hd⟩ : ∃ d, IntKind.i64.wrap (x - tm) = d := ⟨_, rfl⟩
      by_cases h4 : m < d
      · have t4 : decide (m < d) = true := decide_eq_true h4
        go_wp2
        go_quiet (fail)
        go_wp2
        go_roundw
        case rel => exact ⟨k + 1, d, by omega, by go_num, rfl, Lib.hid (by rw [HN.out]; unfold lgStep; dsimp only; rw [if_pos (by omega), hd, if_pos (by omega)]), Lib.hid (by repeat (first | with_reducible exact HBn.out | with_reducible refine Below.drew ?_ | with_reducible refine bl_drewN ?_ _))⟩
        case measure => simp [intOf]; omega
      · have t4 : decide (m < d) = false := decide_eq_false h4
        go_wp2
        go_quiet (fail)
        go_wp2
        go_roundw
        case rel => exact ⟨k + 1, m, by omega, by go_num, rfl, Lib.hid (by rw [HN.out]; unfold lgStep; dsimp only; rw [if_pos (by omega), hd, if_neg (by omega)]), Lib.hid (by repeat (first | with_reducible exact HBn.out | with_reducible refine Below.drew ?_ | with_reducible refine bl_drewN ?_ _))⟩
        case measure => simp [intOf]; omega
    · obtain rfl : k = n1 := by omega
      obtain rfl : m = r := by rw [← HM.out, HR.out]
      have cA := (HE.out.2.below HB.out HE.out.2.lt).cell
      go_wp2
      go_ret
      exact ⟨rfl, bl_trans HE.out.1 HB.out⟩
end
end Go.Proofs.YtgponahmkjohiabGreatDoor
namespace Go.Proofs.YtgponahmkjohiabGreatDoor
open Go.RowKit
set_option linter.unusedVariables false
def needsB (ts : List Tk) (js : List Jb) (q : Nat) : Bool := decide ((tkOf ts (js.getD q ⟨0, 0, 0⟩).ta).lo < (js.getD q ⟨0, 0, 0⟩).ne)
theorem high_places (ts : List Tk) (js : List Jb) : ∀ q : Nat, q ≤ js.length → highI ts 0 (js.take q) = placesI (needsB ts js) q
  | 0, _ => rfl
  | q + 1, h => by
    have hg : js[q]? = some (js[q]'(by omega)) := List.getElem?_eq_getElem (by omega)
    have hd : js.getD q ⟨0, 0, 0⟩ = js[q]'(by omega) := by simp [List.getD, hg]
    rw [high_take hg, high_places ts js q (by omega)]
    by_cases e : needsB ts js q = true
    · rw [places_yes e, if_pos]
      unfold needsB at e
      rw [hd] at e
      simpa using e
    · rw [places_no (by simpa using e), if_neg, List.append_nil]
      intro h2
      refine e ?_
      unfold needsB
      rw [hd]
      simpa using h2
set_option maxRecDepth 100000 in
set_option maxHeartbeats 4000000 in
theorem iHighClo_is (W : World) (g : Nat) (A : Option Addr) (n c : Nat) (ts : List Tk) (h : Tks W W.heap.size A n ts) (hg : W.cell? ⟨g, 0, none⟩ = some (.slice A n c)) (q : Nat) (j : Jb) (hj : jobB ts j = true) :
    Calls Tryz.prog 62 #[.int .i64 (q : Int), j.val, .pointer (some ⟨g, 0, none⟩)] W fun e W' => e = .returned (.bool (decide ((tkOf ts j.ta).lo < j.ne))) ∧ Below W.heap.size W W' := by
  obtain ⟨b1, b2, b3, b4, b5, b6⟩ := jobB_iff.1 hj
  obtain ⟨x, t, hx, hxk, ht, htk⟩ := tk_get b1 b2
  have hgl : g < W.heap.size := block_lt_of_cell hg
  rw [htk]
  have hxn : x < n := by rw [← h.len]; exact hxk
  have hxi : (x : Int) < (n : Int) := by omega
  have hx0 : (0 : Int) ≤ (x : Int) := by omega
  obtain ⟨bt, ot, rfl, hbt, c0, _, _, _, _⟩ := h.at_ x t ht
  obtain ⟨ta, tm, ne⟩ := j
  obtain ⟨lo, hi', du, ev, cr⟩ := t
  dsimp only at c0 hx ⊢
  subst hx
  unfold Jb.val
  dsimp only
  have cJ := (Blk.new W 46 #[.int .i64 (x : Int), .int .i64 tm, .int .i64 ne]).cell
  have c0a := (World.cell?_alloc_lt W (.cells #[.int .i64 (x : Int), .int .i64 tm, .int .i64 ne] 46) ⟨bt, ot + x * 5, none⟩ hbt).trans c0
  have cga := (World.cell?_alloc_lt W (.cells #[.int .i64 (x : Int), .int .i64 tm, .int .i64 ne] 46) ⟨g, 0, none⟩ hgl).trans hg
  clear h hj b1 b2 b3 b4 b5 b6 ht htk hxk hbt hg c0 hgl
  by_cases hd : lo < ne
  · have d1 : decide (lo < ne) = true := decide_eq_true hd
    clear hd
    go_enter Tryz.func62, Tryz.ntmps62
    go_wp2
    go_quiet (fail)
    go_wp2
    go_ret
    exact ⟨by rw [d1]; rfl, bl_drewN (bl_alloc (Below.refl _ _) _) _⟩
  · have d1 : decide (lo < ne) = false := decide_eq_false hd
    clear hd
    go_enter Tryz.func62, Tryz.ntmps62
    go_wp2
    go_quiet (fail)
    go_wp2
    go_ret
    exact ⟨by rw [d1]; rfl, bl_drewN (bl_alloc (Below.refl _ _) _) _⟩
set_option maxRecDepth 100000 in
set_option maxHeartbeats 4000000 in
theorem iHighJ_is (w : World) (A : Option Addr) (n c : Nat) (ts : List Tk) (h : Tks w w.heap.size A n ts) (hn : n ≤ 1048576) (A2 : Option Addr) (m c2 : Nat) (js : List Jb) (h2 : Jbs w w.heap.size A2 m js) :
    Calls Tryz.prog 19 #[.slice A n c, .slice A2 m c2] w (ZsRes (highV ts js) w) := by
  have HB0 := Lib.hid (bl_alloc (Below.refl w.heap.size w) (.cells #[.slice A n c] 23))
  have bL := Lib.hid (Blk.new w 23 #[.slice A n c])
  have H := Lib.hid ((h.below HB0.out).more HB0.out.size)
  have J := Lib.hid ((h2.below HB0.out).more HB0.out.size)
  have HM := Lib.hid h2.len
  have cL := bL.out.cell
  clear h h2
  cases hjb : jobsB ts js
  · have hv : highV ts js = [] := by unfold highV; rw [hjb]; rfl
    rw [hv]
    have HX := Lib.hid (iJobs_is _ A n c ts H.out hn A2 m c2 js J.out false hjb)
    clear hjb hv
    go_enter Tryz.func19, Tryz.ntmps19
    go_wp2_with fail
    refine HX.out.mono ?_
    rintro e w1 ⟨rfl, hb⟩
    have HB1 := Lib.hid (bl_trans HB0.out hb)
    clear hb
    go_wp2
    go_ret
    exact ⟨none, 0, rfl, ⟨rfl, .inl ⟨rfl, rfl⟩⟩, HB1.out⟩
  have hm60 : m ≤ 60 := by have := jobs_len hjb; rw [HM.out] at this; exact this
  have hv : highV ts js = placesI (needsB ts js) m := by
    have h1 := high_places ts js m (by rw [HM.out]; exact Nat.le_refl _)
    rw [List.take_of_length_le (by rw [HM.out]; exact Nat.le_refl _)] at h1
    unfold highV; rw [hjb, ← h1]; rfl
  rw [hv]
  have HJB := Lib.hid hjb
  have HX := Lib.hid (iJobs_is _ A n c ts H.out hn A2 m c2 js J.out true hjb)
  clear hv hjb
  go_enter Tryz.func19, Tryz.ntmps19
  go_wp2_with fail
  refine HX.out.mono ?_
  rintro e w1 ⟨rfl, hb⟩
  have HB1 := Lib.hid (bl_trans HB0.out hb)
  have bL1 := Lib.hid (bL.out.below hb (by simp))
  have H1 := Lib.hid ((H.out.below hb).more hb.size)
  have J1 := Lib.hid ((J.out.below hb).more hb.size)
  clear hb HX
  go_wp2_with fail
  refine (iPlJ_is _ A2 m c2 js J1.out (by omega) 62 #[.pointer (some ⟨w.heap.size, 0, none⟩)] (needsB ts js) (fun _ _ => rfl) (fun W q j hj hbW => ?_)).mono ?_
  · have hd : js.getD q ⟨0, 0, 0⟩ = j := by simp [List.getD, hj]
    have := iHighClo_is W w.heap.size A n c ts ((H1.out.below hbW).more hbW.size) ((bL1.out.below hbW bL1.out.lt).cell 0) q j (jobs_job HJB.out (List.mem_of_getElem? hj))
    unfold needsB
    rw [hd]
    exact this
  rintro e w2 ⟨A3, c3, rfl, ho, hb⟩
  have HB2 := Lib.hid (bl_trans HB1.out hb)
  have HO := Lib.hid (show OwnZ w2 w.heap.size _ _ from OwnZ.less ho HB1.out.size)
  clear ho hb
  go_wp2
  go_ret
  exact ⟨A3, c3, rfl, HO.out, HB2.out⟩
end Go.Proofs.YtgponahmkjohiabGreatDoor
namespace Go.Proofs.YtgponahmkjohiabGreatDoor
open Go.RowKit
set_option linter.unusedVariables false
section
variable {ts : List Tk} {js : List Jb} {p : Po}
theorem high_is (hv : jobsB ts js = true) : highV ts js = placesI (needsB ts js) js.length := by
  have h := high_places ts js js.length (Nat.le_refl _)
  rw [List.take_of_length_le (Nat.le_refl _)] at h
  unfold highV
  rw [hv, if_pos rfl, h]
theorem needs_is (k : Nat) : needsB ts js k = decide ((tkJ ts js k).lo < (jobOf js k).ne) := rfl
end
end Go.Proofs.YtgponahmkjohiabGreatDoor
namespace Go.Proofs.YtgponahmkjohiabGreatDoor
open Go.RowKit
set_option linter.unusedVariables false
section
variable {ts : List Tk} {js : List Jb} {p : Po}
theorem resp_bound (hv : jobsB ts js = true) {b : Nat → Nat} (hA : ∀ k t, lft ts js p t k → (t : Int) < (jobOf js k).tm + b (jobOf js k).ta.toNat) (hb : ∀ i tk, ts[i]? = some tk → 1 ≤ b i) {n k : Nat} {e : Int} (he : (runM ts js p n).en[k]? = some e) (h0 : 0 ≤ e) : e - (jobOf js k).tm ≤ b (jobOf js k).ta.toNat := by
  obtain ⟨u, _, h1, h2, h3⟩ := ended_at hv n k e he (by omega) (by omega)
  rcases (opn_iff hv).1 (ch_some hv h2).1 with hl | ⟨hk, ht, _⟩
  · have := hA k u hl; omega
  · have hok := job_ok hv hk
    have hil : (jobOf js k).ta.toNat < ts.length := by omega
    have := hb _ _ (List.getElem?_eq_getElem hil)
    omega
theorem lgK_le (hv : jobsB ts js = true) {n : Nat} (hn : n ≤ 200) {z B : Int} (hB : 0 ≤ B) (h : ∀ (k : Nat) (e : Int), (runM ts js p n).en[k]? = some e → (jobOf js k).ta = z → 0 ≤ e → e - (jobOf js k).tm ≤ B) :
    ∀ m, m ≤ js.length → lgK z js (runM ts js p n).en m ≤ B
  | 0, _ => hB
  | m + 1, hm => by
    have ih := lgK_le hv hn hB h m (by omega)
    have hk : m < js.length := by omega
    have he := en_get (p := p) (n := n) hv hk
    have hok := job_ok hv hk
    unfold lgK
    unfold lgStep
    rw [show js.getD m ⟨0, 0, 0⟩ = jobOf js m from rfl]
    have hev := en_val hv he
    have hb := h m _ he
    generalize (runM ts js p n).en.getD m 0 = x at *
    split
    · rename_i hc
      have h1 := hb hc.1 hc.2.2
      have hw : IntKind.i64.wrap (x - (jobOf js m).tm) = x - (jobOf js m).tm := IntWalk.i64_in _ (by
        rcases hev with h | ⟨h, _⟩ | ⟨_, _, h⟩
        · omega
        · omega
        · omega)
      rw [hw]
      split
      · exact h1
      · exact ih
    · exact ih
theorem long_le (hv : jobsB ts js = true) {n : Nat} (hn : n ≤ 200) {z B : Int} (hB : 0 ≤ B) (h : ∀ (k : Nat) (e : Int), (runM ts js p n).en[k]? = some e → (jobOf js k).ta = z → 0 ≤ e → e - (jobOf js k).tm ≤ B) : longV z js (runM ts js p n).en ≤ B := by
  unfold longV
  split
  · exact lgK_le hv hn hB h _ (Nat.le_refl _)
  · exact hB
theorem resp_low (hv : jobsB ts js = true) (hd : p.due = false) (hh : highV ts js = []) (hl : hLow ts = true) {n : Nat} (hn : n ≤ 200) {i : Nat} (hi : i < ts.length) : ∃ R, rLow ts i = some R ∧ longV (i : Int) js (runM ts js p n).en ≤ R := by
  have hs := set_jobs hv
  have hall : ∀ i tk, ts[i]? = some tk → rLow ts i = some ((rLow ts i).getD 0) := fun i tk ht => by
    unfold hLow at hl
    simp only [Bool.and_eq_true, List.all_eq_true] at hl
    obtain ⟨v, e⟩ := Option.isSome_iff_exists.1 (hl.2 i (List.mem_range.2 (List.getElem?_eq_some_iff.1 ht).1))
    rw [e]; rfl
  have hlow : ∀ u, hiN ts js p u = false := fun u => (never_high hv (fun k hk => by
    rcases Int.lt_or_le (tkJ ts js k).lo (jobOf js k).ne with h | h
    · exfalso
      have : (k : Int) ∈ highV ts js := by rw [high_is hv]; exact places_mem.2 ⟨k, rfl, hk, by rw [needs_is]; exact decide_eq_true h⟩
      rw [hh] at this; cases this
    · exact h) u).1
  have hA := low_all hv hd hlow _ hall
  have hti : ts[i]? = some ts[i] := List.getElem?_eq_getElem hi
  refine ⟨_, hall i _ hti, long_le hv hn (by omega) fun k e he hta h0 => ?_⟩
  have hb := resp_bound (b := fun i => (rLow ts i).getD 0) hv hA (fun i tk ht => by
    show 1 ≤ (rLow ts i).getD 0
    have h1 := resp_parts hs ht (hall i tk ht)
    have := tk_nums (set_ok hs (get_mem ht))
    omega) he h0
  rw [hta, Int.toNat_natCast] at hb
  exact hb
end
end Go.Proofs.YtgponahmkjohiabGreatDoor
namespace Go.Proofs.YtgponahmkjohiabGreatDoor
open Go.RowKit
set_option linter.unusedVariables false
set_option maxRecDepth 100000 in
set_option maxHeartbeats 8000000 in
theorem fnRunResponse_walk (w : World) (A : Option Addr) (n c : Nat) (f : Nat → Int) (h : Code w w.heap.size A n c f) (e0 : Addr) (he : EG w e0) :
    Calls Tryz.prog 4 #[.slice A n c] w fun e w' => e = .returned (.bool true) ∧ Below w.heap.size w w' := by
  have H := Lib.hid h
  have HE := Lib.hid he
  have hle := h.le
  have hmax := h.max
  unfold maxLen at hmax
  clear h he
  by_cases hn : 1048576 < n
  · go_enter Tryz.func4, Tryz.ntmps4
    go_wp2
    go_ret
    exact ⟨rfl, Below.refl _ _⟩
  go_enter Tryz.func4, Tryz.ntmps4
  go_wp2_with fail
  refine (dDrawRun_any _ A n c f H.out).mono ?_
  rintro e w1 ⟨A1, c1, ts, A2, c2, js, pol, tk, rfl, htl, hjl, p0, p1, k0, k1, ho, hoj, hb⟩
  have HB1 := Lib.hid hb
  have HO1 := Lib.hid ho
  have HOJ1 := Lib.hid hoj
  have HT1 := Lib.hid ho.reads.2
  have HJ1 := Lib.hid hoj.reads.2
  have hct := own_le ho
  have hs1 := hb.size
  clear hb ho hoj H
  obtain ⟨s, hs⟩ : ∃ s, runR ts js pol tk = s := ⟨_, rfl⟩
  obtain ⟨b, hb⟩ : ∃ b, okR ts js pol tk = b := ⟨_, rfl⟩
  have HLN : Hid (s.en.length ≤ 61 ∧ s.tr.length ≤ 200 ∧ s.sw.length ≤ 200) := Lib.hid (by rw [← hs]; exact runR_len10 ts js pol tk hjl)
  have HRJ := Lib.hid (iRunJobs_is w1 A1 ts.length c1 ts HT1.out (by omega) A2 js.length c2 js HJ1.out pol tk e0 (HE.out.below HB1.out))
  rw [hs, hb] at HRJ
  have HS := Lib.hid hs
  have HOK := Lib.hid hb
  clear hs hb
  go_wp2_with fail
  refine HRJ.out.mono ?_
  clear HRJ
  obtain ⟨en, tr, sw, hi, wkx, nxx⟩ := s
  rintro e w2 ⟨B1, d1, B2, d2, B3, d3, rfl, o1, o2, o3, _, _, _, hb⟩
  dsimp only at o1 o2 o3 HLN ⊢
  have HB2 := Lib.hid hb
  have hs2 := hb.size
  have HE2 := Lib.hid o1
  have HTR2 := Lib.hid o2
  have HSW2 := Lib.hid o3
  clear hb o1 o2 o3
  obtain ⟨wz2, hwz2⟩ : ∃ wz, w2.alloc (.cells #[.slice none 0 0, .slice none 0 0, .slice none 0 0, .bool false] 29) = wz := ⟨_, rfl⟩
  have hz2 : Blk wz2 w2.heap.size 29 #[.slice none 0 0, .slice none 0 0, .slice none 0 0, .bool false] := hwz2 ▸ Blk.new w2 _ _
  have bz2 : Below w2.heap.size w2 wz2 := hwz2 ▸ bl_alloc (Below.refl _ _) _
  obtain ⟨za2, zb2, zc2, zd2⟩ := Blk.quad hz2
  have zf2 := hz2.frozen
  obtain ⟨w3, hwn2⟩ : ∃ wn, (((wz2.setCell ⟨w2.heap.size, 0, none⟩ (.slice B1 en.length d1)).setCell ⟨w2.heap.size, 1, none⟩ (.slice B2 tr.length d2)).setCell ⟨w2.heap.size, 2, none⟩ (.slice B3 sw.length d3)).setCell ⟨w2.heap.size, 3, none⟩ (.bool hi) = wn := ⟨_, rfl⟩
  have hX2 : Blk w3 w2.heap.size 29 #[(.slice B1 en.length d1), (.slice B2 tr.length d2), (.slice B3 sw.length d3), (.bool hi)] := by
    rw [← hwn2]
    have h := (((hz2.set_ 0 ((.slice B1 en.length d1))).set_ 1 ((.slice B2 tr.length d2))).set_ 2 ((.slice B3 sw.length d3))).set_ 3 ((.bool hi))
    simpa using h
  have hY2 : Below w2.heap.size w2 w3 := by
    rw [← hwn2]
    exact (((bl_set bz2 (by dsimp only; omega) _).setCell (by dsimp only; omega) _).setCell (by dsimp only; omega) _).setCell (by dsimp only; omega) _
  have HX3 := Lib.hid hX2
  have HY3 := Lib.hid hY2
  have hs3 := hY2.size
  have HT3 := Lib.hid ((HT1.out.below (bl_trans HB2.out HY3.out)).more (by omega : w1.heap.size ≤ w3.heap.size))
  have HJ3 := Lib.hid ((HJ1.out.below (bl_trans HB2.out HY3.out)).more (by omega : w1.heap.size ≤ w3.heap.size))
  have HSR := Lib.hid (sRunJobs_is w3 A1 ts.length c1 ts HT3.out (by omega) A2 js.length c2 js HJ3.out pol tk)
  rw [HS.out, HOK.out] at HSR
  clear hX2 hY2 hz2 bz2
  go_wp2_with fail
  refine HSR.out.mono ?_
  clear HSR za2 zb2 zc2 zd2 zf2 hwz2 hwn2
  rintro e w4 ⟨C1, f1, C2, f2, C3, f3, rfl, o1, o2, o3, _, _, _, hb⟩
  dsimp only at o1 o2 o3 ⊢
  have HB4 := Lib.hid hb
  have hs4 := hb.size
  have HE4 := Lib.hid o1
  have HTR4 := Lib.hid o2
  have HSW4 := Lib.hid o3
  clear hb o1 o2 o3
  obtain ⟨wz4, hwz4⟩ : ∃ wz, w4.alloc (.cells #[.slice none 0 0, .slice none 0 0, .slice none 0 0, .bool false] 29) = wz := ⟨_, rfl⟩
  have hz4 : Blk wz4 w4.heap.size 29 #[.slice none 0 0, .slice none 0 0, .slice none 0 0, .bool false] := hwz4 ▸ Blk.new w4 _ _
  have bz4 : Below w4.heap.size w4 wz4 := hwz4 ▸ bl_alloc (Below.refl _ _) _
  obtain ⟨za4, zb4, zc4, zd4⟩ := Blk.quad hz4
  have zf4 := hz4.frozen
  obtain ⟨w5, hwn4⟩ : ∃ wn, (((wz4.setCell ⟨w4.heap.size, 0, none⟩ (.slice C1 en.length f1)).setCell ⟨w4.heap.size, 1, none⟩ (.slice C2 tr.length f2)).setCell ⟨w4.heap.size, 2, none⟩ (.slice C3 sw.length f3)).setCell ⟨w4.heap.size, 3, none⟩ (.bool hi) = wn := ⟨_, rfl⟩
  have hX4 : Blk w5 w4.heap.size 29 #[(.slice C1 en.length f1), (.slice C2 tr.length f2), (.slice C3 sw.length f3), (.bool hi)] := by
    rw [← hwn4]
    have h := (((hz4.set_ 0 ((.slice C1 en.length f1))).set_ 1 ((.slice C2 tr.length f2))).set_ 2 ((.slice C3 sw.length f3))).set_ 3 ((.bool hi))
    simpa using h
  have hY4 : Below w4.heap.size w4 w5 := by
    rw [← hwn4]
    exact (((bl_set bz4 (by dsimp only; omega) _).setCell (by dsimp only; omega) _).setCell (by dsimp only; omega) _).setCell (by dsimp only; omega) _
  have HX5 := Lib.hid hX4
  have HY5 := Lib.hid hY4
  have hs5 := hY4.size
  have HB25 : Hid (Below w2.heap.size w2 w5) := Lib.hid (bl_trans HY3.out (bl_trans HB4.out HY5.out))
  have HB15 : Hid (Below w1.heap.size w1 w5) := Lib.hid (bl_trans HB2.out HB25.out)
  have HB05 : Hid (Below w.heap.size w w5) := Lib.hid (bl_trans HB1.out HB15.out)
  have HX35 := Lib.hid (HX3.out.below (bl_trans HB4.out HY5.out) HX3.out.lt)
  have HE5 := Lib.hid (HE2.out.below HB25.out)
  have HTR5 := Lib.hid (HTR2.out.below HB25.out)
  have HSW5 := Lib.hid (HSW2.out.below HB25.out)
  have HRN5 : Hid (RnAt w5 B1 en.length B2 tr.length B3 sw.length en tr sw) := Lib.hid ⟨HE5.out.reads, HTR5.out.reads, HSW5.out.reads⟩
  have HRM5 : Hid (RnAt w5 C1 en.length C2 tr.length C3 sw.length en tr sw) := Lib.hid ⟨(HE4.out.below HY5.out).reads, (HTR4.out.below HY5.out).reads, (HSW4.out.below HY5.out).reads⟩
  have HT5 := Lib.hid ((HT1.out.below HB15.out).more (by omega : w1.heap.size ≤ w5.heap.size))
  have HJ5 := Lib.hid ((HJ1.out.below HB15.out).more (by omega : w1.heap.size ≤ w5.heap.size))
  have HEG5 := Lib.hid (HE.out.below HB05.out)
  have HSM := Lib.hid (iSame_is w5 B1 en.length d1 B2 tr.length d2 B3 sw.length d3 hi en tr sw C1 en.length f1 C2 tr.length f2 C3 sw.length f3 hi en tr sw HRN5.out HRM5.out (by have := HLN.out; omega) (by have := HLN.out; omega) (by have := HLN.out; omega) (by have := HLN.out; omega) (by have := HLN.out; omega) (by have := HLN.out; omega) true (sameR_self _ _ _ _))
  obtain ⟨x0, x1, x2, x3⟩ := Blk.quad HX35.out
  obtain ⟨y0, y1, y2, y3⟩ := Blk.quad HX5.out
  clear hX4 hY4 hz4 bz4 HT3 HJ3 HX3 HTR4 HE4 HSW4
  cases b
  · go_wp2_with fail
    refine HSM.out.mono ?_
    rintro e w6 ⟨rfl, hb6⟩
    have HB6 := Lib.hid hb6
    have HSM2 := Lib.hid (iSame_is w6 B1 en.length d1 B2 tr.length d2 B3 sw.length d3 hi en tr sw C1 en.length f1 C2 tr.length f2 C3 sw.length f3 hi en tr sw (HRN5.out.below hb6) (HRM5.out.below hb6) (by have := HLN.out; omega) (by have := HLN.out; omega) (by have := HLN.out; omega) (by have := HLN.out; omega) (by have := HLN.out; omega) (by have := HLN.out; omega) true (sameR_self _ _ _ _))
    obtain ⟨u0, u1, u2, u3⟩ := Blk.quad (HX35.out.below hb6 HX35.out.lt)
    obtain ⟨v0, v1, v2, v3⟩ := Blk.quad (HX5.out.below hb6 HX5.out.lt)
    clear hb6 x0 x1 x2 x3 y0 y1 y2 y3 hwz4 hwn4 za4 zb4 zc4 zd4 zf4
    go_wp2_with fail
    refine HSM2.out.mono ?_
    rintro e w7 ⟨rfl, hb7⟩
    have HB7 := Lib.hid (bl_trans HB05.out (bl_trans HB6.out hb7))
    clear hb7 u0 u1 u2 u3 v0 v1 v2 v3
    go_wp2
    go_ret
    exact ⟨rfl, HB7.out⟩
  by_cases hpol : pol = 0
  case neg =>
    have tp : (pol == 0) = false := by simpa using hpol
    go_wp2_with fail
    refine HSM.out.mono ?_
    rintro e w6 ⟨rfl, hb6⟩
    have HB6 := Lib.hid hb6
    have HSM2 := Lib.hid (iSame_is w6 B1 en.length d1 B2 tr.length d2 B3 sw.length d3 hi en tr sw C1 en.length f1 C2 tr.length f2 C3 sw.length f3 hi en tr sw (HRN5.out.below hb6) (HRM5.out.below hb6) (by have := HLN.out; omega) (by have := HLN.out; omega) (by have := HLN.out; omega) (by have := HLN.out; omega) (by have := HLN.out; omega) (by have := HLN.out; omega) true (sameR_self _ _ _ _))
    obtain ⟨u0, u1, u2, u3⟩ := Blk.quad (HX35.out.below hb6 HX35.out.lt)
    obtain ⟨v0, v1, v2, v3⟩ := Blk.quad (HX5.out.below hb6 HX5.out.lt)
    clear hb6 x0 x1 x2 x3 y0 y1 y2 y3 hwz4 hwn4 za4 zb4 zc4 zd4 zf4
    go_wp2_with fail
    refine HSM2.out.mono ?_
    rintro e w7 ⟨rfl, hb7⟩
    have HB7 := Lib.hid (bl_trans HB05.out (bl_trans HB6.out hb7))
    clear hb7 u0 u1 u2 u3 v0 v1 v2 v3
    go_wp2
    go_ret
    exact ⟨rfl, HB7.out⟩
  subst hpol
  have hv : jobsB ts js = true := (okR_iff.1 HOK.out).1
  have htk : 0 ≤ tk ∧ tk ≤ 200 := (okR_iff.1 HOK.out).2.2
  obtain ⟨T, hT⟩ : ∃ T : Nat, tk = (T : Int) := ⟨tk.toNat, by omega⟩
  subst hT
  have hT2 : T ≤ 200 := by omega
  have HRUN : Hid (runM ts js (poOf ts 0) T = ⟨en, tr, sw, hi, wkx, nxx⟩) := Lib.hid (by rw [← HS.out, runR_ok HOK.out]; rfl)
  have HV := Lib.hid hv
  have hj60 : js.length ≤ 60 := (wrsB_iff.1 (jobs_wrs hv)).1
  clear hv htk
  go_wp2_with fail
  refine HSM.out.mono ?_
  clear HSM hwz4 hwn4 za4 zb4 zc4 zd4 zf4 x0 x1 x2 x3 y0 y1 y2 y3
  rintro e w6 ⟨rfl, hb6⟩
  have HB6 := Lib.hid hb6
  have HB06 : Hid (Below w.heap.size w w6) := Lib.hid (bl_trans HB05.out hb6)
  have HX6 := Lib.hid (HX35.out.below hb6 HX35.out.lt)
  have HE6 := Lib.hid (HE5.out.below hb6)
  have HTR6 := Lib.hid (HTR5.out.below hb6)
  have HSW6 := Lib.hid (HSW5.out.below hb6)
  have HT6 := Lib.hid ((HT5.out.below hb6).more hb6.size)
  have HJ6 := Lib.hid ((HJ5.out.below hb6).more hb6.size)
  have HEG6 := Lib.hid (HEG5.out.below hb6)
  have hs6 := hb6.size
  clear hb6 HX35 HE5 HTR5 HSW5 HT5 HJ5 HEG5 HB25 HB15 HB4 HY5 HE2 HTR2 HSW2 HT1 HJ1 HO1 HOJ1 HB1 HB2 HY3 HE
  have HD6 := Lib.hid (Below.refl w6.heap.size w6)
  have hv : jobsB ts js = true := HV.out
  have htr : tr.length = T := by
    have := tr_len (p := poOf ts 0) hv T
    rw [HRUN.out] at this
    exact this
  have hen : en.length = js.length := by
    have := en_len (p := poOf ts 0) hv T
    rw [HRUN.out] at this
    exact this
  have HTL := Lib.hid htr
  have HENL := Lib.hid hen
  have hlen := HLN.out
  clear htr hen
  obtain ⟨hs, hhs⟩ : ∃ hs, highV ts js = hs := ⟨_, rfl⟩
  have HHV := Lib.hid hhs
  have HI6 := Lib.hid (iHighJ_is w6 A1 ts.length c1 ts HT6.out (by omega) A2 js.length c2 js HJ6.out)
  rw [HHV.out] at HI6
  clear hv hhs
  go_wp2_with fail
  refine HI6.out.mono ?_
  clear HI6
  rintro e w7 ⟨A7, c7, rfl, _, hb⟩
  have HD7 := Lib.hid hb
  clear hb
  by_cases he : hs = []
  case neg =>
    have h0 : 0 < hs.length := List.length_pos_iff.2 he
    have e1 : decide (0 < (hs.length : Int)) = true := decide_eq_true (by omega)
    have e2 : decide (0 < hs.length) = true := decide_eq_true h0
    clear he
    have HSM2 := Lib.hid (iSame_is w7 B1 en.length d1 B2 tr.length d2 B3 sw.length d3 hi en tr sw C1 en.length f1 C2 tr.length f2 C3 sw.length f3 hi en tr sw (HRN5.out.below (bl_trans HB6.out HD7.out)) (HRM5.out.below (bl_trans HB6.out HD7.out)) (by have := HLN.out; omega) (by have := HLN.out; omega) (by have := HLN.out; omega) (by have := HLN.out; omega) (by have := HLN.out; omega) (by have := HLN.out; omega) true (sameR_self _ _ _ _))
    obtain ⟨u0, u1, u2, u3⟩ := Blk.quad (HX6.out.below HD7.out HX6.out.lt)
    obtain ⟨t0, t1, t2, t3⟩ := Blk.quad (HX5.out.below (bl_trans HB6.out HD7.out) HX5.out.lt)
    go_wp2_with fail
    refine HSM2.out.mono ?_
    rintro e w11 ⟨rfl, hb11⟩
    have HB11 := Lib.hid (bl_trans HB06.out (bl_trans HD7.out hb11))
    clear hb11 u0 u1 u2 u3 t0 t1 t2 t3
    go_wp2
    go_ret
    exact ⟨rfl, HB11.out⟩
  subst he
  obtain ⟨hlv, hhl⟩ : ∃ b, hLow ts = b := ⟨_, rfl⟩
  go_wp2_with fail
  refine (iHLow_is w7 A1 ts.length c1 ts ((HT6.out.below HD7.out).more HD7.out.size) (by omega) hct hlv hhl).mono ?_
  rintro e w8 ⟨rfl, hb⟩
  have HD8 := Lib.hid (bl_trans HD7.out hb)
  clear hb
  cases hlv
  · clear hhl
    have HSM2 := Lib.hid (iSame_is w8 B1 en.length d1 B2 tr.length d2 B3 sw.length d3 hi en tr sw C1 en.length f1 C2 tr.length f2 C3 sw.length f3 hi en tr sw (HRN5.out.below (bl_trans HB6.out HD8.out)) (HRM5.out.below (bl_trans HB6.out HD8.out)) (by have := HLN.out; omega) (by have := HLN.out; omega) (by have := HLN.out; omega) (by have := HLN.out; omega) (by have := HLN.out; omega) (by have := HLN.out; omega) true (sameR_self _ _ _ _))
    obtain ⟨u0, u1, u2, u3⟩ := Blk.quad (HX6.out.below HD8.out HX6.out.lt)
    obtain ⟨t0, t1, t2, t3⟩ := Blk.quad (HX5.out.below (bl_trans HB6.out HD8.out) HX5.out.lt)
    go_wp2_with fail
    refine HSM2.out.mono ?_
    rintro e w11 ⟨rfl, hb11⟩
    have HB11 := Lib.hid (bl_trans HB06.out (bl_trans HD8.out hb11))
    clear hb11 u0 u1 u2 u3 t0 t1 t2 t3
    go_wp2
    go_ret
    exact ⟨rfl, HB11.out⟩
  have HSAFE := Lib.hid (fun (i : Nat) (hi : i < ts.length) => resp_low (p := poOf ts 0) HV.out rfl HHV.out hhl (n := T) hT2 hi)
  rw [HRUN.out] at HSAFE
  dsimp only at HSAFE
  clear hhl
  go_wp2
  go_loopw [11] (fun i wr => ∃ q : Nat, q ≤ ts.length ∧ i = .int .i64 q ∧ Hid (Below w6.heap.size w6 wr)) (fun i _ => ts.length - (intOf i).toNat)
  case atStart => exact ⟨0, Nat.zero_le _, rfl, HD8⟩
  case round =>
    obtain ⟨q, hq, rfl, HS⟩ := hrel
    obtain ⟨w9, hw9⟩ : ∃ W, W = wr := ⟨_, rfl⟩
    subst hw9
    by_cases hlt : q < ts.length
    · have q2 : (q : Int) < (ts.length : Int) := by omega
      obtain ⟨R, hR, hlo⟩ := HSAFE.out q hlt
      obtain ⟨lg, hlg⟩ : ∃ lg, longV (q : Int) js en = lg := ⟨_, rfl⟩
      rw [hlg] at hlo
      have HLG := Lib.hid hlg
      have HR := Lib.hid (show resN (atI (rLow ts) (q : Int)) = (R, true) by rw [show atI (rLow ts) (q : Int) = rLow ts q by simp [atI], hR]; rfl)
      clear hR hlg
      go_wp2_with fail
      refine (iRLow_is _ A1 ts.length c1 ts (q : Int) ((HT6.out.below HS.out).more HS.out.size) (by omega) hct R true HR.out).mono ?_
      rintro e w10 ⟨rfl, hb⟩
      have HS10 := Lib.hid (bl_trans HS.out hb)
      clear hb
      obtain ⟨a0, a1, a2, a3⟩ := Blk.quad (HX6.out.below HS10.out HX6.out.lt)
      go_wp2_with fail
      refine (iLong_is _ A2 js.length c2 js B1 en.length d1 B2 tr.length d2 B3 sw.length d3 hi en ((HJ6.out.below HS10.out).more HS10.out.size) (HE6.out.below HS10.out).reads (by omega) (by omega) (q : Int) lg HLG.out).mono ?_
      rintro e w11 ⟨rfl, hb⟩
      have HS11 := Lib.hid (bl_trans HS10.out hb)
      have e1 : decide ((R : Int) < lg) = false := decide_eq_false (by omega)
      clear hb a0 a1 a2 a3
      go_wp2
      go_roundw
      case rel => exact ⟨q + 1, by omega, by go_num, HS11⟩
      case measure => simp [intOf]; omega
    · obtain rfl : q = ts.length := by omega
      have HB9 := Lib.hid (bl_trans HB06.out HS.out)
      go_wp2
      go_ret
      exact ⟨rfl, HB9.out⟩
end Go.Proofs.YtgponahmkjohiabGreatDoor
