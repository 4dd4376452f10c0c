import Derived.RegionTactic
import Derived.ChangeAlike
import Derived.ScopeJumps
import Derived.WalkMore
import Derived.Shelf.Abstract
import Derived.Deep.RegionHeld3
import Derived.Test.YtgponahmkjohiabGreatDoorT1NA
namespace Go.Proofs.YtgponahmkjohiabGreatDoor
section
open Go.RowKit
set_option linter.unusedVariables false
/-- A job as plain data. -/
structure Jb where
  ta : Int
  tm : Int
  ne : Int
theorem Jb.eq_of {a b : Jb} (h1 : a.ta = b.ta) (h2 : a.tm = b.tm) (h3 : a.ne = b.ne) : a = b := by
  cases a; cases b; simp_all
def tk0 : Tk := ⟨0, 0, 0, 0, false⟩
def tkOf (ts : List Tk) (z : Int) : Tk := ts.getD z.toNat tk0
def jobB (ts : List Tk) (j : Jb) : Bool := decide (0 ≤ j.ta) && (decide (j.ta < (ts.length : Int)) && (decide (0 ≤ j.tm) && (decide (j.tm ≤ 200) && (decide (1 ≤ j.ne) && decide (j.ne ≤ (tkOf ts j.ta).hi)))))
def befB (a b : Jb) : Bool := decide (a.tm < b.tm) || (decide (a.tm = b.tm) && decide (a.ta < b.ta))
def farB (ts : List Tk) (a b : Jb) : Bool := befB a b && (!decide (a.ta = b.ta) || decide ((tkOf ts b.ta).ev ≤ b.tm - a.tm))
def pairB (ts : List Tk) : List Jb → Bool
  | [] => true
  | j :: js => js.all (farB ts j) && pairB ts js
def jobsB (ts : List Tk) (js : List Jb) : Bool := setB ts && (decide (js.length ≤ 60) && (js.all (jobB ts) && pairB ts js))
/-- Whether the numbers of a job can be written. -/
def wrB (j : Jb) : Bool := decide (0 ≤ j.ta) && (decide (j.ta < 5) && (decide (0 ≤ j.tm) && (decide (j.tm ≤ 200) && (decide (1 ≤ j.ne) && decide (j.ne ≤ 20)))))
def wrsB (js : List Jb) : Bool := decide (js.length ≤ 60) && js.all wrB
/-- When the last job of a task came. -/
def lastAt (js : List Jb) (k : Int) : Int := js.foldl (fun a j => if j.ta = k then j.tm else a) (-20)
def dueJ (ts : List Tk) (j : Jb) : Bool × Int := if setB ts && jobB ts j then (true, j.tm + (tkOf ts j.ta).du) else (false, 0)
theorem snoc_ind {α : Type} {P : List α → Prop} (h0 : P []) (h1 : ∀ l a, P l → P (l ++ [a])) (l : List α) : P l := by
  have : ∀ m : List α, P m.reverse := fun m => by
    induction m with
    | nil => exact h0
    | cons a m ih => rw [List.reverse_cons]; exact h1 _ _ ih
  have e := this l.reverse
  rwa [List.reverse_reverse] at e
theorem jobB_iff {ts : List Tk} {j : Jb} : jobB ts j = true ↔ 0 ≤ j.ta ∧ j.ta < (ts.length : Int) ∧ 0 ≤ j.tm ∧ j.tm ≤ 200 ∧ 1 ≤ j.ne ∧ j.ne ≤ (tkOf ts j.ta).hi := by unfold jobB; simp
theorem befB_iff {a b : Jb} : befB a b = true ↔ a.tm < b.tm ∨ (a.tm = b.tm ∧ a.ta < b.ta) := by unfold befB; simp
theorem farB_iff {ts : List Tk} {a b : Jb} : farB ts a b = true ↔ (a.tm < b.tm ∨ (a.tm = b.tm ∧ a.ta < b.ta)) ∧ (a.ta = b.ta → (tkOf ts b.ta).ev ≤ b.tm - a.tm) := by
  unfold farB
  rw [Bool.and_eq_true, befB_iff]
  by_cases h : a.ta = b.ta <;> simp [h]
theorem wrB_iff {j : Jb} : wrB j = true ↔ 0 ≤ j.ta ∧ j.ta < 5 ∧ 0 ≤ j.tm ∧ j.tm ≤ 200 ∧ 1 ≤ j.ne ∧ j.ne ≤ 20 := by unfold wrB; simp
theorem bef_trans {a b c : Jb} (h1 : befB a b = true) (h2 : befB b c = true) : befB a c = true := by
  rw [befB_iff] at *; omega
theorem pairB_iff {ts : List Tk} : ∀ {js : List Jb}, pairB ts js = true ↔ js.Pairwise (fun a b => farB ts a b = true)
  | [] => by simp [pairB]
  | j :: js => by rw [pairB, Bool.and_eq_true, List.all_eq_true, pairB_iff, List.pairwise_cons]
theorem pair_snoc {ts : List Tk} {js : List Jb} {j : Jb} : pairB ts (js ++ [j]) = true ↔ pairB ts js = true ∧ ∀ a ∈ js, farB ts a j = true := by
  rw [pairB_iff, pairB_iff, List.pairwise_append]
  simp
theorem lastAt_snoc (js : List Jb) (j : Jb) (k : Int) : lastAt (js ++ [j]) k = if j.ta = k then j.tm else lastAt js k := by unfold lastAt; rw [List.foldl_append]; rfl
theorem lastAt_mem : ∀ (js : List Jb) (k : Int), (∃ j ∈ js, j.ta = k ∧ lastAt js k = j.tm) ∨ ((∀ j ∈ js, ¬ j.ta = k) ∧ lastAt js k = -20) := by
  intro js k
  refine snoc_ind (P := fun js => (∃ j ∈ js, j.ta = k ∧ lastAt js k = j.tm) ∨ ((∀ j ∈ js, ¬ j.ta = k) ∧ lastAt js k = -20)) (.inr ⟨by simp, rfl⟩) (fun js j ih => ?_) js
  · skip
    rw [lastAt_snoc]
    by_cases h : j.ta = k
    · exact .inl ⟨j, by simp, h, by rw [if_pos h]⟩
    · rw [if_neg h]
      rcases ih with ⟨a, ha, h1, h2⟩ | ⟨h1, h2⟩
      · exact .inl ⟨a, by simp [ha], h1, h2⟩
      · exact .inr ⟨fun a ha => by
          rcases List.mem_append.1 ha with ha | ha
          · exact h1 a ha
          · rw [List.mem_singleton.1 ha]; exact h, h2⟩
/-- In jobs that are in order the last of a task came latest. -/
theorem lastAt_ge {ts : List Tk} {js : List Jb} (hp : pairB ts js = true) {a : Jb} (ha : a ∈ js) : a.tm ≤ lastAt js a.ta := by
  revert ha hp
  refine snoc_ind (P := fun js => pairB ts js = true → a ∈ js → a.tm ≤ lastAt js a.ta) (fun _ ha => by simp at ha) (fun js j ih => ?_) js
  · intro hp ha
    obtain ⟨h1, h2⟩ := pair_snoc.1 hp
    rw [lastAt_snoc]
    rcases List.mem_append.1 ha with h | h
    · split
      · have := (farB_iff.1 (h2 a h)).1; omega
      · exact ih h1 h
    · rw [List.mem_singleton.1 h, if_pos rfl]; exact Int.le_refl _
theorem ev_of {ts : List Tk} (hs : setB ts = true) {z : Int} (h0 : 0 ≤ z) (h1 : z < (ts.length : Int)) : ∃ t, ts[z.toNat]? = some t ∧ tkOf ts z = t ∧ t ∈ ts ∧ t.ok = true := by
  have hk : z.toNat < ts.length := by omega
  refine ⟨ts[z.toNat], List.getElem?_eq_getElem hk, ?_, List.getElem_mem _, ?_⟩
  · unfold tkOf; simp [List.getD, List.getElem?_eq_getElem hk]
  · unfold setB at hs
    simp at hs
    exact hs.2 _ (List.getElem_mem _)
/-- Whether the next job fits behind valid ones, as one looks at it: it is a job, comes behind the one before, and far enough behind the last one of its task. -/
def nextB (ts : List Tk) (js : List Jb) (j : Jb) : Bool := jobB ts j && ((js.getLast?.map fun a => befB a j).getD true && decide ((tkOf ts j.ta).ev ≤ j.tm - lastAt js j.ta))
theorem next_iff {ts : List Tk} (hs : setB ts = true) {js : List Jb} {j : Jb} (hp : pairB ts js = true) : (jobB ts j = true ∧ ∀ a ∈ js, farB ts a j = true) ↔ nextB ts js j = true := by
  unfold nextB
  rw [Bool.and_eq_true, Bool.and_eq_true, decide_eq_true_iff]
  constructor
  · rintro ⟨hj, hall⟩
    refine ⟨hj, ?_, ?_⟩
    · rcases js.eq_nil_or_concat with rfl | ⟨l, a, rfl⟩
      · rfl
      · have := hall a (by simp)
        unfold farB at this
        rw [Bool.and_eq_true] at this
        simpa using this.1
    · obtain ⟨b1, b2, b3, _⟩ := jobB_iff.1 hj
      rcases lastAt_mem js j.ta with ⟨a, ha, e1, e2⟩ | ⟨_, e2⟩
      · rw [e2]; exact (farB_iff.1 (hall a ha)).2 e1
      · obtain ⟨t, _, e, _, hok⟩ := ev_of hs b1 b2
        rw [e2, e]
        unfold Tk.ok validB at hok
        simp at hok
        omega
  · rintro ⟨hj, h1, h2⟩
    refine ⟨hj, fun a ha => farB_iff.2 ⟨?_, fun e => ?_⟩⟩
    · rcases js.eq_nil_or_concat with rfl | ⟨l, b, rfl⟩
      · simp at ha
      · have hb : befB b j = true := by simpa using h1
        rcases List.mem_append.1 (by simpa using ha : a ∈ l ++ [b]) with h | h
        · have hp' := hp
          rw [List.concat_eq_append] at hp'
          have := (pair_snoc.1 hp').2 a h
          unfold farB at this
          rw [Bool.and_eq_true] at this
          exact befB_iff.1 (bef_trans this.1 hb)
        · rw [List.mem_singleton.1 h]; exact befB_iff.1 hb
    · have := lastAt_ge hp ha
      rw [e] at this
      omega
/-- Jobs up to a place: one more. -/
theorem jobs_step {ts : List Tk} (hs : setB ts = true) {js : List Jb} {j : Jb} (h : js.all (jobB ts) = true ∧ pairB ts js = true) : ((js ++ [j]).all (jobB ts) = true ∧ pairB ts (js ++ [j]) = true) ↔ nextB ts js j = true := by
  rw [← next_iff hs h.2, List.all_append, Bool.and_eq_true, pair_snoc]
  constructor
  · rintro ⟨⟨_, h2⟩, _, h3⟩
    exact ⟨by simpa using h2, h3⟩
  · rintro ⟨h1, h2⟩
    exact ⟨⟨h.1, by simpa using h1⟩, h.2, h2⟩
end
section
open Go.RowKit
set_option linter.unusedVariables false
theorem bef_asym {a b : Jb} (h : befB a b = true) : befB b a = false := by
  cases hh : befB b a
  · rfl
  · rw [befB_iff] at *; omega
theorem bef_irr (a : Jb) : befB a a = false := by
  cases hh : befB a a
  · rfl
  · rw [befB_iff] at hh; omega
theorem jobs_parts {ts : List Tk} {js : List Jb} : jobsB ts js = true ↔ setB ts = true ∧ js.length ≤ 60 ∧ (js.all (jobB ts) = true ∧ pairB ts js = true) := by unfold jobsB; simp
theorem jobs_set {ts : List Tk} {js : List Jb} (h : jobsB ts js = true) : setB ts = true := (jobs_parts.1 h).1
theorem jobs_len {ts : List Tk} {js : List Jb} (h : jobsB ts js = true) : js.length ≤ 60 := (jobs_parts.1 h).2.1
theorem jobs_job {ts : List Tk} {js : List Jb} (h : jobsB ts js = true) {j : Jb} (hj : j ∈ js) : jobB ts j = true := List.all_eq_true.1 (jobs_parts.1 h).2.2.1 j hj
theorem jobs_wr {ts : List Tk} {j : Jb} (hs : setB ts = true) (h : jobB ts j = true) : wrB j = true := by
  obtain ⟨h1, h2, h3, h4, h5, h6⟩ := jobB_iff.1 h
  obtain ⟨t, _, e, ht, hok⟩ := ev_of hs h1 h2
  have h5' := setB_len hs
  rw [e] at h6
  unfold Tk.ok validB at hok
  simp at hok
  exact wrB_iff.2 ⟨h1, by omega, h3, h4, h5, by omega⟩
theorem jobs_wrs {ts : List Tk} {js : List Jb} (h : jobsB ts js = true) : wrsB js = true := by
  unfold wrsB
  simp only [Bool.and_eq_true, decide_eq_true_iff, List.all_eq_true]
  exact ⟨jobs_len h, fun j hj => jobs_wr (jobs_set h) (jobs_job h hj)⟩
theorem wrsB_iff {js : List Jb} : wrsB js = true ↔ js.length ≤ 60 ∧ ∀ j ∈ js, wrB j = true := by unfold wrsB; simp
end
section
open Go.RowKit
set_option linter.unusedVariables false
def needOf (h : Bool) (t : Tk) : Int := if h then t.hi else t.lo
/-- The jobs of one tick, of the tasks from a place on. -/
def rowJ (h : Bool) (n : Nat) : Nat → List Tk → List Jb
  | _, [] => []
  | k, t :: ts => (if (n : Int) % t.ev = 0 then [⟨(k : Int), (n : Int), needOf h t⟩] else []) ++ rowJ h n (k + 1) ts
def worstL (h : Bool) (ts : List Tk) : Nat → List Jb
  | 0 => []
  | n + 1 => worstL h ts n ++ rowJ h n 0 ts
def worstB (ts : List Tk) (u : Int) (h : Bool) : Bool := setB ts && (decide (0 ≤ u) && (decide (u ≤ 200) && decide ((worstL h ts u.toNat).length ≤ 60)))
def worstV (ts : List Tk) (u : Int) (h : Bool) : List Jb := if worstB ts u h then worstL h ts u.toNat else []
theorem row_mem {h : Bool} {n : Nat} : ∀ {ts : List Tk} {k : Nat} {j : Jb}, j ∈ rowJ h n k ts → ∃ (i : Nat) (t : Tk), ts[i]? = some t ∧ j = ⟨((k + i : Nat) : Int), (n : Int), needOf h t⟩ ∧ (n : Int) % t.ev = 0
  | [], k, j, hj => by simp [rowJ] at hj
  | t :: ts, k, j, hj => by
    rw [rowJ] at hj
    rcases List.mem_append.1 hj with h1 | h1
    · split at h1
      · rename_i hd
        exact ⟨0, t, rfl, by simpa using h1, hd⟩
      · simp at h1
    · obtain ⟨i, u, hu, e, hd⟩ := row_mem h1
      exact ⟨i + 1, u, by simpa using hu, by rw [e]; simp; omega, hd⟩
theorem row_order {h : Bool} {n : Nat} : ∀ {ts : List Tk} {k : Nat}, (rowJ h n k ts).Pairwise (fun a b => a.tm = b.tm ∧ a.ta < b.ta)
  | [], k => by simp [rowJ]
  | t :: ts, k => by
    rw [rowJ, List.pairwise_append]
    refine ⟨by split <;> simp, row_order, fun a ha b hb => ?_⟩
    split at ha
    · rw [List.mem_singleton.1 ha]
      obtain ⟨i, u, _, e, _⟩ := row_mem hb
      rw [e]
      exact ⟨rfl, by dsimp only; omega⟩
    · simp at ha
theorem worst_mem {h : Bool} {ts : List Tk} : ∀ {n : Nat} {j : Jb}, j ∈ worstL h ts n → ∃ (m i : Nat) (t : Tk), m < n ∧ ts[i]? = some t ∧ j = ⟨(i : Int), (m : Int), needOf h t⟩ ∧ (m : Int) % t.ev = 0
  | 0, j, hj => by simp [worstL] at hj
  | n + 1, j, hj => by
    rw [worstL] at hj
    rcases List.mem_append.1 hj with h1 | h1
    · obtain ⟨m, i, t, hm, r⟩ := worst_mem h1
      exact ⟨m, i, t, by omega, r⟩
    · obtain ⟨i, t, ht, e, hd⟩ := row_mem h1
      exact ⟨n, i, t, by omega, ht, by rw [e]; simp, hd⟩
theorem tkOf_at {ts : List Tk} {i : Nat} {t : Tk} (h : ts[i]? = some t) : tkOf ts (i : Int) = t := by
  obtain ⟨hi, rfl⟩ := List.getElem?_eq_some_iff.1 h
  unfold tkOf
  simp [List.getD, List.getElem?_eq_getElem hi]
theorem mod_gap {a b e : Int} (he : 0 < e) (ha : a % e = 0) (hb : b % e = 0) (h : a < b) : e ≤ b - a := by
  have h1 : (b - a) % e = 0 := by rw [Int.sub_emod, ha, hb]; simp
  obtain ⟨q, hq⟩ := Int.dvd_of_emod_eq_zero h1
  have hq0 : 0 < q := by
    by_cases h0 : 0 < q
    · exact h0
    · have h0 : q ≤ 0 := by omega
      have : e * q ≤ 0 := Int.mul_nonpos_of_nonneg_of_nonpos (Int.le_of_lt he) h0
      omega
  have := Int.mul_le_mul_of_nonneg_left (show (1 : Int) ≤ q by omega) (Int.le_of_lt he)
  omega
/-- Worst jobs are jobs, in order, and far enough apart. -/
theorem worst_ok {h : Bool} {ts : List Tk} (hs : setB ts = true) : ∀ {n : Nat}, n ≤ 201 → (worstL h ts n).all (jobB ts) = true ∧ pairB ts (worstL h ts n) = true
  | 0, _ => ⟨rfl, rfl⟩
  | n + 1, hn => by
    obtain ⟨h1, h2⟩ := worst_ok hs (n := n) (by omega)
    have hall : ∀ t ∈ ts, t.ok = true := by unfold setB at hs; simp at hs; exact hs.2
    have hrow : ∀ j ∈ rowJ h n 0 ts, jobB ts j = true := fun j hj => by
      obtain ⟨i, t, ht, e, _⟩ := row_mem hj
      rw [Nat.zero_add] at e
      subst e
      have hi := (List.getElem?_eq_some_iff.1 ht).1
      have hok := hall t (List.mem_of_getElem? ht)
      unfold Tk.ok validB at hok
      simp at hok
      refine jobB_iff.2 ⟨by dsimp only; omega, by dsimp only; omega, by dsimp only; omega, by dsimp only; omega, ?_, ?_⟩
      · show 1 ≤ needOf h t; unfold needOf; split <;> omega
      · show needOf h t ≤ (tkOf ts (i : Int)).hi; rw [tkOf_at ht]; unfold needOf; split <;> omega
    refine ⟨by rw [worstL, List.all_append, h1, Bool.true_and, List.all_eq_true]; exact hrow, pairB_iff.2 ?_⟩
    rw [worstL, List.pairwise_append]
    refine ⟨pairB_iff.1 h2, row_order.imp fun {a b} hab => farB_iff.2 ⟨.inr hab, fun e => by omega⟩, fun a ha b hb => ?_⟩
    obtain ⟨m, i, t, hm, ht, ea, hda⟩ := worst_mem ha
    obtain ⟨k, u, hu, eb, hdb⟩ := row_mem hb
    rw [Nat.zero_add] at eb
    subst ea eb
    refine farB_iff.2 ⟨.inl (by dsimp only; omega), fun e => ?_⟩
    dsimp only at e ⊢
    obtain rfl : i = k := by omega
    rw [ht] at hu
    obtain rfl := Option.some.inj hu
    rw [tkOf_at ht]
    have hok := hall t (List.mem_of_getElem? ht)
    unfold Tk.ok validB at hok
    simp at hok
    exact mod_gap (by omega) hda hdb (by omega)
theorem worst_jobs {ts : List Tk} {u : Int} {h : Bool} (hw : worstB ts u h = true) : jobsB ts (worstL h ts u.toNat) = true := by
  unfold worstB at hw
  simp at hw
  exact jobs_parts.2 ⟨hw.1, hw.2.2.2, worst_ok hw.1 (by omega)⟩
end
section
open Go.RowKit
set_option linter.unusedVariables false
def ordJ : List Jb → Bool
  | [] => true
  | j :: js => js.all (befB j) && ordJ js
theorem ordJ_iff : ∀ {js : List Jb}, ordJ js = true ↔ js.Pairwise (fun a b => befB a b = true)
  | [] => by simp [ordJ]
  | j :: js => by rw [ordJ, Bool.and_eq_true, List.all_eq_true, ordJ_iff, List.pairwise_cons]
theorem pair_ord {ts : List Tk} {js : List Jb} (h : pairB ts js = true) : ordJ js = true := by
  rw [ordJ_iff]
  refine (pairB_iff.1 h).imp fun {a b} hab => ?_
  unfold farB at hab
  rw [Bool.and_eq_true] at hab
  exact hab.1
theorem ordJ_take {js : List Jb} (k : Nat) (h : ordJ js = true) : ordJ (js.take k) = true :=
  ordJ_iff.2 ((ordJ_iff.1 h).sublist (List.take_sublist _ _))
def lastBef (js : List Jb) (j : Jb) : Bool := (js.getLast?.map fun a => befB a j).getD true
theorem lastBef_snoc (js : List Jb) (a j : Jb) : lastBef (js ++ [a]) j = befB a j := by unfold lastBef; simp
theorem lastBef_at {js : List Jb} {k : Nat} {a j : Jb} (h : js[k]? = some a) : lastBef (js.take (k + 1)) j = befB a j := by
  rw [List.take_add_one, h]; exact lastBef_snoc _ _ _
theorem ordJ_snoc {js : List Jb} {j : Jb} (h : ordJ js = true) : ordJ (js ++ [j]) = true ↔ lastBef js j = true := by
  rw [ordJ_iff, List.pairwise_append]
  constructor
  · rintro ⟨_, _, h3⟩
    rcases js.eq_nil_or_concat with rfl | ⟨l, a, rfl⟩
    · rfl
    · rw [List.concat_eq_append, lastBef_snoc]
      exact h3 a (by simp) j (by simp)
  · intro hl
    refine ⟨ordJ_iff.1 h, by simp, fun a ha b hb => ?_⟩
    rw [List.mem_singleton.1 hb]
    rcases js.eq_nil_or_concat with rfl | ⟨l, z, rfl⟩
    · simp at ha
    · rw [List.concat_eq_append] at *
      rw [lastBef_snoc] at hl
      rcases List.mem_append.1 ha with ha | ha
      · exact bef_trans ((List.pairwise_append.1 (ordJ_iff.1 h)).2.2 a ha z (by simp)) hl
      · rw [List.mem_singleton.1 ha]; exact hl
/-- What one looks at while one goes through jobs: each is one, and behind the one before. -/
def seqB (ts : List Tk) (js : List Jb) : Bool := js.all (jobB ts) && ordJ js
theorem seq_parts {ts : List Tk} {js : List Jb} : seqB ts js = true ↔ js.all (jobB ts) = true ∧ ordJ js = true := by unfold seqB; rw [Bool.and_eq_true]
theorem seq_take {ts : List Tk} {js : List Jb} (k : Nat) (h : seqB ts js = true) : seqB ts (js.take k) = true := by
  rw [seq_parts] at *
  refine ⟨?_, ordJ_take k h.2⟩
  rw [List.all_eq_true] at *
  exact fun x hx => h.1 x (List.mem_of_mem_take hx)
theorem seq_step {ts : List Tk} {js : List Jb} {k : Nat} {j : Jb} (hj : js[k]? = some j) (h : seqB ts (js.take k) = true) : seqB ts (js.take (k + 1)) = (jobB ts j && lastBef (js.take k) j) := by
  rw [seq_parts] at h
  rw [List.take_add_one, hj, Option.toList_some, Bool.eq_iff_iff, seq_parts, Bool.and_eq_true, ordJ_snoc h.2, List.all_append, h.1]
  simp
theorem seq_bad {ts : List Tk} {js : List Jb} {k : Nat} {j : Jb} (hj : js[k]? = some j) (h : seqB ts (js.take k) = true) (hn : (jobB ts j && lastBef (js.take k) j) = false) : jobsB ts js = false := by
  cases hx : jobsB ts js
  · rfl
  · obtain ⟨h1, h2, h3, h4⟩ := jobs_parts.1 hx
    have := seq_take (k + 1) (seq_parts.2 ⟨h3, pair_ord h4⟩)
    rw [seq_step hj h, hn] at this
    cases this
/-- The first tick at which the next job of a task may come. -/
def earlAt (ts : List Tk) (js : List Jb) (k : Int) : Int := js.foldl (fun a j => if j.ta = k then j.tm + (tkOf ts k).ev else a) 0
theorem earl_snoc (ts : List Tk) (js : List Jb) (j : Jb) (k : Int) : earlAt ts (js ++ [j]) k = if j.ta = k then j.tm + (tkOf ts k).ev else earlAt ts js k := by unfold earlAt; rw [List.foldl_append]; rfl
theorem earl_last (ts : List Tk) (js : List Jb) (k : Int) : (earlAt ts js k = 0 ∧ lastAt js k = -20) ∨ (earlAt ts js k = lastAt js k + (tkOf ts k).ev ∧ ∃ j ∈ js, lastAt js k = j.tm) := by
  refine snoc_ind (P := fun js => (earlAt ts js k = 0 ∧ lastAt js k = -20) ∨ (earlAt ts js k = lastAt js k + (tkOf ts k).ev ∧ ∃ j ∈ js, lastAt js k = j.tm)) (.inl ⟨rfl, rfl⟩) (fun js j ih => ?_) js
  rw [earl_snoc, lastAt_snoc]
  by_cases h : j.ta = k
  · rw [if_pos h, if_pos h]; exact .inr ⟨rfl, j, by simp, rfl⟩
  · rw [if_neg h, if_neg h]
    rcases ih with ih | ⟨h1, a, ha, h2⟩
    · exact .inl ih
    · exact .inr ⟨h1, a, by simp [ha], h2⟩
theorem earl_ok {ts : List Tk} (hs : setB ts = true) {js : List Jb} {j : Jb} (hj : jobB ts j = true) : ((tkOf ts j.ta).ev ≤ j.tm - lastAt js j.ta) ↔ earlAt ts js j.ta ≤ j.tm := by
  obtain ⟨b1, b2, b3, _⟩ := jobB_iff.1 hj
  obtain ⟨t, _, e, _, hok⟩ := ev_of hs b1 b2
  have hev : 1 ≤ t.ev ∧ t.ev ≤ 20 := by unfold Tk.ok validB at hok; simp at hok; omega
  rcases earl_last ts js j.ta with ⟨h1, h2⟩ | ⟨h1, _⟩ <;> rw [e] at * <;> omega
/-- The numbers of the array stay small. -/
theorem earl_range {ts : List Tk} (hs : setB ts = true) {js : List Jb} (h : js.all (jobB ts) = true) {k : Int} (h0 : 0 ≤ k) (h1 : k < (ts.length : Int)) : 0 ≤ earlAt ts js k ∧ earlAt ts js k ≤ 220 := by
  obtain ⟨t, _, e, _, hok⟩ := ev_of hs h0 h1
  have hev : 1 ≤ t.ev ∧ t.ev ≤ 20 := by unfold Tk.ok validB at hok; simp at hok; omega
  rcases earl_last ts js k with ⟨h2, _⟩ | ⟨h2, j, hj, h3⟩
  · omega
  · have := jobB_iff.1 (List.all_eq_true.1 h j hj)
    rw [e] at h2
    omega
theorem dist_step {ts : List Tk} (hs : setB ts = true) {js : List Jb} {k : Nat} {j : Jb} (hq : seqB ts js = true) (hj : js[k]? = some j) (hp : pairB ts (js.take k) = true) : pairB ts (js.take (k + 1)) = decide (earlAt ts (js.take k) j.ta ≤ j.tm) := by
  obtain ⟨ha, ho⟩ := seq_parts.1 hq
  have hjb : jobB ts j = true := List.all_eq_true.1 ha j (List.mem_of_getElem? hj)
  have hat := (seq_parts.1 (seq_take k hq)).1
  have hbe : lastBef (js.take k) j = true := by
    have := seq_take (k + 1) hq
    rw [seq_step hj (seq_take k hq), Bool.and_eq_true] at this
    exact this.2
  have hstep := jobs_step (j := j) hs ⟨hat, hp⟩
  rw [List.take_add_one, hj, Option.toList_some, Bool.eq_iff_iff, decide_eq_true_iff, ← earl_ok hs hjb]
  constructor
  · intro h
    have h2 := hstep.1 ⟨by rw [List.all_append, hat]; simpa using hjb, h⟩
    unfold nextB at h2
    rw [Bool.and_eq_true, Bool.and_eq_true, decide_eq_true_iff] at h2
    exact h2.2.2
  · intro h
    refine (hstep.2 ?_).2
    unfold nextB
    rw [hjb, Bool.true_and, Bool.and_eq_true, decide_eq_true_iff]
    exact ⟨hbe, h⟩
theorem dist_bad {ts : List Tk} {js : List Jb} (k : Nat) (h : pairB ts (js.take k) = false) : pairB ts js = false := by
  cases hx : pairB ts js
  · rfl
  · rw [pairB_iff.2 ((pairB_iff.1 hx).sublist (List.take_sublist k js))] at h
    cases h
theorem seq_jobs {ts : List Tk} {js : List Jb} (hs : setB ts = true) (hl : js.length ≤ 60) (h : seqB ts js = true) : jobsB ts js = pairB ts js := by
  unfold jobsB
  rw [hs, decide_eq_true hl, (seq_parts.1 h).1]
  simp
/-- The array of the first ticks. -/
def earlV (ts : List Tk) (js : List Jb) : List Value := (List.range 5).map fun (i : Nat) => Value.int .i64 (earlAt ts js (i : Int))
theorem earl_get {ts : List Tk} {js : List Jb} {x : Nat} (h : x < 5) : ((earlV ts js).toArray)[x]? = some (.int .i64 (earlAt ts js (x : Int))) := by simp [earlV, h]
theorem earl_set {ts : List Tk} {js : List Jb} {x : Nat} {j : Jb} {z : Int} (h : x < 5) (hj : j.ta = (x : Int)) (hz : j.tm + (tkOf ts (x : Int)).ev = z) : (earlV ts js).toArray.setIfInBounds x (.int .i64 z) = (earlV ts (js ++ [j])).toArray := by
  subst hz
  unfold earlV
  simp only [List.setIfInBounds_toArray]
  congr 1
  refine List.ext_getElem? fun i => ?_
  rw [List.getElem?_set]
  by_cases hx : x = i
  · subst hx
    simp [h, earl_snoc, hj]
  · have : ¬ j.ta = (i : Int) := by omega
    by_cases hi : i < 5
    · simp [hi, hx, earl_snoc, this]
    · simp [hi, hx]
end
section
open Go.RowKit
set_option linter.unusedVariables false
def Jb.cells (j : Jb) : List Value := [.int .i64 j.ta, .int .i64 j.tm, .int .i64 j.ne]
theorem info_job : (Tryz.prog.info? 46).map (fun i => (i.zero, i.size, i.bytes)) = some (some (.agg #[.int .i64 0, .int .i64 0, .int .i64 0]), 3, 24) := by kernel_rfl
/-- At (b, o) lies the job j. -/
structure JbAt (w : World) (b o : Nat) (j : Jb) : Prop where
  c0 : w.cell? ⟨b, o, none⟩ = some (.int .i64 j.ta)
  c1 : w.cell? ⟨b, o + 1, none⟩ = some (.int .i64 j.tm)
  c2 : w.cell? ⟨b, o + 2, none⟩ = some (.int .i64 j.ne)
/-- The slice (A, n) reads as the jobs js; it lies below block B. -/
structure Jbs (w : World) (B : Nat) (A : Option Addr) (n : Nat) (js : List Jb) : Prop where
  len : js.length = n
  at_ : ∀ i j, js[i]? = some j → ∃ b o, A = some ⟨b, o, none⟩ ∧ b < B ∧ JbAt w b (o + i * 3) j
theorem JbAt.keep {w w' : World} {b o : Nat} {j : Jb} (h : JbAt w b o j) (hk : ∀ i, w'.cell? ⟨b, i, none⟩ = w.cell? ⟨b, i, none⟩) : JbAt w' b o j :=
  ⟨(hk _).trans h.c0, (hk _).trans h.c1, (hk _).trans h.c2⟩
theorem Jbs.keep {w w' : World} {B : Nat} {A : Option Addr} {n : Nat} {js : List Jb} (h : Jbs w B A n js) (hk : ∀ b i, b < B → w'.cell? ⟨b, i, none⟩ = w.cell? ⟨b, i, none⟩) : Jbs w' B A n js :=
  ⟨h.len, fun i j hj => by
    obtain ⟨b, o, e, hb, hc⟩ := h.at_ i j hj
    exact ⟨b, o, e, hb, hc.keep fun i => hk b i hb⟩⟩
theorem Jbs.below {w w' : World} {B : Nat} {A : Option Addr} {n : Nat} {js : List Jb} (h : Jbs w B A n js) (hb : Below B w w') : Jbs w' B A n js :=
  h.keep fun b i hbB => hb.cell (p := ⟨b, i, none⟩) hbB
theorem Jbs.more {w : World} {B B' : Nat} {A : Option Addr} {n : Nat} {js : List Jb} (h : Jbs w B A n js) (hB : B ≤ B') : Jbs w B' A n js :=
  ⟨h.len, fun i j hj => by
    obtain ⟨b, o, e, hb, hc⟩ := h.at_ i j hj
    exact ⟨b, o, e, by omega, hc⟩⟩
theorem Jbs.get {w : World} {B b o n : Nat} {js : List Jb} (h : Jbs w B (some ⟨b, o, none⟩) n js) {i : Nat} {j : Jb} (hj : js[i]? = some j) : b < B ∧ JbAt w b (o + i * 3) j := by
  obtain ⟨b', o', e, hb, hc⟩ := h.at_ i j hj
  injection e with e
  injection e with e1 e2
  subst e1 e2
  exact ⟨hb, hc⟩
theorem Jbs.take {w : World} {B : Nat} {A : Option Addr} {n k : Nat} {js : List Jb} (h : Jbs w B A n js) (hk : k ≤ n) : Jbs w B A k (js.take k) :=
  ⟨by rw [List.length_take, h.len]; omega, fun i j hj => h.at_ i j (by
    rw [List.getElem?_take] at hj
    split at hj
    · exact hj
    · cases hj)⟩
theorem Jbs.drop {w : World} {B b o : Nat} {n k m : Nat} {js : List Jb} (h : Jbs w B (some ⟨b, o, none⟩) n js) (hm : m = o + k * 3) : Jbs w B (some ⟨b, m, none⟩) (n - k) (js.drop k) :=
  ⟨by rw [List.length_drop, h.len], fun i j hj => by
    rw [List.getElem?_drop] at hj
    obtain ⟨hb, hc⟩ := h.get hj
    subst hm
    exact ⟨b, _, rfl, hb, by rw [show o + k * 3 + i * 3 = o + (k + i) * 3 by omega]; exact hc⟩⟩
theorem Jbs.nil (w : World) (B : Nat) (A : Option Addr) : Jbs w B A 0 [] := ⟨rfl, fun i j h => by simp at h⟩
/-- The slice value v is the call's own (a block from B on) and holds the jobs js. -/
def OwnJ (w : World) (B : Nat) (v : Value) (js : List Jb) : Prop := w.ownsRow B 46 3 v js.length (js.flatMap Jb.cells)
theorem jcells_length (js : List Jb) : (js.flatMap Jb.cells).length = js.length * 3 := by
  induction js with
  | nil => rfl
  | cons t ts ih => simp [List.flatMap_cons, Jb.cells, ih]; omega
theorem jcells_one (js : List Jb) : ∀ u ∈ js.flatMap Jb.cells, u.oneCell' = true := by
  intro u hu
  simp only [List.mem_flatMap, Jb.cells] at hu
  obtain ⟨t, _, h⟩ := hu
  simp at h
  rcases h with rfl | rfl | rfl <;> rfl
theorem jcells_get (ts : List Jb) : ∀ (i : Nat) (t : Jb), ts[i]? = some t → ∀ (j : Nat), j < 3 → (ts.flatMap Jb.cells)[i * 3 + j]? = t.cells[j]? := by
  induction ts with
  | nil => intro i t h; simp at h
  | cons a ts ih =>
    intro i t h j hj
    cases i with
    | zero =>
      simp at h
      subst h
      rw [List.flatMap_cons, List.getElem?_append_left (by simp [Jb.cells]; omega)]
      simp
    | succ i =>
      rw [List.flatMap_cons, List.getElem?_append_right (by simp [Jb.cells]; omega)]
      have e : (i + 1) * 3 + j - a.cells.length = i * 3 + j := by simp [Jb.cells]; omega
      rw [e]
      exact ih i t (by simpa using h) j hj
theorem OwnJ.reads {w : World} {B : Nat} {A : Option Addr} {n c : Nat} {ts : List Jb} (h : OwnJ w B (.slice A n c) ts) : n = ts.length ∧ Jbs w w.heap.size A n ts := by
  have hn : n = ts.length := by
    rcases h.2 with ⟨e, h0⟩ | ⟨g, cap, cur, e, _⟩
    · injection e; omega
    · injection e
  refine ⟨hn, hn.symm, fun i t ht => ?_⟩
  have hi : i < ts.length := (List.getElem?_eq_some_iff.1 ht).1
  rcases h.2 with ⟨e, h0⟩ | ⟨g, cap, cur, e, _, hg, _⟩
  · omega
  · injection e with e1 e2 e3
    subst e1
    have hlt : g < w.heap.size := by
      rcases Nat.lt_or_ge g w.heap.size with hlt | hge
      · exact hlt
      · rw [Array.getElem?_eq_none hge] at hg; cases hg
    have hc := h.cells (g := g) rfl
    have at_ : ∀ j u, j < 3 → t.cells[j]? = some u → w.cell? ⟨g, i * 3 + j, none⟩ = some u := by
      intro j u hj hu
      have := hc (i * 3 + j) u (by rw [jcells_get ts i t ht j hj]; exact hu)
      have ea : (⟨g, 0, none⟩ : Addr).add (i * 3 + j) = ⟨g, i * 3 + j, none⟩ := by unfold Addr.add; split <;> simp_all
      rwa [ea] at this
    refine ⟨g, 0, rfl, hlt, ?_⟩
    rw [Nat.zero_add]
    exact ⟨at_ 0 _ (by omega) rfl, at_ 1 _ (by omega) rfl, at_ 2 _ (by omega) rfl⟩
theorem OwnJ.kept {w w' : World} {B : Nat} {v : Value} {ts : List Jb} {row : Option Nat} (h : OwnJ w B v ts) (hg : w.grownBy w' row) (hr : ∀ k, row = some k → k < B) : OwnJ w' B v ts := by
  refine World.ownsRow.kept h hg ?_
  rcases he : v.ownBlock with _ | k
  · exact .inl rfl
  · right
    intro e
    have := (World.ownsRow.lt h k he).1
    have := hr k e.symm
    omega
theorem OwnJ.alloc {w : World} {B : Nat} {v : Value} {ts : List Jb} (h : OwnJ w B v ts) (o : Obj) : OwnJ (w.alloc o) B v ts := World.ownsRow.alloc h o
theorem OwnJ.form {w : World} {B : Nat} {v : Value} {ts : List Jb} (h : OwnJ w B v ts) : ∃ A c, v = .slice A ts.length c := by
  rcases h.2 with ⟨e, h0⟩ | ⟨g, cap, cur, e, _⟩
  · exact ⟨none, 0, by rw [e, h0]⟩
  · exact ⟨_, cap, e⟩
theorem OwnJ.le {w : World} {B c : Nat} {A : Option Addr} {zs : List Jb} (h : OwnJ w B (.slice A zs.length c) zs) : zs.length ≤ c := by
  rcases h.2 with ⟨e, h0⟩ | ⟨g, cap, cur, e, _, _, h1, h2, _⟩
  · omega
  · injection e with e1 e2 e3
    subst e3
    exact h1
theorem OwnJ.snoc {w : World} {B : Nat} {v : Value} {ts : List Jb} {t : Jb} (h : w.ownsRow B 46 3 v (ts.length + 1) (ts.flatMap Jb.cells ++ t.cells)) : OwnJ w B v (ts ++ [t]) := by
  unfold OwnJ
  rw [List.flatMap_append, List.length_append]
  simpa using h
theorem OwnJ.nil_ (w : World) (B : Nat) : OwnJ w B (.slice none 0 0) [] := ⟨rfl, .inl ⟨rfl, rfl⟩⟩
theorem OwnJ.empty (w : World) : OwnJ (w.alloc (.cells #[] 46)) w.heap.size (.slice (some ⟨w.heap.size, 0, none⟩) 0 0) [] :=
  ⟨rfl, .inr ⟨w.heap.size, 0, #[], rfl, Nat.le_refl _, heap_alloc_new w _, Nat.le_refl _, Nat.zero_le _, rfl, rfl⟩⟩
theorem OwnJ.below {w w' : World} {B : Nat} {v : Value} {ts : List Jb} (h : OwnJ w B v ts) (hb : Below w.heap.size w w') : OwnJ w' B v ts :=
  h.kept (row := none) ⟨hb.os, hb.tape, hb.output, hb.size, fun k hk _ => hb.block k hk⟩ (fun k e => by cases e)
theorem OwnJ.less {w : World} {B B' : Nat} {v : Value} {ts : List Jb} (h : OwnJ w B v ts) (hB : B' ≤ B) : OwnJ w B' v ts := by
  refine ⟨h.1, ?_⟩
  rcases h.2 with h | ⟨g, cap, cur, e, hb, rest⟩
  · exact .inl h
  · exact .inr ⟨g, cap, cur, e, Nat.le_trans hB hb, rest⟩
theorem cell_new3 (w : World) (t : Jb) (ty : TypeId) : ∀ j u, t.cells[j]? = some u → (w.alloc (.cells #[.int .i64 t.ta, .int .i64 t.tm, .int .i64 t.ne] ty)).cell? ((⟨w.heap.size, 0, none⟩ : Addr).add j) = some u := by
  intro j u hj
  have ea : (⟨w.heap.size, 0, none⟩ : Addr).add j = ⟨w.heap.size, j, none⟩ := by unfold Addr.add; split <;> simp_all
  rw [ea, (Blk.new w ty _).cell j, ← hj]
  simp [Jb.cells]
def JsRes2 (js : List Jb) (b : Bool) (w : World) (e : Ending) (w' : World) : Prop :=
  ∃ (A : Option Addr) (c : Nat), e = .returned (.tuple #[.slice A js.length c, .bool b]) ∧ OwnJ w' w.heap.size (.slice A js.length c) js ∧ Below w.heap.size w w'
def Jb.val (j : Jb) : Value := .agg #[.int .i64 j.ta, .int .i64 j.tm, .int .i64 j.ne]
end
section
open Go.RowKit
set_option linter.unusedVariables false
/-- Places at which something is so. -/
def placesI (P : Nat → Bool) : Nat → List Int
  | 0 => []
  | n + 1 => if P n then placesI P n ++ [(n : Int)] else placesI P n
theorem places_no {P : Nat → Bool} {n : Nat} (h : P n = false) : placesI P (n + 1) = placesI P n := by
  show (if P n then _ else _) = _
  rw [h]; rfl
theorem places_yes {P : Nat → Bool} {n : Nat} (h : P n = true) : placesI P (n + 1) = placesI P n ++ [(n : Int)] := by
  show (if P n then _ else _) = _
  rw [h]; rfl
theorem cell_new1_at (w : World) (z : Int) (ty : TypeId) (g : Nat) (hg : g = w.heap.size) : ∀ j u, ([Value.int .i64 z])[j]? = some u → (w.alloc (.cells #[.int .i64 z] ty)).cell? ((⟨g, 0, none⟩ : Addr).add j) = some u := by
  subst hg
  intro j u hj
  have ea : (⟨w.heap.size, 0, none⟩ : Addr).add j = ⟨w.heap.size, j, none⟩ := by unfold Addr.add; split <;> simp_all
  rw [ea, (Blk.new w ty _).cell j, ← hj]
  simp
end
section
open Go.RowKit
set_option linter.unusedVariables false
set_option maxHeartbeats 1000000 in
theorem iHas5_is (w : World) (A : Option Addr) (n c : Nat) (ts : List Tk) (a : Int) (h : Tks w w.heap.size A n ts) (hn : n ≤ 1048576) (b : Bool) (hb : (setB ts && (decide (0 ≤ a) && decide (a < (n : Int)))) = b) :
    Calls Tryz.prog 63 #[.slice A n c, .int .i64 a] w fun e w' => e = .returned (.bool b) ∧ Below w.heap.size w w' := by
  have H := Lib.hid h
  clear h
  cases hs : setB ts
  · subst hb
    go_enter Tryz.func63, Tryz.ntmps63
    go_wp2_with (go_at_call 53; refine (iSetValid_any _ A n c ts H.out hn).mono ?_; rintro e w2 ⟨rfl, hb2⟩)
    go_ret
    exact ⟨by simp [hs], hb2⟩
  rw [hs, Bool.true_and] at hb
  by_cases h0 : 0 ≤ a
  · by_cases h1 : a < (n : Int)
    · rw [decide_eq_true h0, decide_eq_true h1] at hb
      subst hb
      go_enter Tryz.func63, Tryz.ntmps63
      go_wp2_with (go_at_call 53; refine (iSetValid_any _ A n c ts H.out hn).mono ?_; rintro e w2 ⟨rfl, hb2⟩)
      go_ret
      exact ⟨by simp [*], hb2⟩
    · rw [decide_eq_true h0, decide_eq_false h1] at hb
      subst hb
      go_enter Tryz.func63, Tryz.ntmps63
      go_wp2_with (go_at_call 53; refine (iSetValid_any _ A n c ts H.out hn).mono ?_; rintro e w2 ⟨rfl, hb2⟩)
      go_ret
      exact ⟨by simp [*], hb2⟩
  · rw [decide_eq_false h0] at hb
    subst hb
    go_enter Tryz.func63, Tryz.ntmps63
    go_wp2_with (go_at_call 53; refine (iSetValid_any _ A n c ts H.out hn).mono ?_; rintro e w2 ⟨rfl, hb2⟩)
    go_ret
    exact ⟨by simp [*], hb2⟩
end
section
set_option linter.unusedVariables false
/-- How many jobs come within a window, times what each needs. -/
def demN (n e w : Nat) : Nat := (w + e - 1) / e * n
theorem dem_mono (n e : Nat) {v w : Nat} (h : v ≤ w) : demN n e v ≤ demN n e w :=
  Nat.mul_le_mul_right n (Nat.div_le_div_right (by omega))
theorem dem_need {n m : Nat} (e w : Nat) (h : n ≤ m) : demN n e w ≤ demN m e w := Nat.mul_le_mul_left _ h
/-- No window from lo on and below w is enough. -/
def NoneBelow (F : Nat → Nat) (lo w : Nat) : Prop := lo ≤ w ∧ ∀ v, lo ≤ v → v < w → v < F v
/-- The least window from lo to hi that is enough. -/
def leastN (F : Nat → Nat) (lo hi : Nat) : Option Nat := (List.range (hi + 1)).find? fun w => decide (lo ≤ w) && decide (F w ≤ w)
theorem find_range {p : Nat → Bool} {n w : Nat} : (List.range n).find? p = some w ↔ w < n ∧ p w = true ∧ ∀ v, v < w → p v = false := by
  rw [List.find?_range_eq_some]
  simp
  constructor
  · rintro ⟨a, b, c⟩; exact ⟨b, a, c⟩
  · rintro ⟨a, b, c⟩; exact ⟨b, a, c⟩
theorem least_some {F : Nat → Nat} {lo hi w : Nat} : leastN F lo hi = some w ↔ lo ≤ w ∧ w ≤ hi ∧ F w ≤ w ∧ ∀ v, lo ≤ v → v < w → v < F v := by
  unfold leastN
  rw [find_range]
  constructor
  · rintro ⟨h1, h2, h3⟩
    rw [Bool.and_eq_true, decide_eq_true_iff, decide_eq_true_iff] at h2
    refine ⟨h2.1, by omega, h2.2, fun v hv hw => ?_⟩
    have := h3 v hw
    rw [decide_eq_true hv, Bool.true_and, decide_eq_false_iff_not] at this
    omega
  · rintro ⟨h1, h2, h3, h4⟩
    refine ⟨by omega, by rw [decide_eq_true h1, decide_eq_true h3]; rfl, fun v hv => ?_⟩
    by_cases hl : lo ≤ v
    · have := h4 v hl hv
      rw [decide_eq_false (show ¬ F v ≤ v by omega), Bool.and_false]
    · rw [decide_eq_false hl, Bool.false_and]
theorem least_none {F : Nat → Nat} {lo hi : Nat} : leastN F lo hi = none ↔ ∀ v, lo ≤ v → v ≤ hi → v < F v := by
  unfold leastN
  rw [List.find?_eq_none]
  constructor
  · intro h v h1 h2
    have := h v (List.mem_range.2 (by omega))
    rw [Bool.and_eq_true, decide_eq_true_iff, decide_eq_true_iff] at this
    have h3 : ¬ F v ≤ v := fun h3 => this ⟨h1, h3⟩
    omega
  · intro h v hv
    have hv := List.mem_range.1 hv
    rw [Bool.and_eq_true, decide_eq_true_iff, decide_eq_true_iff]
    rintro ⟨h1, h2⟩
    have := h v h1 (by omega)
    omega
theorem none_start (F : Nat → Nat) (lo : Nat) : NoneBelow F lo lo := ⟨Nat.le_refl _, fun v h1 h2 => by omega⟩
/-- At a window below which none is enough the need is no less than the window. -/
theorem none_le {F : Nat → Nat} {lo : Nat} (hm : ∀ v w, v ≤ w → F v ≤ F w) (hF : ∀ w, lo ≤ w → lo ≤ F w) {w : Nat} (h : NoneBelow F lo w) : w ≤ F w := by
  rcases Nat.lt_or_ge (F w) w with hlt | hge
  · have h1 := h.2 (F w) (hF w h.1) hlt
    have h2 := hm (F w) w (Nat.le_of_lt hlt)
    omega
  · exact hge
/-- One round: the need of a window below which none is enough is again such a window. -/
theorem none_step {F : Nat → Nat} {lo : Nat} (hm : ∀ v w, v ≤ w → F v ≤ F w) (hF : ∀ w, lo ≤ w → lo ≤ F w) {w : Nat} (h : NoneBelow F lo w) : NoneBelow F lo (F w) := by
  refine ⟨hF w h.1, fun v h1 h2 => ?_⟩
  rcases Nat.lt_or_ge v w with hv | hv
  · exact h.2 v h1 hv
  · exact Nat.lt_of_lt_of_le h2 (hm w v hv)
theorem least_hit {F : Nat → Nat} {lo hi w : Nat} (h : NoneBelow F lo w) (hw : w ≤ hi) (he : F w = w) : leastN F lo hi = some w :=
  least_some.2 ⟨h.1, hw, by omega, h.2⟩
theorem least_past {F : Nat → Nat} {lo hi w : Nat} (h : NoneBelow F lo w) (hw : hi < w) : leastN F lo hi = none :=
  least_none.2 fun v h1 h2 => h.2 v h1 (by omega)
/-- What is enough first is just enough. -/
theorem least_fix {F : Nat → Nat} {lo hi w : Nat} (hm : ∀ v w, v ≤ w → F v ≤ F w) (hF : ∀ w, lo ≤ w → lo ≤ F w) (h : leastN F lo hi = some w) : F w = w := by
  obtain ⟨h1, _, h3, h4⟩ := least_some.1 h
  have := none_le hm hF ⟨h1, h4⟩
  omega
end
section
set_option linter.unusedVariables false
def dmd (t : Tk) (w : Nat) (h : Bool) : Nat := demN (if h then t.hi.toNat else t.lo.toNat) t.ev.toNat w
def dLow (ts : List Tk) (w : Nat) : Nat := (ts.map fun t => dmd t w false).sum
/-- What a task needs around a switch that comes within the window l. -/
def dmS (l w : Nat) (t : Tk) : Nat := if t.cr then dmd t w true else dmd t l false
def dSwi (ts : List Tk) (l w : Nat) : Nat := (ts.map (dmS l w)).sum
theorem ok_parts {t : Tk} (h : t.ok = true) : 1 ≤ t.lo ∧ t.lo ≤ t.hi ∧ t.hi ≤ t.du ∧ t.du ≤ t.ev ∧ t.ev ≤ 20 ∧ (t.cr = false → t.lo = t.hi) := by
  unfold Tk.ok validB at h
  simp only [Bool.and_eq_true, decide_eq_true_iff, Bool.or_eq_true, beq_iff_eq] at h
  refine ⟨h.1, h.2.1, h.2.2.1, h.2.2.2.1, h.2.2.2.2.1, fun hc => ?_⟩
  rcases h.2.2.2.2.2 with h | h
  · rw [h] at hc; cases hc
  · exact h
theorem set_ok {ts : List Tk} (h : setB ts = true) {t : Tk} (ht : t ∈ ts) : t.ok = true := by
  unfold setB at h
  rw [Bool.and_eq_true] at h
  exact List.all_eq_true.1 h.2 t ht
theorem get_mem {ts : List Tk} {k : Nat} {t : Tk} (h : ts[k]? = some t) : t ∈ ts := List.mem_of_getElem? h
theorem set_of {ts : List Tk} (hl : ts.length ≤ 5) (h : ∀ t ∈ ts, t.ok = true) : setB ts = true := by
  unfold setB
  rw [Bool.and_eq_true, decide_eq_true_iff]
  exact ⟨hl, List.all_eq_true.2 h⟩
theorem set_sub {xs ys : List Tk} (h : setB ys = true) (hs : xs.Sublist ys) : setB xs = true :=
  set_of (Nat.le_trans hs.length_le (setB_len h)) fun t ht => set_ok h (hs.subset ht)
theorem set_take {ts : List Tk} (h : setB ts = true) (k : Nat) : setB (ts.take k) = true := set_sub h (List.take_sublist k ts)
theorem dmd_mono (t : Tk) (h : Bool) {v w : Nat} (hv : v ≤ w) : dmd t v h ≤ dmd t w h := dem_mono _ _ hv
theorem dmd_bound {t : Tk} (ht : t.ok = true) (w : Nat) (h : Bool) : dmd t w h ≤ 20 * (w + 20) := by
  obtain ⟨h1, h2, h3, h4, h5, _⟩ := ok_parts ht
  unfold dmd demN
  have a : (w + t.ev.toNat - 1) / t.ev.toNat ≤ w + 20 := Nat.le_trans (Nat.div_le_self _ _) (by omega)
  have b : (if h then t.hi.toNat else t.lo.toNat) ≤ 20 := by split <;> omega
  calc _ ≤ (w + 20) * 20 := Nat.mul_le_mul a b
    _ = 20 * (w + 20) := Nat.mul_comm _ _
theorem dmd_low {t : Tk} (ht : t.ok = true) (w : Nat) (h : Bool) : dmd t w false ≤ dmd t w h := by
  obtain ⟨h1, h2, _⟩ := ok_parts ht
  refine dem_need _ _ ?_
  cases h
  · exact Nat.le_refl _
  · show t.lo.toNat ≤ t.hi.toNat
    omega
theorem take_snoc {ts : List Tk} {k : Nat} {t : Tk} (h : ts[k]? = some t) : ts.take (k + 1) = ts.take k ++ [t] := by
  rw [List.take_add_one, h]; rfl
theorem sum_snoc (f : Tk → Nat) {ts : List Tk} {k : Nat} {t : Tk} (h : ts[k]? = some t) : ((ts.take (k + 1)).map f).sum = ((ts.take k).map f).sum + f t := by
  rw [take_snoc h]; simp
theorem dLow_take {ts : List Tk} {k : Nat} {t : Tk} (h : ts[k]? = some t) (w : Nat) : dLow (ts.take (k + 1)) w = dLow (ts.take k) w + dmd t w false := sum_snoc _ h
theorem dSwi_take {ts : List Tk} {k : Nat} {t : Tk} (h : ts[k]? = some t) (l w : Nat) : dSwi (ts.take (k + 1)) l w = dSwi (ts.take k) l w + dmS l w t := sum_snoc _ h
theorem sum_le {f g : Tk → Nat} : ∀ {ts : List Tk}, (∀ t ∈ ts, f t ≤ g t) → (ts.map f).sum ≤ (ts.map g).sum
  | [], _ => Nat.le_refl _
  | t :: ts, h => by
    simp only [List.map_cons, List.sum_cons]
    have h1 := h t (by simp)
    have h2 := sum_le (ts := ts) fun x hx => h x (by simp [hx])
    omega
theorem tsum_bound {f : Tk → Nat} {b : Nat} : ∀ {ts : List Tk}, (∀ t ∈ ts, f t ≤ b) → (ts.map f).sum ≤ ts.length * b
  | [], _ => by simp
  | t :: ts, h => by
    simp only [List.map_cons, List.sum_cons, List.length_cons]
    have h1 := h t (by simp)
    have h2 := tsum_bound (ts := ts) fun x hx => h x (by simp [hx])
    rw [Nat.succ_mul]
    omega
theorem dLow_mono (ts : List Tk) {v w : Nat} (h : v ≤ w) : dLow ts v ≤ dLow ts w := sum_le fun t _ => dmd_mono t false h
theorem dSwi_mono (ts : List Tk) (l : Nat) {v w : Nat} (h : v ≤ w) : dSwi ts l v ≤ dSwi ts l w := sum_le fun t _ => by
  unfold dmS; split
  · exact dmd_mono t true h
  · exact Nat.le_refl _
theorem dLow_bound {ts : List Tk} (h : setB ts = true) (w : Nat) : dLow ts w ≤ 100 * (w + 20) := by
  have h1 := tsum_bound (f := fun t => dmd t w false) fun t ht => dmd_bound (set_ok h ht) w false
  have h2 := setB_len h
  have h3 : ts.length * (20 * (w + 20)) ≤ 5 * (20 * (w + 20)) := Nat.mul_le_mul_right _ h2
  unfold dLow
  omega
theorem dmS_bound {t : Tk} (ht : t.ok = true) (l w : Nat) : dmS l w t ≤ 20 * (l + w + 20) := by
  unfold dmS; split
  · have := dmd_bound ht w true; omega
  · have := dmd_bound ht l false; omega
theorem dSwi_bound {ts : List Tk} (h : setB ts = true) (l w : Nat) : dSwi ts l w ≤ 100 * (l + w + 20) := by
  have h1 := tsum_bound (f := dmS l w) fun t ht => dmS_bound (set_ok h ht) l w
  have h2 := setB_len h
  have h3 : ts.length * (20 * (l + w + 20)) ≤ 5 * (20 * (l + w + 20)) := Nat.mul_le_mul_right _ h2
  unfold dSwi
  omega
/-- The longest response of a task that needs n, is due in d, and comes behind xs. -/
def respOf (xs : List Tk) (n d : Nat) : Option Nat := leastN (fun w => n + dLow xs w) n d
def swiOf (xs : List Tk) (l n d : Nat) : Option Nat := leastN (fun w => n + dSwi xs l w) n d
def rLow (ts : List Tk) (k : Nat) : Option Nat :=
  if setB ts then match ts[k]? with
    | some t => respOf (ts.take k) t.lo.toNat t.du.toNat
    | none => none
  else none
def rSwi (ts : List Tk) (k : Nat) : Option Nat :=
  match rLow ts k, ts[k]? with
  | some l, some t => if t.cr then swiOf (ts.take k) l t.hi.toNat t.du.toNat else none
  | _, _ => none
def rHigh (ts : List Tk) (k : Nat) : Option Nat :=
  match ts[k]? with
  | some t => if setB ts && t.cr then rLow (critL ts) (critL (ts.take k)).length else none
  | none => none
def bothAt (ts : List Tk) (k : Nat) : Bool :=
  match ts[k]? with
  | some t => if t.cr then (rSwi ts k).isSome else (rLow ts k).isSome
  | none => false
def hBoth (ts : List Tk) : Bool := setB ts && (List.range ts.length).all (bothAt ts)
def fBad (ts : List Tk) : Option Nat := if setB ts then (List.range ts.length).find? fun k => !bothAt ts k else none
theorem resp_mono (xs : List Tk) (n : Nat) : ∀ v w, v ≤ w → n + dLow xs v ≤ n + dLow xs w := fun v w h => Nat.add_le_add_left (dLow_mono xs h) n
theorem swi_mono (xs : List Tk) (l n : Nat) : ∀ v w, v ≤ w → n + dSwi xs l v ≤ n + dSwi xs l w := fun v w h => Nat.add_le_add_left (dSwi_mono xs l h) n
theorem rLow_bad {ts : List Tk} (k : Nat) (h : setB ts = false) : rLow ts k = none := by unfold rLow; rw [h]; rfl
theorem rLow_past {ts : List Tk} {k : Nat} (h : ts[k]? = none) : rLow ts k = none := by unfold rLow; rw [h]; split <;> rfl
theorem rLow_at {ts : List Tk} {k : Nat} {t : Tk} (hs : setB ts = true) (h : ts[k]? = some t) : rLow ts k = respOf (ts.take k) t.lo.toNat t.du.toNat := by
  unfold rLow; rw [hs, h]; rfl
theorem rSwi_none {ts : List Tk} {k : Nat} (h : rLow ts k = none) : rSwi ts k = none := by unfold rSwi; rw [h]
theorem rSwi_not {ts : List Tk} {k : Nat} {t : Tk} (h : ts[k]? = some t) (hc : t.cr = false) : rSwi ts k = none := by
  unfold rSwi; rw [h]; cases rLow ts k
  · rfl
  · simp [hc]
theorem rSwi_at {ts : List Tk} {k l : Nat} {t : Tk} (hl : rLow ts k = some l) (h : ts[k]? = some t) (hc : t.cr = true) : rSwi ts k = swiOf (ts.take k) l t.hi.toNat t.du.toNat := by
  unfold rSwi; rw [hl, h]; simp [hc]
theorem rHigh_at {ts : List Tk} {k : Nat} {t : Tk} (hs : setB ts = true) (h : ts[k]? = some t) (hc : t.cr = true) : rHigh ts k = rLow (critL ts) (critL (ts.take k)).length := by
  unfold rHigh; rw [h]; simp [hc, hs]
theorem both_cr {ts : List Tk} {k : Nat} {t : Tk} (h : ts[k]? = some t) (hc : t.cr = true) : bothAt ts k = (rSwi ts k).isSome := by unfold bothAt; rw [h]; simp [hc]
theorem both_no {ts : List Tk} {k : Nat} {t : Tk} (h : ts[k]? = some t) (hc : t.cr = false) : bothAt ts k = (rLow ts k).isSome := by unfold bothAt; rw [h]; simp [hc]
theorem all_range {p : Nat → Bool} {n : Nat} : (List.range n).all p = true ↔ ∀ k, k < n → p k = true := by
  rw [List.all_eq_true]
  exact ⟨fun h k hk => h k (List.mem_range.2 hk), fun h k hk => h k (List.mem_range.1 hk)⟩
theorem fBad_some {ts : List Tk} {k : Nat} (hs : setB ts = true) (hk : k < ts.length) (hb : bothAt ts k = false) (ha : ∀ j, j < k → bothAt ts j = true) : fBad ts = some k := by
  unfold fBad
  rw [if_pos hs, find_range]
  exact ⟨hk, by rw [hb]; rfl, fun v hv => by rw [ha v hv]; rfl⟩
theorem fBad_none {ts : List Tk} (hs : setB ts = true) (ha : ∀ j, j < ts.length → bothAt ts j = true) : fBad ts = none := by
  unfold fBad
  rw [if_pos hs, List.find?_eq_none]
  intro k hk
  rw [ha k (List.mem_range.1 hk)]
  simp
theorem fBad_bad {ts : List Tk} (hs : setB ts = false) : fBad ts = none := by unfold fBad; rw [hs]; rfl
theorem hBoth_bad {ts : List Tk} (hs : setB ts = false) : hBoth ts = false := by unfold hBoth; rw [hs]; rfl
theorem hBoth_iff {ts : List Tk} : hBoth ts = true ↔ setB ts = true ∧ ∀ k, k < ts.length → bothAt ts k = true := by
  unfold hBoth; rw [Bool.and_eq_true, all_range]
theorem hBoth_no {ts : List Tk} {k : Nat} (hk : k < ts.length) (hb : bothAt ts k = false) : hBoth ts = false := by
  cases h : hBoth ts
  · rfl
  · have := (hBoth_iff.1 h).2 k hk
    rw [hb] at this; cases this
theorem hBoth_fBad {ts : List Tk} (hs : setB ts = true) : hBoth ts = (fBad ts).isNone := by
  cases h : fBad ts with
  | none =>
    refine hBoth_iff.2 ⟨hs, fun k hk => ?_⟩
    unfold fBad at h
    rw [if_pos hs, List.find?_eq_none] at h
    have := h k (List.mem_range.2 hk)
    cases hb : bothAt ts k
    · rw [hb] at this; exact absurd rfl this
    · rfl
  | some k =>
    unfold fBad at h
    rw [if_pos hs, find_range] at h
    obtain ⟨h1, h2, _⟩ := h
    refine hBoth_no h1 ?_
    cases hb : bothAt ts k
    · rfl
    · rw [hb] at h2; cases h2
end
section
open Go.RowKit
set_option linter.unusedVariables false
def resN (o : Option Nat) : Nat × Bool := (o.getD 0, o.isSome)
/-- A number and whether there is one. -/
def NbRes (v : Nat) (b : Bool) (w : World) (e : Ending) (w' : World) : Prop := e = .returned (.tuple #[.int .i64 (v : Int), .bool b]) ∧ Below w.heap.size w w'
/-- What is asked of the function that the search calls. -/
def NextIs (k : Nat) (cap : Array Value) (F : Nat → Nat) (lo hi : Nat) (w : World) : Prop :=
  ∀ (W : World) (v : Nat), lo ≤ v → v ≤ hi → Below w.heap.size w W → Calls Tryz.prog k (#[.int .i64 (v : Int)] ++ cap) W fun e W' => e = .returned (.int .i64 (F v : Int)) ∧ Below W.heap.size W W'
def lfW (a : Act) : Nat := (intOf (a.tmps.getD 8 undef)).toNat
set_option maxRecDepth 100000 in
set_option maxHeartbeats 2000000 in
theorem iLeast_is (w : World) (lo hi k : Nat) (cap : Array Value) (F : Nat → Nat) (v : Nat) (b : Bool) (ho : resN (leastN F lo hi) = (v, b)) (hm : ∀ x y, x ≤ y → F x ≤ F y) (hF : ∀ x, lo ≤ x → lo ≤ F x) (hB : ∀ x, x ≤ hi → F x ≤ 1000000000000) (hhi : hi ≤ 100000000) (hlo : lo ≤ 100000000)
    (ek : ∀ args w, (callFunc k args).run Tryz.prog w = .ok (.enter k args) w) (hfn : NextIs k cap F lo hi w) :
    Calls Tryz.prog 64 #[.int .i64 (lo : Int), .int .i64 (hi : Int), .func (.func k) #[] cap] w (NbRes v b w) := by
  have HO := Lib.hid ho
  have HM := Lib.hid hm
  have HF := Lib.hid hF
  have HB := Lib.hid hB
  have HFN := Lib.hid hfn
  clear ho hm hF hB hfn
  go_enter Tryz.func64, Tryz.ntmps64
  go_wp2
  refine wp_scope_jumps 0 (fun a' w' => Below w.heap.size w w' ∧ ∃ (x : Nat) (u3 u4 u5 u9 u10 u11 u12 u13 u14 u15 u16 u17 u18 u19 u20 u21 : Value), a' = { tmps := #[.int .i64 (lo : Int), .int .i64 (hi : Int), .func (.func k) #[] cap, u3, u4, u5, .int .i64 0, .bool false, .int .i64 (x : Int), u9, u10, u11, u12, u13, u14, u15, u16, u17, u18, u19, u20, u21], defers := [] } ∧ NoneBelow F lo x ∧ x ≤ 1000000000000) (fun a' _ => hi + 1 - lfW a') rfl ?_ ?_
  · by_cases hx : hi < lo
    · obtain ⟨rfl, rfl⟩ : 0 = v ∧ false = b := Prod.mk.inj (by rw [← HO.out, least_past (none_start F lo) hx]; rfl)
      go_wp2
      go_step3
      go_wp2
      simp only [Exit.jump]
      go_ret2
      exact ⟨rfl, Below.refl _ _⟩
    · have hc := HFN.out w lo (Nat.le_refl _) (by omega) (Below.refl _ _)
      have hcb := HB.out lo (by omega)
      by_cases he : F lo = lo
      · have hei : (F lo : Int) = (lo : Int) := by omega
        obtain ⟨rfl, rfl⟩ : lo = v ∧ true = b := Prod.mk.inj (by rw [← HO.out, least_hit (none_start F lo) (by omega) he]; rfl)
        go_wp2
        go_step3
        go_wp2_with (go_at_fn k; refine hc.mono ?_; rintro e w' ⟨rfl, hb'⟩)
        simp only [Exit.jump]
        go_ret2
        exact ⟨rfl, hb'⟩
      · have hei : ¬ (F lo : Int) = (lo : Int) := by omega
        have hnx := none_step HM.out HF.out (none_start F lo)
        have HN := Lib.hid hnx
        clear hnx
        go_wp2
        go_step3
        go_wp2_with (go_at_fn k; refine hc.mono ?_; rintro e w' ⟨rfl, hb'⟩)
        go_step3
        exact ⟨rfl, hb', F lo, _, _, _, _, _, _, _, _, _, _, _, _, _, _, _, _, rfl, HN.out, hcb⟩
  · rintro a' w' ⟨hb, x, u3, u4, u5, u9, u10, u11, u12, u13, u14, u15, u16, u17, u18, u19, u20, u21, rfl, hnn, hxb⟩
    have HN := Lib.hid hnn
    have HW := Lib.hid hb
    have hge := hnn.1
    clear hnn hb
    by_cases hx : hi < x
    · obtain ⟨rfl, rfl⟩ : 0 = v ∧ false = b := Prod.mk.inj (by rw [← HO.out, least_past HN.out hx]; rfl)
      go_wp2
      simp only [Exit.jump]
      go_ret2
      exact ⟨rfl, HW.out⟩
    · have hc := HFN.out w' x hge (by omega) HW.out
      have hcb := HB.out x (by omega)
      by_cases he : F x = x
      · have hei : (F x : Int) = (x : Int) := by omega
        obtain ⟨rfl, rfl⟩ : x = v ∧ true = b := Prod.mk.inj (by rw [← HO.out, least_hit HN.out (by omega) he]; rfl)
        go_wp2_with (go_at_fn k; refine hc.mono ?_; rintro e w2 ⟨rfl, hb'⟩)
        simp only [Exit.jump]
        go_ret2
        exact ⟨rfl, bl_trans HW.out hb'⟩
      · have hei : ¬ (F x : Int) = (x : Int) := by omega
        have hnx := none_step HM.out HF.out HN.out
        have hlt := none_le HM.out HF.out HN.out
        have HN2 := Lib.hid hnx
        clear hnx
        go_wp2_with (go_at_fn k; refine hc.mono ?_; rintro e w2 ⟨rfl, hb'⟩)
        go_step3
        exact ⟨rfl, ⟨bl_trans HW.out hb', F x, _, _, _, _, _, _, _, _, _, _, _, _, _, _, _, _, rfl, HN2.out, hcb⟩, by simp [lfW, intOf]; omega⟩
end
section
set_option linter.unusedVariables false
/-- A task with its high need alone. -/
def Tk.up (t : Tk) : Tk := ⟨t.hi, t.hi, t.du, t.ev, t.cr⟩
theorem up_ok {t : Tk} (h : t.ok = true) : t.up.ok = true := by
  obtain ⟨h1, h2, h3, h4, h5, h6⟩ := ok_parts h
  unfold Tk.ok validB Tk.up
  simp only [Bool.and_eq_true, decide_eq_true_iff, Bool.or_eq_true, beq_iff_eq]
  exact ⟨by omega, by omega, h3, h4, h5, .inr (by first | trivial | rfl)⟩
theorem critL_eq (ts : List Tk) : critL ts = (ts.filter Tk.cr).map Tk.up := rfl
theorem crit_app (xs ys : List Tk) : critL (xs ++ ys) = critL xs ++ critL ys := by rw [critL_eq, critL_eq, critL_eq, List.filter_append, List.map_append]
theorem crit_split (ts : List Tk) (k : Nat) : critL ts = critL (ts.take k) ++ critL (ts.drop k) := by rw [← crit_app, List.take_append_drop]
theorem set_crit {ts : List Tk} (h : setB ts = true) : setB (critL ts) = true := by
  refine set_of (Nat.le_trans (critL_len ts) (setB_len h)) fun t ht => ?_
  rw [critL_eq, List.mem_map] at ht
  obtain ⟨u, hu, rfl⟩ := ht
  exact up_ok (set_ok h (List.mem_filter.1 hu).1)
theorem drop_at' {ts : List Tk} {k : Nat} {t : Tk} (h : ts[k]? = some t) : ts.drop k = t :: ts.drop (k + 1) := by
  obtain ⟨hk, rfl⟩ := List.getElem?_eq_some_iff.1 h
  exact List.drop_eq_getElem_cons hk
/-- Where a critical task stands among the critical ones. -/
theorem crit_at {ts : List Tk} {k : Nat} {t : Tk} (h : ts[k]? = some t) (hc : t.cr = true) : (critL ts)[(critL (ts.take k)).length]? = some t.up := by
  rw [crit_split ts k, List.getElem?_append_right (Nat.le_refl _), Nat.sub_self, drop_at' h, critL_eq]
  simp [hc]
theorem crit_take {ts : List Tk} (k : Nat) : (critL ts).take (critL (ts.take k)).length = critL (ts.take k) := by
  rw [crit_split ts k, List.take_left]
theorem rHigh_is {ts : List Tk} {k : Nat} {t : Tk} (hs : setB ts = true) (h : ts[k]? = some t) (hc : t.cr = true) : rHigh ts k = respOf (critL (ts.take k)) t.hi.toNat t.du.toNat := by
  rw [rHigh_at hs h hc, rLow_at (set_crit hs) (crit_at h hc), crit_take]; rfl
/-- What critical tasks need with their high needs. -/
theorem dmd_up (t : Tk) (w : Nat) : dmd t.up w false = dmd t w true := rfl
theorem dCrit_sum (ts : List Tk) (w : Nat) : dLow (critL ts) w = (ts.map fun t => if t.cr then dmd t w true else 0).sum := by
  induction ts with
  | nil => rfl
  | cons t ts ih =>
    rw [critL_eq, List.filter_cons]
    cases hc : t.cr
    · rw [if_neg (by decide), ← critL_eq, ih]; simp [hc]
    · rw [if_pos rfl, List.map_cons]
      have : dLow (t.up :: critL ts) w = dmd t.up w false + dLow (critL ts) w := by simp [dLow]
      rw [critL_eq] at this
      rw [this, ← critL_eq, ih, dmd_up]; simp [hc]
/-- What tasks need: at least what the critical ones need. -/
theorem dCrit_le (ts : List Tk) (l w : Nat) : dLow (critL ts) w ≤ dSwi ts l w := by
  rw [dCrit_sum]
  refine sum_le fun t _ => ?_
  unfold dmS
  split
  · exact Nat.le_refl _
  · exact Nat.zero_le _
end
section
open Go.RowKit
set_option linter.unusedVariables false
theorem dem_cast {n z j : Nat} (hz : 1 ≤ z) (hj : (n + z - 1) / z = j) : 0 ≤ (n : Int) + (z : Int) - 1 ∧ Int.tdiv ((n : Int) + (z : Int) - 1) (z : Int) = (j : Int) ∧ ((n : Int) + (z : Int) - 1) / (z : Int) = (j : Int) := by
  have h0 : 0 ≤ (n : Int) + (z : Int) - 1 := by omega
  have h1 : ((n : Int) + (z : Int) - 1) / (z : Int) = (j : Int) := by
    have : (n : Int) + (z : Int) - 1 = ((n + z - 1 : Nat) : Int) := by omega
    rw [this, ← hj]; simp
  exact ⟨h0, by rw [Int.tdiv_eq_ediv_of_nonneg h0]; exact h1, h1⟩
theorem needT_ex (w : World) (lo hi du ev : Int) (cr b : Bool) :
    Calls Tryz.prog 57 #[.agg #[.int .i64 lo, .int .i64 hi, .int .i64 du, .int .i64 ev, .bool cr], .bool b] w fun e w' => e = .returned (.int .i64 (if b then hi else lo)) ∧ w.alloc (.cells #[.int .i64 lo, .int .i64 hi, .int .i64 du, .int .i64 ev, .bool cr] 43) = w' := by
  cases b <;>
  · go_enter Tryz.func57, Tryz.ntmps57
    go_wp2
    go_ret
    exact ⟨rfl, rfl⟩
set_option maxHeartbeats 1000000 in
theorem iDemand_is (w : World) (lo hi du ev : Int) (cr : Bool) (n : Nat) (hb : Bool) (m : Nat) (hv : validB lo hi du ev cr = true) (hn : n ≤ 100000000) (hm : dmd ⟨lo, hi, du, ev, cr⟩ n hb = m) :
    Calls Tryz.prog 108 #[.agg #[.int .i64 lo, .int .i64 hi, .int .i64 du, .int .i64 ev, .bool cr], .int .i64 (n : Int), .bool hb] w fun e w' =>
      e = .returned (.int .i64 (m : Int)) ∧ (w.alloc (.cells #[.int .i64 lo, .int .i64 hi, .int .i64 du, .int .i64 ev, .bool cr] 43)).alloc (.cells #[.int .i64 lo, .int .i64 hi, .int .i64 du, .int .i64 ev, .bool cr] 43) = w' := by
  obtain ⟨h1, h2, h3, h4, h5, _⟩ := ok_parts (t := ⟨lo, hi, du, ev, cr⟩) hv
  dsimp only at h1 h2 h3 h4 h5
  obtain ⟨a, rfl⟩ := Int.eq_ofNat_of_zero_le (show 0 ≤ lo by omega)
  obtain ⟨b, rfl⟩ := Int.eq_ofNat_of_zero_le (show 0 ≤ hi by omega)
  obtain ⟨z, rfl⟩ := Int.eq_ofNat_of_zero_le (show 0 ≤ ev by omega)
  obtain ⟨j, hj⟩ : ∃ j, (n + z - 1) / z = j := ⟨_, rfl⟩
  have hjn : j ≤ n + 20 := by rw [← hj]; exact Nat.le_trans (Nat.div_le_self _ _) (by omega)
  obtain ⟨q1, q2, q3⟩ := dem_cast (n := n) (z := z) (by omega) hj
  have hjp : 0 ≤ (j : Int) := by omega
  cases hb
  · have hm' : j * a = m := by rw [← hm, ← hj]; rfl
    have hA : (a : Int) * (j : Int) = (m : Int) := by rw [← hm', Int.natCast_mul, Int.mul_comm]
    have hA' : (j : Int) * (a : Int) = (m : Int) := by rw [← hm', Int.natCast_mul]
    have hmb : m ≤ 20 * (n + 20) := by rw [← hm', Nat.mul_comm]; exact Nat.mul_le_mul (by omega) hjn
    clear hm hm' hj hv
    have HNX := Lib.hid (fun W : World => needT_ex W (a : Int) (b : Int) du (z : Int) cr false)
    have cT := (Blk.new w 43 #[.int .i64 (a : Int), .int .i64 (b : Int), .int .i64 du, .int .i64 (z : Int), .bool cr]).cell
    go_enter Tryz.func108, Tryz.ntmps108
    go_wp2_with fail
    refine (HNX.out _).mono ?_
    rintro e w' ⟨rfl, rfl⟩
    go_wp2
    go_ret
    exact ⟨by simp [*], by simp [*]⟩
  · have hm' : j * b = m := by rw [← hm, ← hj]; rfl
    have hA : (b : Int) * (j : Int) = (m : Int) := by rw [← hm', Int.natCast_mul, Int.mul_comm]
    have hA' : (j : Int) * (b : Int) = (m : Int) := by rw [← hm', Int.natCast_mul]
    have hmb : m ≤ 20 * (n + 20) := by rw [← hm', Nat.mul_comm]; exact Nat.mul_le_mul (by omega) hjn
    clear hm hm' hj hv
    have HNX := Lib.hid (fun W : World => needT_ex W (a : Int) (b : Int) du (z : Int) cr true)
    have cT := (Blk.new w 43 #[.int .i64 (a : Int), .int .i64 (b : Int), .int .i64 du, .int .i64 (z : Int), .bool cr]).cell
    go_enter Tryz.func108, Tryz.ntmps108
    go_wp2_with fail
    refine (HNX.out _).mono ?_
    rintro e w' ⟨rfl, rfl⟩
    go_wp2
    go_ret
    exact ⟨by simp [*], by simp [*]⟩
set_option maxHeartbeats 1000000 in
theorem sDemand_is (w : World) (lo hi du ev : Int) (cr : Bool) (n : Nat) (hb : Bool) (m : Nat) (hv : validB lo hi du ev cr = true) (hn : n ≤ 100000000) (hm : dmd ⟨lo, hi, du, ev, cr⟩ n hb = m) :
    Calls Tryz.prog 164 #[.agg #[.int .i64 lo, .int .i64 hi, .int .i64 du, .int .i64 ev, .bool cr], .int .i64 (n : Int), .bool hb] w fun e w' =>
      e = .returned (.int .i64 (m : Int)) ∧ w.alloc (.cells #[.int .i64 lo, .int .i64 hi, .int .i64 du, .int .i64 ev, .bool cr] 43) = w' := by
  obtain ⟨h1, h2, h3, h4, h5, _⟩ := ok_parts (t := ⟨lo, hi, du, ev, cr⟩) hv
  dsimp only at h1 h2 h3 h4 h5
  obtain ⟨a, rfl⟩ := Int.eq_ofNat_of_zero_le (show 0 ≤ lo by omega)
  obtain ⟨b, rfl⟩ := Int.eq_ofNat_of_zero_le (show 0 ≤ hi by omega)
  obtain ⟨z, rfl⟩ := Int.eq_ofNat_of_zero_le (show 0 ≤ ev by omega)
  obtain ⟨j, hj⟩ : ∃ j, (n + z - 1) / z = j := ⟨_, rfl⟩
  have hjn : j ≤ n + 20 := by rw [← hj]; exact Nat.le_trans (Nat.div_le_self _ _) (by omega)
  obtain ⟨q1, q2, q3⟩ := dem_cast (n := n) (z := z) (by omega) hj
  have hjp : 0 ≤ (j : Int) := by omega
  cases hb
  · have hm' : j * a = m := by rw [← hm, ← hj]; rfl
    have hA : (a : Int) * (j : Int) = (m : Int) := by rw [← hm', Int.natCast_mul, Int.mul_comm]
    have hA' : (j : Int) * (a : Int) = (m : Int) := by rw [← hm', Int.natCast_mul]
    have hmb : m ≤ 20 * (n + 20) := by rw [← hm', Nat.mul_comm]; exact Nat.mul_le_mul (by omega) hjn
    clear hm hm' hj hv
    go_enter Tryz.func164, Tryz.ntmps164
    go_wp2
    go_ret
    exact ⟨by simp [*], by simp [*]⟩
  · have hm' : j * b = m := by rw [← hm, ← hj]; rfl
    have hA : (b : Int) * (j : Int) = (m : Int) := by rw [← hm', Int.natCast_mul, Int.mul_comm]
    have hA' : (j : Int) * (b : Int) = (m : Int) := by rw [← hm', Int.natCast_mul]
    have hmb : m ≤ 20 * (n + 20) := by rw [← hm', Nat.mul_comm]; exact Nat.mul_le_mul (by omega) hjn
    clear hm hm' hj hv
    go_enter Tryz.func164, Tryz.ntmps164
    go_wp2
    go_ret
    exact ⟨by simp [*], by simp [*]⟩
end
section
open Go.RowKit
set_option linter.unusedVariables false
def NumIs (m : Nat) (w : World) (e : Ending) (w' : World) : Prop := e = .returned (.int .i64 (m : Int)) ∧ Below w.heap.size w w'
theorem take_all {ts : List Tk} {k : Nat} (h : ts.length ≤ k) : ts.take k = ts := List.take_of_length_le h
theorem get_at {ts : List Tk} {k n : Nat} (h : ts.length = n) (hk : k < n) : ∃ t, ts[k]? = some t := ⟨ts[k]'(by omega), List.getElem?_eq_getElem _⟩
set_option maxHeartbeats 1000000 in
theorem iDemLow_is (w : World) (A : Option Addr) (n c : Nat) (ts : List Tk) (h : Tks w w.heap.size A n ts) (hs : setB ts = true) (x m : Nat) (hx : x ≤ 10000000) (hm : dLow ts x = m) :
    Calls Tryz.prog 66 #[.slice A n c, .int .i64 (x : Int)] w (NumIs m w) := by
  have H := Lib.hid h
  have HL := Lib.hid h.len
  have HS := Lib.hid hs
  have HM := Lib.hid hm
  have h5 : n ≤ 5 := by have := setB_len hs; rw [HL.out] at this; exact this
  clear h hs hm
  go_enter Tryz.func66, Tryz.ntmps66
  go_wp2
  go_loopw [5, 10] (fun s i wr => ∃ k : Nat, k ≤ n ∧ i = .int .i64 k ∧ s = .int .i64 (dLow (ts.take k) x : Nat) ∧ Below w.heap.size w wr) (fun _ i _ => n - (intOf i).toNat)
  case atStart => exact ⟨0, Nat.zero_le _, rfl, rfl, Below.refl _ _⟩
  case round =>
    obtain ⟨k, hk, rfl, rfl, hb⟩ := hrel
    have HB := Lib.hid hb
    clear hb
    by_cases hlt : k < n
    · obtain ⟨t, ht⟩ := get_at HL.out hlt
      obtain ⟨b, o, rfl, hbl, c0, c1, c2, c3, c4⟩ := (H.out.below HB.out).at_ k t ht
      have HT := Lib.hid (dLow_take ht x)
      have HV := Lib.hid (set_ok HS.out (get_mem ht))
      have hb1 := dLow_bound (set_take HS.out k) x
      have hb2 := dmd_bound HV.out x false
      obtain ⟨lo, hi, du, ev, cr⟩ := t
      dsimp only at c0 c1 c2 c3 c4
      obtain ⟨d, hd⟩ : ∃ d, dmd ⟨lo, hi, du, ev, cr⟩ x false = d := ⟨_, rfl⟩
      rw [hd] at hb2
      have HT' : Hid (dLow (ts.take (k + 1)) x = dLow (ts.take k) x + d) := by have := HT.out; rw [hd] at this; exact this
      have HD := Lib.hid hd
      clear ht hd HT
      generalize dLow (ts.take k) x = s at *
      have hsz := HB.out.size
      go_wp2_with (go_at_call 108; refine (iDemand_is _ lo hi du ev cr x false d HV.out (by omega) HD.out).mono ?_; rintro e w2 ⟨rfl, rfl⟩)
      go_roundw
      case rel => exact ⟨k + 1, by omega, by go_num, by rw [HT'.out]; go_num, by repeat (first | with_reducible exact HB.out | refine bl_alloc ?_ _ | refine bl_set ?_ (by simp; omega) _)⟩
      case measure => simp [intOf]; omega
    · obtain rfl : k = n := by omega
      have hbd := dLow_bound HS.out x
      have HE : Hid (dLow (ts.take k) x = m) := by show _ = _; rw [take_all (by rw [HL.out]; omega)]; exact HM.out
      go_wp2
      go_ret
      exact ⟨by rw [HE.out]; rfl, HB.out⟩
set_option maxHeartbeats 1000000 in
theorem iCloLow_is (w : World) (Bt Bs : Nat) (A : Option Addr) (k c : Nat) (us : List Tk) (lo : Nat) (hT : w.cell? ⟨Bt, 0, none⟩ = some (.int .i64 (lo : Int))) (hS : w.cell? ⟨Bs, 0, none⟩ = some (.slice A k c)) (hTs : Tks w w.heap.size A k us) (hs : setB us = true) (hlo : lo ≤ 20) (x m : Nat) (hx : x ≤ 10000000) (hm : lo + dLow us x = m) (hbt : Bt < w.heap.size) (hbs : Bs < w.heap.size) :
    Calls Tryz.prog 65 #[.int .i64 (x : Int), .pointer (some ⟨Bt, 0, none⟩), .pointer (some ⟨Bs, 0, none⟩)] w (NumIs m w) := by
  have H := Lib.hid hTs
  have HS := Lib.hid hs
  obtain ⟨d, hd⟩ : ∃ d, dLow us x = d := ⟨_, rfl⟩
  have hdb := dLow_bound hs x
  rw [hd] at hm hdb
  subst hm
  have HD := Lib.hid hd
  have kw : IntKind.i64.wrap ((lo : Int) + (d : Int)) = (lo : Int) + (d : Int) := IntWalk.i64_in _ (by omega)
  have hS0 : w.cell? ⟨Bt, 0, none⟩ = some (.int .i64 (lo : Int)) ∧ w.cell? ⟨Bs, 0, none⟩ = some (.slice A k c) := ⟨hT, hS⟩
  clear hTs hs hd
  go_enter Tryz.func65, Tryz.ntmps65
  go_wp2_with fail
  go_region_held3 (fun W => W.cell? ⟨Bt, 0, none⟩ = some (.int .i64 (lo : Int)) ∧ W.cell? ⟨Bs, 0, none⟩ = some (.slice A k c)) (first | exact hS0 | exact hS2)
    ((first
      | (go_at_call 66; refine (iDemLow_is _ A k c us ?_ HS.out x d hx HD.out).mono ?_; exact H.out.below (by repeat (first | with_reducible exact Below.refl w.heap.size w | with_reducible refine Below.drew ?_ | with_reducible refine bl_drewN ?_ _)); rintro e w2 ⟨rfl, hb⟩; have HB2 := Lib.hid (show Below w.heap.size w w2 from bl_trans (by repeat (first | with_reducible exact Below.refl w.heap.size w | with_reducible refine bl_drewN ?_ _ | with_reducible refine Below.drew ?_)) hb); have hS2 : w2.cell? ⟨Bt, 0, none⟩ = some (.int .i64 (lo : Int)) ∧ w2.cell? ⟨Bs, 0, none⟩ = some (.slice A k c) := ⟨(HB2.out.cell (p := ⟨Bt, 0, none⟩) hbt).trans hT, (HB2.out.cell (p := ⟨Bs, 0, none⟩) hbs).trans hS⟩; clear hb)))
  go_wp2
  go_ret
  exact ⟨by first | rfl | go_num, HB2.out⟩
set_option maxHeartbeats 1000000 in
theorem iHas_is (w : World) (A : Option Addr) (n c : Nat) (ts : List Tk) (a : Int) (h : Tks w w.heap.size A n ts) (hn : n ≤ 1048576) (b : Bool) (hb : (setB ts && (decide (0 ≤ a) && decide (a < (n : Int)))) = b) :
    Calls Tryz.prog 63 #[.slice A n c, .int .i64 a] w fun e w' => e = .returned (.bool b) ∧ Below w.heap.size w w' := by
  have H := Lib.hid h
  clear h
  cases hs : setB ts
  · subst hb
    go_enter Tryz.func63, Tryz.ntmps63
    go_wp2_with (go_at_call 53; refine (iSetValid_any _ A n c ts H.out hn).mono ?_; rintro e w2 ⟨rfl, hb2⟩)
    go_ret
    exact ⟨by simp [hs], hb2⟩
  rw [hs, Bool.true_and] at hb
  by_cases h0 : 0 ≤ a
  · by_cases h1 : a < (n : Int)
    · rw [decide_eq_true h0, decide_eq_true h1] at hb
      subst hb
      go_enter Tryz.func63, Tryz.ntmps63
      go_wp2_with (go_at_call 53; refine (iSetValid_any _ A n c ts H.out hn).mono ?_; rintro e w2 ⟨rfl, hb2⟩)
      go_ret
      exact ⟨by simp [*], hb2⟩
    · rw [decide_eq_true h0, decide_eq_false h1] at hb
      subst hb
      go_enter Tryz.func63, Tryz.ntmps63
      go_wp2_with (go_at_call 53; refine (iSetValid_any _ A n c ts H.out hn).mono ?_; rintro e w2 ⟨rfl, hb2⟩)
      go_ret
      exact ⟨by simp [*], hb2⟩
  · rw [decide_eq_false h0] at hb
    subst hb
    go_enter Tryz.func63, Tryz.ntmps63
    go_wp2_with (go_at_call 53; refine (iSetValid_any _ A n c ts H.out hn).mono ?_; rintro e w2 ⟨rfl, hb2⟩)
    go_ret
    exact ⟨by simp [*], hb2⟩
theorem cloLow_next (w : World) (Bt Bs : Nat) (A : Option Addr) (k c : Nat) (us : List Tk) (lo hi du : Nat) (h1 h2 h3 h4 : Value) (hT : Blk w Bt 43 #[.int .i64 (lo : Int), h1, h2, h3, h4]) (hS : Blk w Bs 23 #[.slice A k c]) (hTs : Tks w w.heap.size A k us) (hs : setB us = true) (hlo : lo ≤ 20) (hdu : du ≤ 10000000) :
    NextIs 65 #[.pointer (some ⟨Bt, 0, none⟩), .pointer (some ⟨Bs, 0, none⟩)] (fun x => lo + dLow us x) lo du w := fun W x h1 h2 hb =>
  iCloLow_is W Bt Bs A k c us lo ((hb.cell (p := ⟨Bt, 0, none⟩) hT.lt).trans (hT.cell 0)) ((hb.cell (p := ⟨Bs, 0, none⟩) hS.lt).trans (hS.cell 0)) ((hTs.below hb).more hb.size) hs hlo x _ (by omega) rfl (Nat.lt_of_lt_of_le hT.lt hb.size) (Nat.lt_of_lt_of_le hS.lt hb.size)
theorem blk_second (w : World) (o : Obj) (t : TypeId) (cs : Array Value) : Blk ((w.alloc o).alloc (.cells cs t)) (w.heap.size + 1) t cs := by
  have h := Blk.new (w.alloc o) t cs
  simp only [World.size_alloc] at h
  exact h
/-- A task's longest response at a place that may be none. -/
def atI (f : Nat → Option Nat) (a : Int) : Option Nat := if 0 ≤ a then f a.toNat else none
set_option maxRecDepth 100000 in
set_option maxHeartbeats 2000000 in
theorem iRLow_is (w : World) (A : Option Addr) (n c : Nat) (ts : List Tk) (a : Int) (h : Tks w w.heap.size A n ts) (hn : n ≤ 1048576) (hnc : n ≤ c) (v : Nat) (b : Bool) (hv : resN (atI (rLow ts) a) = (v, b)) :
    Calls Tryz.prog 20 #[.slice A n c, .int .i64 a] w (NbRes v b w) := by
  have H := Lib.hid h
  have HL := Lib.hid h.len
  clear h
  cases hh : (setB ts && (decide (0 ≤ a) && decide (a < (n : Int))))
  · have hr : atI (rLow ts) a = none := by
      unfold atI
      split
      · rename_i h0
        cases hs : setB ts
        · exact rLow_bad _ hs
        · rw [hs, Bool.true_and, decide_eq_true h0, Bool.true_and] at hh
          have h1 : ¬ a < (n : Int) := of_decide_eq_false hh
          exact rLow_past (List.getElem?_eq_none (by have := HL.out; omega))
      · rfl
    rw [hr] at hv
    obtain ⟨rfl, rfl⟩ := Prod.mk.inj hv
    have HH := Lib.hid hh
    clear hr hv hh
    go_enter Tryz.func20, Tryz.ntmps20
    go_wp2_with (go_at_call 63; refine (iHas_is _ A n c ts a H.out hn false HH.out).mono ?_; rintro e w1 ⟨rfl, hb⟩)
    go_ret2
    exact ⟨rfl, hb⟩
  have HH := Lib.hid hh
  rw [Bool.and_eq_true, Bool.and_eq_true, decide_eq_true_iff, decide_eq_true_iff] at hh
  obtain ⟨hs, h0, h1⟩ := hh
  obtain ⟨k, rfl⟩ := Int.eq_ofNat_of_zero_le h0
  have hk : k < n := by omega
  obtain ⟨t, ht⟩ := get_at HL.out hk
  have hr : atI (rLow ts) (k : Int) = respOf (ts.take k) t.lo.toNat t.du.toNat := by
    unfold atI; rw [if_pos h0]; exact rLow_at hs ht
  rw [hr] at hv
  have hok := ok_parts (set_ok hs (get_mem ht))
  have HS := Lib.hid (set_take hs k)
  have HT := Lib.hid ht
  have HV := Lib.hid hv
  clear hr hv ht hs
  obtain ⟨lo, hi, du, ev, cr⟩ := t
  dsimp only at hok HV
  obtain ⟨p1, p2, p3, p4, p5, _⟩ := hok
  obtain ⟨lo, rfl⟩ := Int.eq_ofNat_of_zero_le (show 0 ≤ lo by omega)
  obtain ⟨du, rfl⟩ := Int.eq_ofNat_of_zero_le (show 0 ≤ du by omega)
  go_enter Tryz.func20, Tryz.ntmps20
  go_wp2_with fail
  refine (iHas_is _ A n c ts (k : Int) H.out hn true HH.out).mono ?_
  rintro e w1 ⟨rfl, hb⟩
  have HB1 := Lib.hid hb
  have hsz := hb.size
  obtain ⟨bb, o, rfl, hbl, c0, c1, c2, c3, c4⟩ := (H.out.below hb).at_ k _ HT.out
  dsimp only at c0 c1 c2 c3 c4
  have HTk := Lib.hid (Tks.take ((H.out.below hb).more hb.size) (show k ≤ n by omega))
  clear hb
  have hbl1 : bb < w1.heap.size := by omega
  have hbl2 : bb < w1.heap.size + 1 := by omega
  have i1 : (k : Int) < (n : Int) := h1
  have i2 : (k : Int) ≤ (c : Int) := by omega
  have i3 : ¬ (c : Int) < (k : Int) := by omega
  go_wp2
  go_region
  all_goals go_wp2_with fail
  · refine (iLeast_is _ lo du 65 _ (fun x => lo + dLow (ts.take k) x) v b HV.out (resp_mono _ lo) (fun x _ => Nat.le_add_right _ _) (fun x hx => by have := dLow_bound HS.out x; omega) (by omega) (by omega) (fun _ _ => rfl) (cloLow_next _ _ _ (some ⟨bb, o, none⟩) k c (ts.take k) lo 0 du _ _ _ _ (((Blk.new w1 _ _).alloc _).drewN 1) ((blk_second w1 _ _ _).drewN 1) ((HTk.out.below (bl_drewN (bl_alloc (bl_alloc (Below.refl w1.heap.size w1) _) _) 1)).more (bl_drewN (bl_alloc (bl_alloc (Below.refl w1.heap.size w1) _) _) 1).size) HS.out (by omega) (by omega))).mono ?_
    rintro e w2 ⟨rfl, hb2⟩
    go_wp2
    go_ret2
    exact ⟨rfl, bl_trans (bl_drewN (bl_alloc (bl_alloc HB1.out _) _) 1) hb2⟩
  · refine (iLeast_is _ lo du 65 _ (fun x => lo + dLow (ts.take k) x) v b HV.out (resp_mono _ lo) (fun x _ => Nat.le_add_right _ _) (fun x hx => by have := dLow_bound HS.out x; omega) (by omega) (by omega) (fun _ _ => rfl) (cloLow_next _ _ _ (some ⟨bb, o, none⟩) k c (ts.take k) lo 0 du _ _ _ _ ((blk_second w1 _ _ _).drewN 1) (((Blk.new w1 _ _).alloc _).drewN 1) ((HTk.out.below (bl_drewN (bl_alloc (bl_alloc (Below.refl w1.heap.size w1) _) _) 1)).more (bl_drewN (bl_alloc (bl_alloc (Below.refl w1.heap.size w1) _) _) 1).size) HS.out (by omega) (by omega))).mono ?_
    rintro e w2 ⟨rfl, hb2⟩
    go_wp2
    go_ret2
    exact ⟨rfl, bl_trans (bl_drewN (bl_alloc (bl_alloc HB1.out _) _) 1) hb2⟩
end
section
open Go.RowKit
set_option linter.unusedVariables false
theorem Tks.get {w : World} {B b o n : Nat} {ts : List Tk} (h : Tks w B (some ⟨b, o, none⟩) n ts) {i : Nat} {t : Tk} (ht : ts[i]? = some t) : b < B ∧ TkAt w b (o + i * 5) t := by
  obtain ⟨b', o', e, hb, hc⟩ := h.at_ i t ht
  injection e with e
  injection e with e1 e2
  subst e1 e2
  exact ⟨hb, hc⟩
set_option maxHeartbeats 1000000 in
theorem sAt_is (w : World) (A : Option Addr) (n c : Nat) (ts : List Tk) (a : Int) (h : Tks w w.heap.size A n ts) (hn : n ≤ 1048576) (b : Bool) (hb : (setB ts && (decide (0 ≤ a) && decide (a < (n : Int)))) = b) :
    Calls Tryz.prog 168 #[.slice A n c, .int .i64 a] w fun e w' => e = .returned (.bool b) ∧ Below w.heap.size w w' := by
  have H := Lib.hid h
  clear h
  cases hs : setB ts
  · subst hb
    go_enter Tryz.func168, Tryz.ntmps168
    go_wp2_with (go_at_call 99; refine (sSetValid_any _ A n c ts H.out hn).mono ?_; rintro e w2 ⟨rfl, hb2⟩)
    go_ret
    exact ⟨by simp [hs], hb2⟩
  rw [hs, Bool.true_and] at hb
  by_cases h0 : 0 ≤ a
  · by_cases h1 : a < (n : Int)
    · rw [decide_eq_true h0, decide_eq_true h1] at hb
      subst hb
      go_enter Tryz.func168, Tryz.ntmps168
      go_wp2_with (go_at_call 99; refine (sSetValid_any _ A n c ts H.out hn).mono ?_; rintro e w2 ⟨rfl, hb2⟩)
      go_ret
      exact ⟨by simp [*], hb2⟩
    · rw [decide_eq_true h0, decide_eq_false h1] at hb
      subst hb
      go_enter Tryz.func168, Tryz.ntmps168
      go_wp2_with (go_at_call 99; refine (sSetValid_any _ A n c ts H.out hn).mono ?_; rintro e w2 ⟨rfl, hb2⟩)
      go_ret
      exact ⟨by simp [*], hb2⟩
  · rw [decide_eq_false h0] at hb
    subst hb
    go_enter Tryz.func168, Tryz.ntmps168
    go_wp2_with (go_at_call 99; refine (sSetValid_any _ A n c ts H.out hn).mono ?_; rintro e w2 ⟨rfl, hb2⟩)
    go_ret
    exact ⟨by simp [*], hb2⟩
set_option maxRecDepth 100000 in
set_option maxHeartbeats 2000000 in
theorem sRLow_is (w : World) (A : Option Addr) (n c : Nat) (ts : List Tk) (a : Int) (h : Tks w w.heap.size A n ts) (hn : n ≤ 1048576) (v : Nat) (b : Bool) (hv : resN (atI (rLow ts) a) = (v, b)) :
    Calls Tryz.prog 163 #[.slice A n c, .int .i64 a] w (NbRes v b w) := by
  have H := Lib.hid h
  have HL := Lib.hid h.len
  clear h
  cases hh : (setB ts && (decide (0 ≤ a) && decide (a < (n : Int))))
  · have hr : atI (rLow ts) a = none := by
      unfold atI
      split
      · rename_i h0
        cases hs : setB ts
        · exact rLow_bad _ hs
        · rw [hs, Bool.true_and, decide_eq_true h0, Bool.true_and] at hh
          have h1 : ¬ a < (n : Int) := of_decide_eq_false hh
          exact rLow_past (List.getElem?_eq_none (by have := HL.out; omega))
      · rfl
    rw [hr] at hv
    obtain ⟨rfl, rfl⟩ := Prod.mk.inj hv
    have HH := Lib.hid hh
    clear hr hv hh
    go_enter Tryz.func163, Tryz.ntmps163
    go_wp2_with (go_at_call 168; refine (sAt_is _ A n c ts a H.out hn false HH.out).mono ?_; rintro e w1 ⟨rfl, hb⟩)
    go_ret2
    exact ⟨rfl, hb⟩
  have HH := Lib.hid hh
  rw [Bool.and_eq_true, Bool.and_eq_true, decide_eq_true_iff, decide_eq_true_iff] at hh
  obtain ⟨hs, h0, h1⟩ := hh
  obtain ⟨k, rfl⟩ := Int.eq_ofNat_of_zero_le h0
  have hk : k < n := by omega
  obtain ⟨t, ht⟩ := get_at HL.out hk
  have hr : atI (rLow ts) (k : Int) = respOf (ts.take k) t.lo.toNat t.du.toNat := by
    unfold atI; rw [if_pos h0]; exact rLow_at hs ht
  rw [hr] at hv
  have hok := ok_parts (set_ok hs (get_mem ht))
  have HSS := Lib.hid hs
  have HS := Lib.hid (set_take hs k)
  have HT := Lib.hid ht
  have HV := Lib.hid hv
  clear hr hv hs
  obtain ⟨bb, o, rfl, hbl, _⟩ := H.out.at_ k _ ht
  clear ht
  obtain ⟨lo, hi, du, ev, cr⟩ := t
  dsimp only at hok HV
  obtain ⟨p1, p2, p3, p4, p5, _⟩ := hok
  obtain ⟨lo, rfl⟩ := Int.eq_ofNat_of_zero_le (show 0 ≤ lo by omega)
  obtain ⟨du, rfl⟩ := Int.eq_ofNat_of_zero_le (show 0 ≤ du by omega)
  have HV' : Hid (resN (leastN (fun y => lo + dLow (ts.take k) y) lo du) = (v, b)) := HV.out
  go_enter Tryz.func163, Tryz.ntmps163
  go_wp2_with fail
  refine (sAt_is _ _ n c ts (k : Int) H.out hn true HH.out).mono ?_
  rintro e w1 ⟨rfl, hb⟩
  have HB1 := Lib.hid hb
  have hsz := hb.size
  have C1 := (Tks.get (H.out.below hb) HT.out).2
  have c0 := C1.c0
  clear C1 hb
  have i1 : (k : Int) < (n : Int) := h1
  go_wp2
  go_loopw [6] (fun i wr => ∃ x : Nat, i = .int .i64 x ∧ x ≤ 1000000 ∧ Hid (NoneBelow (fun y => lo + dLow (ts.take k) y) lo x) ∧ Below w.heap.size w wr) (fun i _ => du + 1 - (intOf i).toNat)
  case atStart => exact ⟨lo, rfl, by omega, none_start _ lo, HB1.out⟩
  case round =>
    obtain ⟨x, rfl, hx, HN, hb⟩ := hrel
    have HB := Lib.hid hb
    have hsz2 := hb.size
    have C2 := (Tks.get (H.out.below hb) HT.out).2
    have d0 := C2.c0
    have d2 := C2.c2
    dsimp only at d0 d2
    clear C2 hb
    by_cases hxd : x ≤ du
    · have hxd' : (x : Int) ≤ (du : Int) := by omega
      go_wp2
      go_loopw [7, 8] (fun s i wr => ∃ j m : Nat, j ≤ k ∧ i = .int .i64 j ∧ s = .int .i64 (m : Int) ∧ Hid (m = lo + dLow (ts.take j) x) ∧ Below w.heap.size w wr) (fun _ i _ => k - (intOf i).toNat)
      case atStart => exact ⟨0, lo, Nat.zero_le _, rfl, rfl, (show lo = _ by simp [dLow]), HB.out⟩
      case round =>
        obtain ⟨j, m, hj, rfl, rfl, HM, hb3⟩ := hrel
        have HB3 := Lib.hid hb3
        have hsz3 := hb3.size
        clear hb3
        by_cases hjk : j < k
        · obtain ⟨u, hu⟩ := get_at HL.out (show j < n by omega)
          have C3 := (Tks.get (H.out.below HB3.out) hu).2
          have HVu := Lib.hid (set_ok HSS.out (get_mem hu))
          have HTu := Lib.hid (dLow_take hu x)
          have hb1 := dLow_bound (set_take HSS.out j) x
          have hb2 := dmd_bound HVu.out x false
          obtain ⟨d, hd⟩ : ∃ d, dmd u x false = d := ⟨_, rfl⟩
          rw [hd] at hb2
          have hm1 : m ≤ lo + 100 * (x + 20) := by rw [HM.out]; omega
          have HM' : Hid (m + d = lo + dLow (ts.take (j + 1)) x) := by show _ = _; rw [HTu.out, hd, HM.out]; omega
          have HD := Lib.hid hd
          clear hd hu HTu hb1
          obtain ⟨lo', hi', du', ev', cr'⟩ := u
          obtain ⟨g0, g1, g2, g3, g4⟩ := C3
          dsimp only at g0 g1 g2 g3 g4
          have i2 : (j : Int) < (n : Int) := by omega
          go_wp2_with (go_at_call 164; refine (sDemand_is _ lo' hi' du' ev' cr' x false d HVu.out (by omega) HD.out).mono ?_; rintro e w2 ⟨rfl, rfl⟩)
          go_roundw
          case rel => exact ⟨j + 1, m + d, by omega, by go_num, by go_num, HM', bl_alloc HB3.out _⟩
          case measure => simp [intOf]; omega
        · obtain rfl : j = k := by omega
          have hmb : m ≤ lo + 100 * (x + 20) := by have := dLow_bound HS.out x; rw [HM.out]; omega
          by_cases he : m = x
          · have hei : (m : Int) = (x : Int) := by omega
            obtain ⟨rfl, rfl⟩ : x = v ∧ true = b := Prod.mk.inj (by rw [← HV'.out, least_hit HN.out hxd (by rw [← he]; exact (by rw [he]; exact HM.out.symm.trans he))]; rfl)
            go_wp2
            go_ret2
            exact ⟨rfl, HB3.out⟩
          · have hei : ¬ (m : Int) = (x : Int) := by omega
            have hnx := none_step (resp_mono (ts.take j) lo) (fun y _ => Nat.le_add_right lo (dLow (ts.take j) y)) HN.out
            have hlt := none_le (resp_mono (ts.take j) lo) (fun y _ => Nat.le_add_right lo (dLow (ts.take j) y)) HN.out
            have hnm : Hid (NoneBelow (fun y => lo + dLow (ts.take j) y) lo m) := by show NoneBelow _ _ _; rw [HM.out]; exact hnx
            have hlm : x ≤ m := by rw [HM.out]; exact hlt
            clear hnx hlt
            go_wp2
            go_roundw
            case rel => exact ⟨m, rfl, by omega, hnm, HB3.out⟩
            case measure => simp [intOf]; omega
    · have hxd' : ¬ (x : Int) ≤ (du : Int) := by omega
      obtain ⟨rfl, rfl⟩ : 0 = v ∧ false = b := Prod.mk.inj (by rw [← HV'.out, least_past HN.out (by omega)]; rfl)
      go_wp2
      go_ret2
      exact ⟨rfl, HB.out⟩
end
section
open Go.RowKit
set_option linter.unusedVariables false
theorem own_le {w : World} {B c : Nat} {A : Option Addr} {ts : List Tk} (h : Own w B (.slice A ts.length c) ts) : ts.length ≤ c := by
  rcases h.2 with ⟨e, h0⟩ | ⟨g, cap, cur, e, _, _, h1, h2, _⟩
  · omega
  · injection e with e1 e2 e3
    subst e3
    exact h1
end
section
open Go.RowKit
set_option linter.unusedVariables false
theorem tks_to {w1 W : World} {A : Option Addr} {n : Nat} {ts : List Tk} (h : Tks w1 w1.heap.size A n ts) (hb : Below w1.heap.size w1 W) : Tks W W.heap.size A n ts := (h.below hb).more hb.size
theorem res_false {o : Option Nat} {v : Nat} (h : resN o = (v, false)) : o = none ∧ 0 = v := by
  cases o with
  | none => exact ⟨rfl, (Prod.mk.inj h).1⟩
  | some x => cases (Prod.mk.inj h).2
theorem res_true {o : Option Nat} {v : Nat} (h : resN o = (v, true)) : o = some v := by
  cases o with
  | none => cases (Prod.mk.inj h).2
  | some x => rw [← (Prod.mk.inj h).1]; rfl
theorem at_some {f : Nat → Option Nat} {a : Int} {v : Nat} (h : atI f a = some v) : ∃ k : Nat, a = (k : Int) ∧ f k = some v := by
  unfold atI at h
  split at h
  · rename_i h0
    obtain ⟨k, rfl⟩ := Int.eq_ofNat_of_zero_le h0
    exact ⟨k, rfl, h⟩
  · cases h
theorem at_nat (f : Nat → Option Nat) (k : Nat) : atI f (k : Int) = f k := by unfold atI; rw [if_pos (by omega)]; rfl
/-- A task that responds. -/
theorem rLow_some {ts : List Tk} {k v : Nat} (h : rLow ts k = some v) : setB ts = true ∧ ∃ t, ts[k]? = some t ∧ respOf (ts.take k) t.lo.toNat t.du.toNat = some v := by
  cases hs : setB ts
  · rw [rLow_bad k hs] at h; cases h
  · cases ht : ts[k]? with
    | none => rw [rLow_past ht] at h; cases h
    | some t =>
      rw [rLow_at hs ht] at h
      exact ⟨rfl, t, rfl, h⟩
theorem resp_fix {xs : List Tk} {n d v : Nat} (h : respOf xs n d = some v) : n + dLow xs v = v ∧ n ≤ v ∧ v ≤ d ∧ ∀ x, n ≤ x → x < v → x < n + dLow xs x := by
  obtain ⟨h1, h2, _, h4⟩ := least_some.1 h
  exact ⟨least_fix (resp_mono xs n) (fun x _ => Nat.le_add_right _ _) h, h1, h2, h4⟩
end
section
open Go.RowKit
set_option linter.unusedVariables false
theorem rSwi_some {ts : List Tk} {k v : Nat} (h : rSwi ts k = some v) : setB ts = true ∧ ∃ t l, ts[k]? = some t ∧ t.cr = true ∧ rLow ts k = some l ∧ swiOf (ts.take k) l t.hi.toNat t.du.toNat = some v := by
  cases hl : rLow ts k with
  | none => rw [rSwi_none hl] at h; cases h
  | some l =>
    obtain ⟨hs, t, ht, hf⟩ := rLow_some hl
    cases hc : t.cr
    · rw [rSwi_not ht hc] at h; cases h
    · rw [rSwi_at hl ht hc] at h
      exact ⟨hs, t, l, ht, hc, rfl, h⟩
theorem swi_fix {xs : List Tk} {l n d v : Nat} (h : swiOf xs l n d = some v) : n + dSwi xs l v = v ∧ n ≤ v ∧ v ≤ d ∧ ∀ x, n ≤ x → x < v → x < n + dSwi xs l x := by
  obtain ⟨h1, h2, _, h4⟩ := least_some.1 h
  exact ⟨least_fix (swi_mono xs l n) (fun x _ => Nat.le_add_right _ _) h, h1, h2, h4⟩
theorem dLow_le_swi {ts : List Tk} (ho : ∀ t ∈ ts, t.ok = true) {l w : Nat} (h : w ≤ l) : dLow ts w ≤ dSwi ts l w := sum_le fun t ht => by
  unfold dmS; split
  · exact dmd_low (ho t ht) w true
  · exact dmd_mono t false h
/-- A response at the switch is no shorter than those in both modes. -/
theorem swi_longest {ts : List Tk} {k v : Nat} (h : rSwi ts k = some v) : ∃ l r, rLow ts k = some l ∧ rHigh ts k = some r ∧ l ≤ v ∧ r ≤ v := by
  obtain ⟨hs, t, l, ht, hc, hl, hf⟩ := rSwi_some h
  obtain ⟨x1, x2, x3, x4⟩ := swi_fix hf
  obtain ⟨_, t', ht', hr⟩ := rLow_some hl
  obtain rfl : t = t' := by rw [ht] at ht'; exact Option.some.inj ht'
  obtain ⟨y1, y2, y3, y4⟩ := resp_fix hr
  have o := ok_parts (set_ok hs (get_mem ht))
  have hh : ∃ r, rHigh ts k = some r ∧ r ≤ v := by
    rw [rHigh_is hs ht hc]
    have hd := dCrit_le (ts.take k) l v
    cases hx : respOf (critL (ts.take k)) t.hi.toNat t.du.toNat with
    | none =>
      have := least_none.1 hx v x2 x3
      omega
    | some r =>
      refine ⟨r, rfl, ?_⟩
      obtain ⟨z1, z2, z3, z4⟩ := resp_fix hx
      rcases Nat.lt_or_ge v r with hlt | hge
      · have := z4 v x2 hlt
        omega
      · exact hge
  obtain ⟨r, hr1, hr2⟩ := hh
  refine ⟨l, r, hl, hr1, ?_, hr2⟩
  rcases Nat.lt_or_ge v l with hlt | hge
  · have h1 := y4 v (by omega) hlt
    have h2 := dLow_le_swi (fun u hu => set_ok (set_take hs k) hu) (Nat.le_of_lt hlt) (l := l) (w := v)
    omega
  · exact hge
end
section
open Go.RowKit
set_option linter.unusedVariables false
set_option maxHeartbeats 1000000 in
theorem iDemSwi_is (w : World) (A : Option Addr) (n c : Nat) (ts : List Tk) (h : Tks w w.heap.size A n ts) (hs : setB ts = true) (l x m : Nat) (hl : l ≤ 10000000) (hx : x ≤ 10000000) (hm : dSwi ts l x = m) :
    Calls Tryz.prog 69 #[.slice A n c, .int .i64 (l : Int), .int .i64 (x : Int)] w (NumIs m w) := by
  have H := Lib.hid h
  have HL := Lib.hid h.len
  have HS := Lib.hid hs
  have HM := Lib.hid hm
  have h5 : n ≤ 5 := by have := setB_len hs; rw [HL.out] at this; exact this
  clear h hs hm
  go_enter Tryz.func69, Tryz.ntmps69
  go_wp2
  go_loopw [7, 12] (fun s i wr => ∃ k : Nat, k ≤ n ∧ i = .int .i64 k ∧ s = .int .i64 (dSwi (ts.take k) l x : Nat) ∧ Below w.heap.size w wr) (fun _ i _ => n - (intOf i).toNat)
  case atStart => exact ⟨0, Nat.zero_le _, rfl, rfl, Below.refl _ _⟩
  case round =>
    obtain ⟨k, hk, rfl, rfl, hb⟩ := hrel
    have HB := Lib.hid hb
    clear hb
    by_cases hlt : k < n
    · obtain ⟨t, ht⟩ := get_at HL.out hlt
      obtain ⟨b, o, rfl, hbl, c0, c1, c2, c3, c4⟩ := (H.out.below HB.out).at_ k t ht
      have HT := Lib.hid (dSwi_take ht l x)
      have HV := Lib.hid (set_ok HS.out (get_mem ht))
      have hb1 := dSwi_bound (set_take HS.out k) l x
      have hb2 := dmS_bound HV.out l x
      have hsz := HB.out.size
      obtain ⟨d, hd⟩ : ∃ d, dmS l x t = d := ⟨_, rfl⟩
      rw [hd] at hb2
      have HT' : Hid (dSwi (ts.take (k + 1)) l x = dSwi (ts.take k) l x + d) := by have := HT.out; rw [hd] at this; exact this
      generalize dSwi (ts.take k) l x = s at *
      cases hc : t.cr
      · have HD : Hid (dmd t l false = d) := by show _ = _; rw [← hd]; unfold dmS; rw [hc]; rfl
        clear ht hd HT
        obtain ⟨lo, hi, du, ev, cr⟩ := t
        dsimp only at c0 c1 c2 c3 c4 hc
        subst hc
        go_wp2_with (go_at_call 108; refine (iDemand_is _ lo hi du ev false l false d HV.out (by omega) HD.out).mono ?_; rintro e w2 ⟨rfl, rfl⟩)
        go_roundw
        case rel => exact ⟨k + 1, by omega, by go_num, by rw [HT'.out]; go_num, by repeat (first | with_reducible exact HB.out | refine bl_alloc ?_ _ | refine bl_set ?_ (by simp; omega) _)⟩
        case measure => simp [intOf]; omega
      · have HD : Hid (dmd t x true = d) := by show _ = _; rw [← hd]; unfold dmS; rw [hc]; rfl
        clear ht hd HT
        obtain ⟨lo, hi, du, ev, cr⟩ := t
        dsimp only at c0 c1 c2 c3 c4 hc
        subst hc
        go_wp2_with (go_at_call 108; refine (iDemand_is _ lo hi du ev true x true d HV.out (by omega) HD.out).mono ?_; rintro e w2 ⟨rfl, rfl⟩)
        go_roundw
        case rel => exact ⟨k + 1, by omega, by go_num, by rw [HT'.out]; go_num, by repeat (first | with_reducible exact HB.out | refine bl_alloc ?_ _ | refine bl_set ?_ (by simp; omega) _)⟩
        case measure => simp [intOf]; omega
    · obtain rfl : k = n := by omega
      have HE : Hid (dSwi (ts.take k) l x = m) := by show _ = _; rw [take_all (by rw [HL.out]; omega)]; exact HM.out
      go_wp2
      go_ret
      exact ⟨by rw [HE.out]; rfl, HB.out⟩
set_option maxHeartbeats 1000000 in
theorem iCloSwi_is (w : World) (Bt Bs Bl : Nat) (A : Option Addr) (k c : Nat) (us : List Tk) (hi l : Nat) (hT : w.cell? ⟨Bt, 1, none⟩ = some (.int .i64 (hi : Int))) (hS : w.cell? ⟨Bs, 0, none⟩ = some (.slice A k c)) (hL : w.cell? ⟨Bl, 0, none⟩ = some (.int .i64 (l : Int))) (hTs : Tks w w.heap.size A k us) (hs : setB us = true) (hhi : hi ≤ 20) (x m : Nat) (hl : l ≤ 10000000) (hx : x ≤ 10000000) (hm : hi + dSwi us l x = m) (hbt : Bt < w.heap.size) (hbs : Bs < w.heap.size) (hbl : Bl < w.heap.size) :
    Calls Tryz.prog 68 #[.int .i64 (x : Int), .pointer (some ⟨Bt, 0, none⟩), .pointer (some ⟨Bs, 0, none⟩), .pointer (some ⟨Bl, 0, none⟩)] w (NumIs m w) := by
  have H := Lib.hid hTs
  have HS := Lib.hid hs
  obtain ⟨d, hd⟩ : ∃ d, dSwi us l x = d := ⟨_, rfl⟩
  have hdb := dSwi_bound hs l x
  rw [hd] at hm hdb
  subst hm
  have HD := Lib.hid hd
  have kw : IntKind.i64.wrap ((hi : Int) + (d : Int)) = (hi : Int) + (d : Int) := IntWalk.i64_in _ (by omega)
  have hS0 : w.cell? ⟨Bt, 1, none⟩ = some (.int .i64 (hi : Int)) ∧ w.cell? ⟨Bs, 0, none⟩ = some (.slice A k c) ∧ w.cell? ⟨Bl, 0, none⟩ = some (.int .i64 (l : Int)) := ⟨hT, hS, hL⟩
  clear hTs hs hd
  go_enter Tryz.func68, Tryz.ntmps68
  go_wp2_with fail
  go_region_held3 (fun W => W.cell? ⟨Bt, 1, none⟩ = some (.int .i64 (hi : Int)) ∧ W.cell? ⟨Bs, 0, none⟩ = some (.slice A k c) ∧ W.cell? ⟨Bl, 0, none⟩ = some (.int .i64 (l : Int))) (first | exact hS0 | exact hS2)
    ((first
      | (go_at_call 69; refine (iDemSwi_is _ A k c us ?_ HS.out l x d hl hx HD.out).mono ?_; exact H.out.below (by repeat (first | with_reducible exact Below.refl w.heap.size w | with_reducible refine Below.drew ?_ | with_reducible refine bl_drewN ?_ _)); rintro e w2 ⟨rfl, hb⟩; have HB2 := Lib.hid (show Below w.heap.size w w2 from bl_trans (by repeat (first | with_reducible exact Below.refl w.heap.size w | with_reducible refine bl_drewN ?_ _ | with_reducible refine Below.drew ?_)) hb); have hS2 : w2.cell? ⟨Bt, 1, none⟩ = some (.int .i64 (hi : Int)) ∧ w2.cell? ⟨Bs, 0, none⟩ = some (.slice A k c) ∧ w2.cell? ⟨Bl, 0, none⟩ = some (.int .i64 (l : Int)) := ⟨(HB2.out.cell (p := ⟨Bt, 1, none⟩) hbt).trans hT, (HB2.out.cell (p := ⟨Bs, 0, none⟩) hbs).trans hS, (HB2.out.cell (p := ⟨Bl, 0, none⟩) hbl).trans hL⟩; clear hb)))
  go_wp2
  go_ret
  exact ⟨by first | rfl | go_num, HB2.out⟩
theorem cloSwi_next (w : World) (Bt Bs Bl : Nat) (A : Option Addr) (k c : Nat) (us : List Tk) (hi lo up l : Nat) (h1 h2 h3 h4 : Value) (hT : Blk w Bt 43 #[h1, .int .i64 (hi : Int), h2, h3, h4]) (hS : Blk w Bs 23 #[.slice A k c]) (hL : Blk w Bl 3 #[.int .i64 (l : Int)]) (hTs : Tks w w.heap.size A k us) (hs : setB us = true) (hhi : hi ≤ 20) (hl : l ≤ 10000000) (hup : up ≤ 10000000) :
    NextIs 68 #[.pointer (some ⟨Bt, 0, none⟩), .pointer (some ⟨Bs, 0, none⟩), .pointer (some ⟨Bl, 0, none⟩)] (fun x => hi + dSwi us l x) lo up w := fun W x h1 h2 hb =>
  iCloSwi_is W Bt Bs Bl A k c us hi l ((hb.cell (p := ⟨Bt, 1, none⟩) hT.lt).trans (hT.cell 1)) ((hb.cell (p := ⟨Bs, 0, none⟩) hS.lt).trans (hS.cell 0)) ((hb.cell (p := ⟨Bl, 0, none⟩) hL.lt).trans (hL.cell 0)) ((hTs.below hb).more hb.size) hs hhi x _ hl (by omega) rfl (Nat.lt_of_lt_of_le hT.lt hb.size) (Nat.lt_of_lt_of_le hS.lt hb.size) (Nat.lt_of_lt_of_le hL.lt hb.size)
theorem blk_third (w : World) (o o' : Obj) (t : TypeId) (cs : Array Value) : Blk (((w.alloc o).alloc o').alloc (.cells cs t)) (w.heap.size + 1 + 1) t cs := by
  have h := Blk.new ((w.alloc o).alloc o') t cs
  simp only [World.size_alloc] at h
  exact h
theorem swi_none {ts : List Tk} {a : Int} (h : atI (rLow ts) a = none) : atI (rSwi ts) a = none := by
  unfold atI at h ⊢
  split
  · rename_i h0
    rw [if_pos h0] at h
    exact rSwi_none h
  · rfl
set_option maxRecDepth 100000 in
set_option maxHeartbeats 2000000 in
theorem iRSwi_is (w : World) (A : Option Addr) (n c : Nat) (ts : List Tk) (a : Int) (h : Tks w w.heap.size A n ts) (hn : n ≤ 1048576) (hnc : n ≤ c) (v : Nat) (b : Bool) (hv : resN (atI (rSwi ts) a) = (v, b)) :
    Calls Tryz.prog 23 #[.slice A n c, .int .i64 a] w (NbRes v b w) := by
  have H := Lib.hid h
  have HL := Lib.hid h.len
  clear h
  obtain ⟨l, b0, h0⟩ : ∃ l b0, resN (atI (rLow ts) a) = (l, b0) := ⟨_, _, rfl⟩
  have H0 := Lib.hid h0
  cases b0
  · obtain ⟨hno, rfl⟩ := res_false h0
    rw [swi_none hno] at hv
    obtain ⟨rfl, rfl⟩ := Prod.mk.inj hv
    clear hv hno h0
    go_enter Tryz.func23, Tryz.ntmps23
    go_wp2_with (go_at_call 20; refine (iRLow_is _ A n c ts a H.out hn hnc 0 false H0.out).mono ?_; rintro e w1 ⟨rfl, hb⟩)
    go_ret2
    exact ⟨rfl, bl_alloc hb _⟩
  obtain ⟨k, rfl, hr⟩ := at_some (res_true h0)
  obtain ⟨hset, t, ht, hf⟩ := rLow_some hr
  obtain ⟨_, _, x3, _⟩ := resp_fix hf
  have hk : k < n := by have := (List.getElem?_eq_some_iff.1 ht).1; rw [HL.out] at this; exact this
  obtain ⟨bb, o, rfl, hbl, _⟩ := H.out.at_ k _ ht
  have hok := ok_parts (set_ok hset (get_mem ht))
  have HT := Lib.hid ht
  have HS := Lib.hid (set_take hset k)
  rw [at_nat] at hv
  have i1 : (k : Int) < (n : Int) := by omega
  have i2 : (k : Int) ≤ (c : Int) := by omega
  have i3 : ¬ (c : Int) < (k : Int) := by omega
  cases hc : t.cr
  · rw [rSwi_not ht hc] at hv
    obtain ⟨rfl, rfl⟩ := Prod.mk.inj hv
    clear hv hf hr h0 ht hset
    go_enter Tryz.func23, Tryz.ntmps23
    go_wp2_with fail
    refine (iRLow_is _ _ n c ts (k : Int) H.out hn hnc l true H0.out).mono ?_
    rintro e w1 ⟨rfl, hb⟩
    have HB1 := Lib.hid hb
    have hsz := hb.size
    have C1 := (Tks.get (H.out.below hb) HT.out).2.c4
    rw [hc] at C1
    have hbl1 : bb < w1.heap.size := by omega
    clear hb
    go_wp2
    go_ret2
    exact ⟨rfl, bl_alloc HB1.out _⟩
  rw [rSwi_at hr ht hc] at hv
  have HV := Lib.hid hv
  clear hv hf hr h0 ht hset
  obtain ⟨lo, hi, du, ev, cr⟩ := t
  dsimp only at hok HV hc x3
  subst hc
  obtain ⟨p1, p2, p3, p4, p5, _⟩ := hok
  obtain ⟨hi, rfl⟩ := Int.eq_ofNat_of_zero_le (show 0 ≤ hi by omega)
  obtain ⟨du, rfl⟩ := Int.eq_ofNat_of_zero_le (show 0 ≤ du by omega)
  have hl20 : l ≤ 20 := by omega
  go_enter Tryz.func23, Tryz.ntmps23
  go_wp2_with fail
  refine (iRLow_is _ _ n c ts (k : Int) H.out hn hnc l true H0.out).mono ?_
  rintro e w1 ⟨rfl, hb⟩
  have HB1 := Lib.hid hb
  have hsz := hb.size
  obtain ⟨c0, c1, c2, c3, c4⟩ := (Tks.get (H.out.below hb) HT.out).2
  dsimp only at c0 c1 c2 c3 c4
  have HTk := Lib.hid (Tks.take ((H.out.below hb).more hb.size) (show k ≤ n by omega))
  clear hb
  have hbl1 : bb < w1.heap.size := by omega
  have hbl2 : bb < w1.heap.size + 1 := by omega
  have hbl3 : bb < w1.heap.size + 1 + 1 := by omega
  go_wp2
  go_region
  all_goals go_wp2_with fail
  · refine (iLeast_is _ hi du 68 _ (fun x => hi + dSwi (ts.take k) l x) v b HV.out (swi_mono _ l hi) (fun x _ => Nat.le_add_right _ _) (fun x hx => by have := dSwi_bound HS.out l x; omega) (by omega) (by omega) (fun _ _ => rfl) (cloSwi_next _ _ _ _ (some ⟨bb, o, none⟩) k c (ts.take k) hi hi du l _ _ _ _ ((((blk_second w1 _ _ _).alloc _)).drewN 1) ((blk_third w1 _ _ _ _).drewN 1) ((((Blk.new w1 _ _).alloc _).alloc _).drewN 1) ((HTk.out.below (bl_drewN (bl_alloc (bl_alloc (bl_alloc (Below.refl w1.heap.size w1) _) _) _) 1)).more (bl_drewN (bl_alloc (bl_alloc (bl_alloc (Below.refl w1.heap.size w1) _) _) _) 1).size) HS.out (by omega) (by omega) (by omega))).mono ?_
    rintro e w2 ⟨rfl, hb2⟩
    go_wp2
    go_ret2
    exact ⟨rfl, bl_trans (bl_drewN (bl_alloc (bl_alloc (bl_alloc HB1.out _) _) _) 1) hb2⟩
  · refine (iLeast_is _ hi du 68 _ (fun x => hi + dSwi (ts.take k) l x) v b HV.out (swi_mono _ l hi) (fun x _ => Nat.le_add_right _ _) (fun x hx => by have := dSwi_bound HS.out l x; omega) (by omega) (by omega) (fun _ _ => rfl) (cloSwi_next _ _ _ _ (some ⟨bb, o, none⟩) k c (ts.take k) hi hi du l _ _ _ _ ((blk_third w1 _ _ _ _).drewN 1) ((((blk_second w1 _ _ _).alloc _)).drewN 1) ((((Blk.new w1 _ _).alloc _).alloc _).drewN 1) ((HTk.out.below (bl_drewN (bl_alloc (bl_alloc (bl_alloc (Below.refl w1.heap.size w1) _) _) _) 1)).more (bl_drewN (bl_alloc (bl_alloc (bl_alloc (Below.refl w1.heap.size w1) _) _) _) 1).size) HS.out (by omega) (by omega) (by omega))).mono ?_
    rintro e w2 ⟨rfl, hb2⟩
    go_wp2
    go_ret2
    exact ⟨rfl, bl_trans (bl_drewN (bl_alloc (bl_alloc (bl_alloc HB1.out _) _) _) 1) hb2⟩
end
section
open Go.RowKit
set_option linter.unusedVariables false
set_option maxRecDepth 100000 in
set_option maxHeartbeats 4000000 in
theorem sRSwi_is (w : World) (A : Option Addr) (n c : Nat) (ts : List Tk) (a : Int) (h : Tks w w.heap.size A n ts) (hn : n ≤ 1048576) (v : Nat) (b : Bool) (hv : resN (atI (rSwi ts) a) = (v, b)) :
    Calls Tryz.prog 150 #[.slice A n c, .int .i64 a] w (NbRes v b w) := by
  have H := Lib.hid h
  have HL := Lib.hid h.len
  clear h
  obtain ⟨l, b0, h0⟩ : ∃ l b0, resN (atI (rLow ts) a) = (l, b0) := ⟨_, _, rfl⟩
  have H0 := Lib.hid h0
  cases b0
  · obtain ⟨hno, rfl⟩ := res_false h0
    rw [swi_none hno] at hv
    obtain ⟨rfl, rfl⟩ := Prod.mk.inj hv
    clear hv hno h0
    go_enter Tryz.func150, Tryz.ntmps150
    go_wp2_with (go_at_call 163; refine (sRLow_is _ A n c ts a H.out hn 0 false H0.out).mono ?_; rintro e w1 ⟨rfl, hb⟩)
    go_ret2
    exact ⟨rfl, hb⟩
  obtain ⟨k, rfl, hr⟩ := at_some (res_true h0)
  obtain ⟨hset, t, ht, hf⟩ := rLow_some hr
  obtain ⟨_, _, x3, _⟩ := resp_fix hf
  have hk : k < n := by have := (List.getElem?_eq_some_iff.1 ht).1; rw [HL.out] at this; exact this
  obtain ⟨bb, o, rfl, hbl, _⟩ := H.out.at_ k _ ht
  have hok := ok_parts (set_ok hset (get_mem ht))
  have HT := Lib.hid ht
  have HSS := Lib.hid hset
  have HS := Lib.hid (set_take hset k)
  rw [at_nat] at hv
  have i1 : (k : Int) < (n : Int) := by omega
  cases hc : t.cr
  · rw [rSwi_not ht hc] at hv
    obtain ⟨rfl, rfl⟩ := Prod.mk.inj hv
    clear hv hf hr h0 ht hset
    go_enter Tryz.func150, Tryz.ntmps150
    go_wp2_with fail
    refine (sRLow_is _ _ n c ts (k : Int) H.out hn l true H0.out).mono ?_
    rintro e w1 ⟨rfl, hb⟩
    have HB1 := Lib.hid hb
    have hsz := hb.size
    have C1 := (Tks.get (H.out.below hb) HT.out).2.c4
    rw [hc] at C1
    clear hb
    go_wp2
    go_ret2
    exact ⟨rfl, HB1.out⟩
  rw [rSwi_at hr ht hc] at hv
  have HV := Lib.hid hv
  clear hv hf hr h0 ht hset
  obtain ⟨lo, hi, du, ev, cr⟩ := t
  dsimp only at hok HV hc x3
  subst hc
  obtain ⟨p1, p2, p3, p4, p5, _⟩ := hok
  obtain ⟨hi, rfl⟩ := Int.eq_ofNat_of_zero_le (show 0 ≤ hi by omega)
  obtain ⟨du, rfl⟩ := Int.eq_ofNat_of_zero_le (show 0 ≤ du by omega)
  have hl20 : l ≤ 20 := by omega
  have HV' : Hid (resN (leastN (fun y => hi + dSwi (ts.take k) l y) hi du) = (v, b)) := HV.out
  go_enter Tryz.func150, Tryz.ntmps150
  go_wp2_with fail
  refine (sRLow_is _ _ n c ts (k : Int) H.out hn l true H0.out).mono ?_
  rintro e w1 ⟨rfl, hb⟩
  have HB1 := Lib.hid hb
  have hsz := hb.size
  obtain ⟨c0, c1, c2, c3, c4⟩ := (Tks.get (H.out.below hb) HT.out).2
  dsimp only at c0 c1 c2 c3 c4
  clear hb
  go_wp2
  go_loopw [8] (fun i wr => ∃ x : Nat, i = .int .i64 x ∧ x ≤ 1000000 ∧ Hid (NoneBelow (fun y => hi + dSwi (ts.take k) l y) hi x) ∧ Below w.heap.size w wr) (fun i _ => du + 1 - (intOf i).toNat)
  case atStart => exact ⟨hi, rfl, by omega, none_start _ hi, HB1.out⟩
  case round =>
    obtain ⟨x, rfl, hx, HN, hb⟩ := hrel
    have HB := Lib.hid hb
    have hsz2 := hb.size
    have C2 := (Tks.get (H.out.below hb) HT.out).2
    have d1 := C2.c1
    have d2 := C2.c2
    dsimp only at d1 d2
    clear C2 hb
    by_cases hxd : x ≤ du
    · have hxd' : (x : Int) ≤ (du : Int) := by omega
      go_wp2
      go_loopw [9, 10] (fun s i wr => ∃ j m : Nat, j ≤ k ∧ i = .int .i64 j ∧ s = .int .i64 (m : Int) ∧ Hid (m = hi + dSwi (ts.take j) l x) ∧ Below w.heap.size w wr) (fun _ i _ => k - (intOf i).toNat)
      case atStart => exact ⟨0, hi, Nat.zero_le _, rfl, rfl, (show hi = _ by simp [dSwi]), HB.out⟩
      case round =>
        obtain ⟨j, m, hj, rfl, rfl, HM, hb3⟩ := hrel
        have HB3 := Lib.hid hb3
        have hsz3 := hb3.size
        clear hb3
        by_cases hjk : j < k
        · obtain ⟨u, hu⟩ := get_at HL.out (show j < n by omega)
          have C3 := (Tks.get (H.out.below HB3.out) hu).2
          have HVu := Lib.hid (set_ok HSS.out (get_mem hu))
          have HTu := Lib.hid (dSwi_take hu l x)
          have hb1 := dSwi_bound (set_take HSS.out j) l x
          have hb2 := dmS_bound HVu.out l x
          obtain ⟨d, hd⟩ : ∃ d, dmS l x u = d := ⟨_, rfl⟩
          rw [hd] at hb2
          have hm1 : m ≤ hi + 100 * (l + x + 20) := by rw [HM.out]; omega
          have HM' : Hid (m + d = hi + dSwi (ts.take (j + 1)) l x) := by show _ = _; rw [HTu.out, hd, HM.out]; omega
          have i2 : (j : Int) < (n : Int) := by omega
          cases hcu : u.cr
          · have HD : Hid (dmd u l false = d) := by show _ = _; rw [← hd]; unfold dmS; rw [hcu]; rfl
            clear hd hu HTu hb1
            obtain ⟨lo', hi', du', ev', cr'⟩ := u
            obtain ⟨g0, g1, g2, g3, g4⟩ := C3
            dsimp only at g0 g1 g2 g3 g4 hcu
            subst hcu
            go_wp2_with (go_at_call 164; refine (sDemand_is _ lo' hi' du' ev' false l false d HVu.out (by omega) HD.out).mono ?_; rintro e w2 ⟨rfl, rfl⟩)
            go_roundw
            case rel => exact ⟨j + 1, m + d, by omega, by go_num, by go_num, HM', bl_alloc HB3.out _⟩
            case measure => simp [intOf]; omega
          · have HD : Hid (dmd u x true = d) := by show _ = _; rw [← hd]; unfold dmS; rw [hcu]; rfl
            clear hd hu HTu hb1
            obtain ⟨lo', hi', du', ev', cr'⟩ := u
            obtain ⟨g0, g1, g2, g3, g4⟩ := C3
            dsimp only at g0 g1 g2 g3 g4 hcu
            subst hcu
            go_wp2_with (go_at_call 164; refine (sDemand_is _ lo' hi' du' ev' true x true d HVu.out (by omega) HD.out).mono ?_; rintro e w2 ⟨rfl, rfl⟩)
            go_roundw
            case rel => exact ⟨j + 1, m + d, by omega, by go_num, by go_num, HM', bl_alloc HB3.out _⟩
            case measure => simp [intOf]; omega
        · obtain rfl : j = k := by omega
          have hmb : m ≤ hi + 100 * (l + x + 20) := by have := dSwi_bound HS.out l x; rw [HM.out]; omega
          by_cases he : m = x
          · have hei : (m : Int) = (x : Int) := by omega
            obtain ⟨rfl, rfl⟩ : x = v ∧ true = b := Prod.mk.inj (by rw [← HV'.out, least_hit HN.out hxd (HM.out.symm.trans he)]; rfl)
            go_wp2
            go_ret2
            exact ⟨rfl, HB3.out⟩
          · have hei : ¬ (m : Int) = (x : Int) := by omega
            have hnx := none_step (swi_mono (ts.take j) l hi) (fun y _ => Nat.le_add_right hi (dSwi (ts.take j) l y)) HN.out
            have hlt := none_le (swi_mono (ts.take j) l hi) (fun y _ => Nat.le_add_right hi (dSwi (ts.take j) l y)) HN.out
            have hnm : Hid (NoneBelow (fun y => hi + dSwi (ts.take j) l y) hi m) := by show NoneBelow _ _ _; rw [HM.out]; exact hnx
            have hlm : x ≤ m := by rw [HM.out]; exact hlt
            clear hnx hlt
            go_wp2
            go_roundw
            case rel => exact ⟨m, rfl, by omega, hnm, HB3.out⟩
            case measure => simp [intOf]; omega
    · have hxd' : ¬ (x : Int) ≤ (du : Int) := by omega
      obtain ⟨rfl, rfl⟩ : 0 = v ∧ false = b := Prod.mk.inj (by rw [← HV'.out, least_past HN.out (by omega)]; rfl)
      go_wp2
      go_ret2
      exact ⟨rfl, HB.out⟩
end
section
open Go.RowKit
set_option linter.unusedVariables false
def BoRes (b : Bool) (w : World) (e : Ending) (w' : World) : Prop := e = .returned (.bool b) ∧ Below w.heap.size w w'
theorem res_some (o : Option Nat) : resN o = (o.getD 0, o.isSome) := rfl
set_option maxHeartbeats 1000000 in
theorem iHoldsAt_is (w : World) (A : Option Addr) (n c : Nat) (ts : List Tk) (k : Nat) (h : Tks w w.heap.size A n ts) (hn : n ≤ 1048576) (hnc : n ≤ c) (hk : k < n) (b : Bool) (hv : bothAt ts k = b) :
    Calls Tryz.prog 109 #[.slice A n c, .int .i64 (k : Int)] w (BoRes b w) := by
  have H := Lib.hid h
  obtain ⟨t, ht⟩ := get_at h.len hk
  obtain ⟨bb, o, rfl, hbl, _⟩ := h.at_ k _ ht
  have C1 := (Tks.get h ht).2.c4
  clear h
  have i1 : (k : Int) < (n : Int) := by omega
  cases hc : t.cr
  · rw [both_no ht hc] at hv
    rw [hc] at C1
    obtain ⟨v, hvv⟩ : ∃ v, resN (atI (rLow ts) (k : Int)) = (v, b) := ⟨_, by rw [at_nat, res_some, hv]⟩
    have HV := Lib.hid hvv
    clear hv hvv ht
    go_enter Tryz.func109, Tryz.ntmps109
    go_wp2_with (go_at_call 20; refine (iRLow_is _ _ n c ts (k : Int) H.out hn hnc v b HV.out).mono ?_; rintro e w1 ⟨rfl, hb⟩)
    go_ret
    exact ⟨rfl, hb⟩
  · rw [both_cr ht hc] at hv
    rw [hc] at C1
    obtain ⟨v, hvv⟩ : ∃ v, resN (atI (rSwi ts) (k : Int)) = (v, b) := ⟨_, by rw [at_nat, res_some, hv]⟩
    have HV := Lib.hid hvv
    clear hv hvv ht
    go_enter Tryz.func109, Tryz.ntmps109
    go_wp2_with (go_at_call 23; refine (iRSwi_is _ _ n c ts (k : Int) H.out hn hnc v b HV.out).mono ?_; rintro e w1 ⟨rfl, hb⟩)
    go_ret
    exact ⟨rfl, hb⟩
set_option maxHeartbeats 1000000 in
theorem sLowAt_is (w : World) (A : Option Addr) (n c : Nat) (ts : List Tk) (k : Nat) (h : Tks w w.heap.size A n ts) (hn : n ≤ 1048576) (b : Bool) (hv : (rLow ts k).isSome = b) :
    Calls Tryz.prog 149 #[.slice A n c, .int .i64 (k : Int)] w (BoRes b w) := by
  have H := Lib.hid h
  clear h
  obtain ⟨v, hvv⟩ : ∃ v, resN (atI (rLow ts) (k : Int)) = (v, b) := ⟨_, by rw [at_nat, res_some, hv]⟩
  have HV := Lib.hid hvv
  clear hv hvv
  go_enter Tryz.func149, Tryz.ntmps149
  go_wp2_with (go_at_call 163; refine (sRLow_is _ A n c ts (k : Int) H.out hn v b HV.out).mono ?_; rintro e w1 ⟨rfl, hb⟩)
  go_ret
  exact ⟨rfl, hb⟩
set_option maxHeartbeats 1000000 in
theorem sBothAt_is (w : World) (A : Option Addr) (n c : Nat) (ts : List Tk) (k : Nat) (h : Tks w w.heap.size A n ts) (hn : n ≤ 1048576) (hk : k < n) (b : Bool) (hv : bothAt ts k = b) :
    Calls Tryz.prog 116 #[.slice A n c, .int .i64 (k : Int)] w (BoRes b w) := by
  have H := Lib.hid h
  obtain ⟨t, ht⟩ := get_at h.len hk
  obtain ⟨bb, o, rfl, hbl, _⟩ := h.at_ k _ ht
  have C1 := (Tks.get h ht).2.c4
  clear h
  have i1 : (k : Int) < (n : Int) := by omega
  cases hc : t.cr
  · rw [both_no ht hc] at hv
    rw [hc] at C1
    have HV := Lib.hid hv
    clear hv ht
    go_enter Tryz.func116, Tryz.ntmps116
    go_wp2_with (go_at_call 149; refine (sLowAt_is _ _ n c ts k H.out hn b HV.out).mono ?_; rintro e w1 ⟨rfl, hb⟩)
    go_ret
    exact ⟨rfl, hb⟩
  · rw [both_cr ht hc] at hv
    rw [hc] at C1
    obtain ⟨v, hvv⟩ : ∃ v, resN (atI (rSwi ts) (k : Int)) = (v, b) := ⟨_, by rw [at_nat, res_some, hv]⟩
    have HV := Lib.hid hvv
    clear hv hvv ht
    go_enter Tryz.func116, Tryz.ntmps116
    go_wp2_with (go_at_call 150; refine (sRSwi_is _ _ n c ts (k : Int) H.out hn v b HV.out).mono ?_; rintro e w1 ⟨rfl, hb⟩)
    go_ret
    exact ⟨rfl, hb⟩
set_option maxHeartbeats 2000000 in
theorem iFBad_is (w : World) (A : Option Addr) (n c : Nat) (ts : List Tk) (h : Tks w w.heap.size A n ts) (hn : n ≤ 1048576) (hnc : n ≤ c) (v : Nat) (b : Bool) (hv : resN (fBad ts) = (v, b)) :
    Calls Tryz.prog 67 #[.slice A n c] w (NbRes v b w) := by
  have H := Lib.hid h
  have HL := Lib.hid h.len
  clear h
  cases hs : setB ts
  · obtain ⟨rfl, rfl⟩ : 0 = v ∧ false = b := Prod.mk.inj (by rw [← hv, fBad_bad hs]; rfl)
    clear hv
    go_enter Tryz.func67, Tryz.ntmps67
    go_wp2_with (go_at_call 53; refine (iSetValid_any _ A n c ts H.out hn).mono ?_; rintro e w1 ⟨rfl, hb⟩)
    go_ret2
    exact ⟨rfl, hb⟩
  have HS := Lib.hid hs
  have HV := Lib.hid hv
  clear hs hv
  go_enter Tryz.func67, Tryz.ntmps67
  go_wp2_with fail
  refine (iSetValid_any _ A n c ts H.out hn).mono ?_
  rintro e w1 ⟨rfl, hb⟩
  rw [HS.out]
  have HB1 := Lib.hid hb
  clear hb
  go_wp2
  go_loopw [10] (fun i wr => ∃ k : Nat, k ≤ n ∧ i = .int .i64 k ∧ Hid (∀ j, j < k → bothAt ts j = true) ∧ Below w.heap.size w wr) (fun i _ => n - (intOf i).toNat)
  case atStart => exact ⟨0, Nat.zero_le _, rfl, (show ∀ j, j < 0 → _ from fun j hj => absurd hj (Nat.not_lt_zero _)), HB1.out⟩
  case round =>
    obtain ⟨k, hk, rfl, HA, hb⟩ := hrel
    have HB := Lib.hid hb
    clear hb
    by_cases hlt : k < n
    · have hlti : (k : Int) < (n : Int) := by omega
      have hkl : k < ts.length := by rw [HL.out]; exact hlt
      obtain ⟨p, hp⟩ : ∃ p, bothAt ts k = p := ⟨_, rfl⟩
      have HP := Lib.hid hp
      clear hp
      go_wp2_with fail
      refine (iHoldsAt_is _ A n c ts k ((H.out.below HB.out).more HB.out.size) hn hnc hlt p HP.out).mono ?_
      rintro e w3 ⟨rfl, hb⟩
      have HB3 := Lib.hid (bl_trans HB.out hb)
      clear hb
      cases p
      · obtain ⟨rfl, rfl⟩ : k = v ∧ true = b := Prod.mk.inj (by rw [← HV.out, fBad_some HS.out hkl HP.out HA.out]; rfl)
        go_wp2
        go_ret2
        exact ⟨rfl, HB3.out⟩
      · have HA' : Hid (∀ j, j < k + 1 → bothAt ts j = true) := by
          show ∀ j, j < k + 1 → _
          intro j hj
          rcases Nat.lt_or_ge j k with h | h
          · exact HA.out j h
          · obtain rfl : j = k := by omega
            exact HP.out
        go_wp2
        go_roundw
        case rel => exact ⟨k + 1, by omega, by go_num, HA', HB3.out⟩
        case measure => simp [intOf]; omega
    · obtain rfl : k = n := by omega
      obtain ⟨rfl, rfl⟩ : 0 = v ∧ false = b := Prod.mk.inj (by rw [← HV.out, fBad_none HS.out (fun j hj => HA.out j (by rw [← HL.out]; exact hj))]; rfl)
      go_wp2
      go_ret2
      exact ⟨rfl, HB.out⟩
set_option maxHeartbeats 2000000 in
theorem sHBoth_is (w : World) (A : Option Addr) (n c : Nat) (ts : List Tk) (h : Tks w w.heap.size A n ts) (hn : n ≤ 1048576) (b : Bool) (hv : hBoth ts = b) :
    Calls Tryz.prog 74 #[.slice A n c] w (BoRes b w) := by
  have H := Lib.hid h
  have HL := Lib.hid h.len
  clear h
  cases hs : setB ts
  · obtain rfl : false = b := by rw [← hv]; exact (hBoth_bad hs).symm
    clear hv
    by_cases hn0 : n = 0
    · subst hn0
      obtain rfl : ts = [] := List.eq_nil_of_length_eq_zero HL.out
      cases hs
    have hni : (0 : Int) < (n : Int) := by omega
    go_enter Tryz.func74, Tryz.ntmps74
    go_wp2
    refine wp_loop_rounds 1 ?_
    rw [rounds_succ]
    go_wp2_with fail
    refine (sSetValid_any _ A n c ts H.out hn).mono ?_
    rintro e w1 ⟨rfl, hb⟩
    rw [hs]
    have HB1 := Lib.hid hb
    clear hb
    go_wp2_with fail
    refine (sSetValid_any _ A n c ts ((H.out.below HB1.out).more HB1.out.size) hn).mono ?_
    rintro e w2 ⟨rfl, hb⟩
    rw [hs]
    have HB2 := Lib.hid (bl_trans HB1.out hb)
    clear hb
    go_wp2
    go_ret
    exact ⟨rfl, HB2.out⟩
  have HS := Lib.hid hs
  have HV := Lib.hid hv
  clear hs hv
  go_enter Tryz.func74, Tryz.ntmps74
  go_wp2
  go_loopw [3] (fun i wr => ∃ k : Nat, k ≤ n ∧ i = .int .i64 k ∧ Hid (∀ j, j < k → bothAt ts j = true) ∧ Below w.heap.size w wr) (fun i _ => n - (intOf i).toNat)
  case atStart => exact ⟨0, Nat.zero_le _, rfl, (show ∀ j, j < 0 → _ from fun j hj => absurd hj (Nat.not_lt_zero _)), Below.refl _ _⟩
  case round =>
    obtain ⟨k, hk, rfl, HA, hb⟩ := hrel
    have HB := Lib.hid hb
    clear hb
    by_cases hlt : k < n
    · have hlti : (k : Int) < (n : Int) := by omega
      have hkl : k < ts.length := by rw [HL.out]; exact hlt
      go_wp2_with fail
      refine (sSetValid_any _ A n c ts ((H.out.below HB.out).more HB.out.size) hn).mono ?_
      rintro e w2 ⟨rfl, hb⟩
      rw [HS.out]
      have HB2 := Lib.hid (bl_trans HB.out hb)
      clear hb
      obtain ⟨p, hp⟩ : ∃ p, bothAt ts k = p := ⟨_, rfl⟩
      have HP := Lib.hid hp
      clear hp
      go_wp2_with fail
      refine (sBothAt_is _ A n c ts k ((H.out.below HB2.out).more HB2.out.size) hn hlt p HP.out).mono ?_
      rintro e w3 ⟨rfl, hb⟩
      have HB3 := Lib.hid (bl_trans HB2.out hb)
      clear hb
      cases p
      · obtain rfl : false = b := by rw [← HV.out]; exact (hBoth_no hkl HP.out).symm
        go_wp2
        go_ret
        exact ⟨rfl, HB3.out⟩
      · have HA' : Hid (∀ j, j < k + 1 → bothAt ts j = true) := by
          show ∀ j, j < k + 1 → _
          intro j hj
          rcases Nat.lt_or_ge j k with h | h
          · exact HA.out j h
          · obtain rfl : j = k := by omega
            exact HP.out
        go_wp2
        go_roundw
        case rel => exact ⟨k + 1, by omega, by go_num, HA', HB3.out⟩
        case measure => simp [intOf]; omega
    · obtain rfl : k = n := by omega
      obtain rfl : true = b := by rw [← HV.out]; exact (hBoth_iff.2 ⟨HS.out, fun j hj => HA.out j (by rw [← HL.out]; exact hj)⟩).symm
      go_wp2_with fail
      refine (sSetValid_any _ A k c ts ((H.out.below HB.out).more HB.out.size) hn).mono ?_
      rintro e w2 ⟨rfl, hb⟩
      rw [HS.out]
      have HB2 := Lib.hid (bl_trans HB.out hb)
      clear hb
      go_wp2
      go_ret
      exact ⟨rfl, HB2.out⟩
set_option maxHeartbeats 1000000 in
theorem iHBoth_is (w : World) (A : Option Addr) (n c : Nat) (ts : List Tk) (h : Tks w w.heap.size A n ts) (hn : n ≤ 1048576) (hnc : n ≤ c) (b : Bool) (hv : hBoth ts = b) :
    Calls Tryz.prog 22 #[.slice A n c] w (BoRes b w) := by
  have H := Lib.hid h
  clear h
  obtain ⟨v, bad, hx⟩ : ∃ v bad, resN (fBad ts) = (v, bad) := ⟨_, _, rfl⟩
  have HX := Lib.hid hx
  have hbx : b = (setB ts && !bad) := by
    rw [← hv]
    cases hs : setB ts
    · rw [hBoth_bad hs]; rfl
    · rw [hBoth_fBad hs, ← (Prod.mk.inj hx).2]
      cases fBad ts <;> rfl
  clear hv hx
  go_enter Tryz.func22, Tryz.ntmps22
  go_wp2_with fail
  refine (iFBad_is _ A n c ts H.out hn hnc v bad HX.out).mono ?_
  rintro e w1 ⟨rfl, hb⟩
  have HB1 := Lib.hid hb
  have HBX := Lib.hid hbx
  clear hb hbx
  go_wp2_with fail
  refine (iSetValid_any _ A n c ts ((H.out.below HB1.out).more HB1.out.size) hn).mono ?_
  rintro e w2 ⟨rfl, hb⟩
  have HB2 := Lib.hid (bl_trans HB1.out hb)
  clear hb
  cases hs : setB ts
  · obtain rfl : b = false := by rw [HBX.out, hs]; rfl
    go_wp2
    go_ret
    exact ⟨rfl, HB2.out⟩
  · cases bad
    · obtain rfl : b = true := by rw [HBX.out, hs]; rfl
      go_wp2
      go_ret
      exact ⟨rfl, HB2.out⟩
    · obtain rfl : b = false := by rw [HBX.out, hs]; rfl
      go_wp2
      go_ret
      exact ⟨rfl, HB2.out⟩
end
section
open Go.RowKit
set_option linter.unusedVariables false
def jb0 : Jb := ⟨0, 0, 0⟩
def jobOf (js : List Jb) (k : Nat) : Jb := js.getD k jb0
def tkJ (ts : List Tk) (js : List Jb) (k : Nat) : Tk := tkOf ts (jobOf js k).ta
/-- The state between two ticks: when each job ended, which task ran, the switches, whether needs are high, the jobs that are left with the ticks that are done, how many came. -/
structure Mc where
  en : List Int
  tr : List Int
  sw : List Int
  hi : Bool
  wk : List (Nat × Int)
  nx : Nat
/-- By which order jobs run: by places or by deadlines, with a factor. -/
structure Po where
  due : Bool
  xn : Int
  xd : Int
def keyJ (ts : List Tk) (p : Po) (hi : Bool) (j : Jb) : Int :=
  if (tkOf ts j.ta).cr && !hi then j.tm * p.xd + p.xn * (tkOf ts j.ta).du else (j.tm + (tkOf ts j.ta).du) * p.xd
def placeB (a b : Jb) : Bool := decide (a.ta < b.ta) || (decide (a.ta = b.ta) && decide (a.tm < b.tm))
def firstB (ts : List Tk) (p : Po) (hi : Bool) (a b : Jb) : Bool :=
  if p.due then decide (keyJ ts p hi a < keyJ ts p hi b) || (decide (keyJ ts p hi a = keyJ ts p hi b) && placeB a b) else placeB a b
/-- The best of the first ones, by place in the list: that of 0 .. i. -/
def bestTo (lt : Nat → Nat → Bool) (ks : List Nat) : Nat → Nat
  | 0 => 0
  | i + 1 => if lt (ks.getD (i + 1) 0) (ks.getD (bestTo lt ks i) 0) then i + 1 else bestTo lt ks i
def oneM (ts : List Tk) (js : List Jb) (s : Mc) : Mc :=
  if s.hi && !(tkJ ts js s.nx).cr then { s with en := s.en.set s.nx (-2), nx := s.nx + 1 } else { s with wk := s.wk ++ [(s.nx, 0)], nx := s.nx + 1 }
def comeM (ts : List Tk) (js : List Jb) (now : Int) : Nat → Mc → Mc
  | 0, s => s
  | f + 1, s => if (jobOf js s.nx).tm = now then comeM ts js now f (oneM ts js s) else s
def dropE (ts : List Tk) (js : List Jb) (en : List Int) (wk : List (Nat × Int)) : List Int :=
  wk.foldl (fun e p => if (tkJ ts js p.1).cr then e else e.set p.1 (-2)) en
def swM (ts : List Tk) (js : List Jb) (now : Int) (s : Mc) : Mc :=
  { s with en := dropE ts js s.en s.wk, wk := s.wk.filter (fun p => (tkJ ts js p.1).cr), hi := true, sw := s.sw ++ [now] }
def lowM (s : Mc) : Mc := { s with hi := s.hi && !s.wk.isEmpty }
def openM (ts : List Tk) (js : List Jb) (now : Int) (s : Mc) : Mc := comeM ts js now (js.length - s.nx) (lowM s)
def ltM (ts : List Tk) (js : List Jb) (p : Po) (hi : Bool) (a b : Nat) : Bool := firstB ts p hi (jobOf js a) (jobOf js b)
def bestM (ts : List Tk) (js : List Jb) (p : Po) (s : Mc) : Nat := bestTo (ltM ts js p s.hi) (s.wk.map Prod.fst) (s.wk.length - 1)
def closeM (ts : List Tk) (js : List Jb) (now : Int) (b k : Nat) (d : Int) (s : Mc) : Mc :=
  if d + 1 = (jobOf js k).ne then { s with tr := s.tr ++ [(jobOf js k).ta], en := s.en.set k (now + 1), wk := s.wk.eraseIdx b }
  else if !s.hi && ((tkJ ts js k).cr && decide (d + 1 = (tkJ ts js k).lo)) then swM ts js (now + 1) { s with tr := s.tr ++ [(jobOf js k).ta], wk := s.wk.set b (k, d + 1) }
  else { s with tr := s.tr ++ [(jobOf js k).ta], wk := s.wk.set b (k, d + 1) }
def tickM (ts : List Tk) (js : List Jb) (p : Po) (now : Int) (s : Mc) : Mc :=
  match (openM ts js now s).wk[bestM ts js p (openM ts js now s)]? with
  | none => { openM ts js now s with tr := (openM ts js now s).tr ++ [-1] }
  | some (k, d) => closeM ts js now (bestM ts js p (openM ts js now s)) k d (openM ts js now s)
def initM (js : List Jb) : Mc := ⟨List.replicate js.length (-1), [], [], false, [], 0⟩
def runM (ts : List Tk) (js : List Jb) (p : Po) : Nat → Mc
  | 0 => initM js
  | n + 1 => tickM ts js p (n : Int) (runM ts js p n)
theorem job_of {js : List Jb} {k : Nat} {j : Jb} (h : js[k]? = some j) : jobOf js k = j := by unfold jobOf; simp [List.getD, h]
theorem job_get {js : List Jb} {k : Nat} (h : k < js.length) : js[k]? = some (jobOf js k) := by
  rw [List.getElem?_eq_getElem h, job_of (List.getElem?_eq_getElem h)]
theorem placeB_iff {a b : Jb} : placeB a b = true ↔ a.ta < b.ta ∨ (a.ta = b.ta ∧ a.tm < b.tm) := by unfold placeB; simp
theorem firstB_due {ts : List Tk} {p : Po} {hi : Bool} {a b : Jb} (h : p.due = true) : firstB ts p hi a b = true ↔ keyJ ts p hi a < keyJ ts p hi b ∨ (keyJ ts p hi a = keyJ ts p hi b ∧ (a.ta < b.ta ∨ (a.ta = b.ta ∧ a.tm < b.tm))) := by
  unfold firstB; rw [h, if_pos rfl]; simp [placeB_iff]
theorem firstB_place {ts : List Tk} {p : Po} {hi : Bool} {a b : Jb} (h : p.due = false) : firstB ts p hi a b = true ↔ a.ta < b.ta ∨ (a.ta = b.ta ∧ a.tm < b.tm) := by
  unfold firstB; rw [h]; simp [placeB_iff]
theorem first_trans {ts : List Tk} {p : Po} {hi : Bool} {a b c : Jb} (h1 : firstB ts p hi a b = true) (h2 : firstB ts p hi b c = true) : firstB ts p hi a c = true := by
  cases hd : p.due
  · rw [firstB_place hd] at *; omega
  · rw [firstB_due hd] at *; omega
theorem first_self {ts : List Tk} {p : Po} {hi : Bool} (a : Jb) : firstB ts p hi a a = false := by
  cases h : firstB ts p hi a a
  · rfl
  · cases hd : p.due
    · rw [firstB_place hd] at h; omega
    · rw [firstB_due hd] at h; omega
theorem best_le (lt : Nat → Nat → Bool) (ks : List Nat) : ∀ i, bestTo lt ks i ≤ i
  | 0 => Nat.le_refl _
  | i + 1 => by
    unfold bestTo
    split
    · exact Nat.le_refl _
    · exact Nat.le_succ_of_le (best_le lt ks i)
theorem best_min {lt : Nat → Nat → Bool} (ht : ∀ a b c, lt a b = true → lt b c = true → lt a c = true) (hs : ∀ a, lt a a = false) (ks : List Nat) : ∀ i j, j ≤ i → lt (ks.getD j 0) (ks.getD (bestTo lt ks i) 0) = false
  | 0, j, h => by
    obtain rfl : j = 0 := by omega
    exact hs _
  | i + 1, j, h => by
    unfold bestTo
    by_cases hl : lt (ks.getD (i + 1) 0) (ks.getD (bestTo lt ks i) 0) = true
    · rw [if_pos hl]
      by_cases hj : j = i + 1
      · rw [hj]; exact hs _
      · have := best_min ht hs ks i j (by omega)
        cases hx : lt (ks.getD j 0) (ks.getD (i + 1) 0)
        · rfl
        · rw [ht _ _ _ hx hl] at this; cases this
    · rw [if_neg hl]
      by_cases hj : j = i + 1
      · rw [hj]; simpa using hl
      · exact best_min ht hs ks i j (by omega)
end
section
open Go.RowKit
set_option linter.unusedVariables false
theorem mem_set_iff' {α : Type} {l : List α} {b : Nat} {v q : α} (hb : b < l.length) : q ∈ l.set b v ↔ q = v ∨ ∃ i, i ≠ b ∧ l[i]? = some q := by
  constructor
  · intro h
    obtain ⟨i, hi⟩ := List.mem_iff_getElem?.1 h
    rw [List.getElem?_set] at hi
    by_cases e : b = i
    · rw [if_pos e, if_pos (by omega)] at hi
      exact .inl (Option.some.inj hi).symm
    · rw [if_neg e] at hi
      exact .inr ⟨i, fun e' => e e'.symm, hi⟩
  · rintro (rfl | ⟨i, h1, h2⟩)
    · exact List.mem_iff_getElem?.2 ⟨b, by rw [List.getElem?_set, if_pos rfl, if_pos hb]⟩
    · exact List.mem_iff_getElem?.2 ⟨i, by rw [List.getElem?_set, if_neg (fun e => h1 e.symm)]; exact h2⟩
theorem mem_erase_iff' {α : Type} {l : List α} {b : Nat} {q : α} : q ∈ l.eraseIdx b ↔ ∃ i, i ≠ b ∧ l[i]? = some q := by
  rw [List.mem_eraseIdx_iff_getElem?]
theorem srt_inj {l : List (Nat × Int)} (h : (l.map Prod.fst).Pairwise (· < ·)) {i j : Nat} {q r : Nat × Int} (hi : l[i]? = some q) (hj : l[j]? = some r) (hn : i ≠ j) : q.1 ≠ r.1 := by
  have hi' : (l.map Prod.fst)[i]? = some q.1 := by rw [List.getElem?_map, hi]; rfl
  have hj' : (l.map Prod.fst)[j]? = some r.1 := by rw [List.getElem?_map, hj]; rfl
  obtain ⟨i1, i2⟩ := List.getElem?_eq_some_iff.1 hi'
  obtain ⟨j1, j2⟩ := List.getElem?_eq_some_iff.1 hj'
  have := List.pairwise_iff_getElem.1 h
  rcases Nat.lt_or_gt_of_ne hn with hlt | hlt
  · have := this i j i1 j1 hlt; omega
  · have := this j i j1 i1 hlt; omega
/-- What holds of a state at time n; g k: the ticks that job k has done. -/
structure InvM (ts : List Tk) (js : List Jb) (n : Int) (g : Nat → Int) (s : Mc) : Prop where
  nx : s.nx ≤ js.length
  enl : s.en.length = js.length
  srt : (s.wk.map Prod.fst).Pairwise (· < ·)
  wk : ∀ q, q ∈ s.wk → q.1 < s.nx ∧ s.en[q.1]? = some (-1) ∧ q.2 = g q.1 ∧ g q.1 < (jobOf js q.1).ne
  left : ∀ k, k < s.nx → s.en[k]? = some (-1) → ∃ q, q ∈ s.wk ∧ q.1 = k
  new : ∀ k, s.nx ≤ k → g k = 0 ∧ (k < js.length → s.en[k]? = some (-1))
  crit : s.hi = true → ∀ q, q ∈ s.wk → (tkJ ts js q.1).cr = true
  hisw : s.hi = true → s.sw ≠ []
  low : s.hi = false → ∀ q, q ∈ s.wk → g q.1 < (tkJ ts js q.1).lo
  pos : ∀ k, 0 ≤ g k
  age : ∀ k, k < s.nx → (jobOf js k).tm + g k ≤ n
  val : ∀ k e, s.en[k]? = some e → e = -1 ∨ (e = -2 ∧ (tkJ ts js k).cr = false ∧ s.sw ≠ [] ∧ k < s.nx ∧ g k < (jobOf js k).ne) ∨ (g k = (jobOf js k).ne ∧ (jobOf js k).tm + (jobOf js k).ne ≤ e ∧ e ≤ n ∧ k < s.nx)
  swb : ∀ t, t ∈ s.sw → 1 ≤ t ∧ t ≤ n
  sws : s.sw.Pairwise (· < ·)
section
variable {ts : List Tk} {js : List Jb} {n : Int} {g : Nat → Int} {s : Mc}
theorem job_ok (hv : jobsB ts js = true) {k : Nat} (hk : k < js.length) : 1 ≤ (jobOf js k).ne ∧ 0 ≤ (jobOf js k).tm ∧ (jobOf js k).tm ≤ 200 ∧ 0 ≤ (jobOf js k).ta ∧ (jobOf js k).ta < ts.length ∧ (jobOf js k).ne ≤ (tkJ ts js k).hi ∧ tkJ ts js k ∈ ts ∧ (tkJ ts js k).ok = true := by
  unfold jobsB at hv
  simp only [Bool.and_eq_true] at hv
  obtain ⟨hs, _, ha, _⟩ := hv
  have hm := List.mem_of_getElem? (job_get hk)
  obtain ⟨b1, b2, b3, b4, b5, b6⟩ := jobB_iff.1 (List.all_eq_true.1 ha _ hm)
  obtain ⟨t, _, e, h1, h2⟩ := ev_of hs b1 b2
  refine ⟨b5, b3, b4, b1, b2, b6, ?_, ?_⟩
  · unfold tkJ; rw [e]; exact h1
  · unfold tkJ; rw [e]; exact h2
theorem tk_nums {t : Tk} (h : t.ok = true) : 1 ≤ t.lo ∧ t.lo ≤ t.hi ∧ t.hi ≤ t.du ∧ t.du ≤ t.ev ∧ t.ev ≤ 20 ∧ (t.cr = false → t.lo = t.hi) := by
  unfold Tk.ok validB at h
  simp at h
  refine ⟨h.1, h.2.1, h.2.2.1, h.2.2.2.1, h.2.2.2.2.1, fun hc => ?_⟩
  rcases h.2.2.2.2.2 with h | h
  · rw [hc] at h; cases h
  · exact h
theorem init_inv (js : List Jb) (ts : List Tk) : InvM ts js 0 (fun _ => 0) (initM js) where
  nx := Nat.zero_le _
  enl := List.length_replicate
  srt := List.Pairwise.nil
  wk := fun q h => by cases h
  left := fun k h => absurd h (Nat.not_lt_zero _)
  new := fun k _ => ⟨rfl, fun hk => by simp [initM, hk]⟩
  crit := fun h => by cases h
  hisw := fun h => by cases h
  low := fun _ q h => by cases h
  pos := fun _ => Int.le_refl _
  age := fun k h => absurd h (Nat.not_lt_zero _)
  val := fun k e h => by
    simp only [initM, List.getElem?_replicate] at h
    split at h
    · exact .inl (Option.some.inj h).symm
    · cases h
  swb := fun t h => by cases h
  sws := List.Pairwise.nil
theorem low_inv (h : InvM ts js n g s) : InvM ts js n g (lowM s) := by
  refine ⟨h.nx, h.enl, h.srt, h.wk, h.left, h.new, fun hh => h.crit ?_, fun hh => h.hisw ?_, fun hh q hq => ?_, h.pos, h.age, h.val, h.swb, h.sws⟩
  · simp [lowM] at hh; exact hh.1
  · simp [lowM] at hh; exact hh.1
  · simp [lowM] at hh
    rcases hs : s.hi with _ | _
    · exact h.low hs q hq
    · have hq' : q ∈ s.wk := hq
      rw [hh hs] at hq'; cases hq'
theorem one_inv (hv : jobsB ts js = true) (h : InvM ts js n g s) (hn : s.nx < js.length) (ht : (jobOf js s.nx).tm = n) : InvM ts js n g (oneM ts js s) := by
  obtain ⟨a1, a2, a3, a4, a5, a6, a7, a8⟩ := job_ok hv hn
  have hg := (h.new s.nx (Nat.le_refl _)).1
  have hlo := tk_nums a8
  unfold oneM
  by_cases hc : (s.hi && !(tkJ ts js s.nx).cr) = true
  · rw [if_pos hc]
    simp at hc
    have hen : ∀ k, k ≠ s.nx → (s.en.set s.nx (-2))[k]? = s.en[k]? := fun k hk => by rw [List.getElem?_set, if_neg (fun e => hk e.symm)]
    have hen2 : (s.en.set s.nx (-2))[s.nx]? = some (-2) := by rw [List.getElem?_set, if_pos rfl, if_pos (by rw [h.enl]; exact hn)]
    refine ⟨hn, by simp [h.enl], h.srt, fun q hq => ?_, fun k hk he => ?_, fun k hk => ?_, h.crit, h.hisw, h.low, h.pos, fun k hk => ?_, fun k e he => ?_, h.swb, h.sws⟩
    · obtain ⟨b1, b2, b3, b4⟩ := h.wk q hq
      exact ⟨Nat.lt_succ_of_lt b1, (hen _ (Nat.ne_of_lt b1)).trans b2, b3, b4⟩
    · by_cases e : k = s.nx
      · subst e; rw [hen2] at he; cases he
      · exact h.left k (by simp at hk; omega) ((hen k e).symm.trans he)
    · simp at hk
      refine ⟨(h.new k (by omega)).1, fun hl => (hen k (by omega)).trans ((h.new k (by omega)).2 hl)⟩
    · by_cases e : k = s.nx
      · subst e; rw [hg]; omega
      · exact h.age k (by simp at hk; omega)
    · by_cases e' : k = s.nx
      · subst e'
        simp only [hen2] at he
        obtain rfl := Option.some.inj he
        exact .inr (.inl ⟨rfl, hc.2, h.hisw hc.1, Nat.lt_succ_self _, by omega⟩)
      · rcases h.val k e ((hen k e').symm.trans he) with b | ⟨b1, b2, b3, b4, b5⟩ | ⟨b1, b2, b3, b4⟩
        · exact .inl b
        · exact .inr (.inl ⟨b1, b2, b3, Nat.lt_succ_of_lt b4, b5⟩)
        · exact .inr (.inr ⟨b1, b2, b3, Nat.lt_succ_of_lt b4⟩)
  · rw [if_neg hc]
    have hc' : s.hi = true → (tkJ ts js s.nx).cr = true := by simpa using hc
    have hmem : ∀ q, q ∈ s.wk ++ [(s.nx, (0 : Int))] → q ∈ s.wk ∨ q = (s.nx, 0) := fun q hq => by simpa using hq
    refine ⟨hn, h.enl, ?_, fun q hq => ?_, fun k hk he => ?_, fun k hk => ?_, fun hh q hq => ?_, h.hisw, fun hh q hq => ?_, h.pos, fun k hk => ?_, fun k e he => ?_, h.swb, h.sws⟩
    · rw [List.map_append, List.pairwise_append]
      refine ⟨h.srt, by simp, fun a ha b hb => ?_⟩
      obtain ⟨q, hq, rfl⟩ := List.mem_map.1 ha
      obtain rfl : b = s.nx := by simpa using hb
      exact (h.wk q hq).1
    · rcases hmem q hq with hq | rfl
      · obtain ⟨b1, b2, b3, b4⟩ := h.wk q hq
        exact ⟨Nat.lt_succ_of_lt b1, b2, b3, b4⟩
      · exact ⟨Nat.lt_succ_self _, (h.new _ (Nat.le_refl _)).2 hn, hg.symm, by show g s.nx < (jobOf js s.nx).ne; omega⟩
    · by_cases e : k = s.nx
      · exact ⟨(s.nx, 0), by simp, e.symm⟩
      · obtain ⟨q, hq, hk'⟩ := h.left k (by simp at hk; omega) he
        exact ⟨q, by simp [hq], hk'⟩
    · simp at hk
      exact h.new k (by omega)
    · rcases hmem q hq with hq | rfl
      · exact h.crit hh q hq
      · exact hc' hh
    · rcases hmem q hq with hq | rfl
      · exact h.low hh q hq
      · show g s.nx < (tkJ ts js s.nx).lo; omega
    · by_cases e : k = s.nx
      · subst e; rw [hg]; omega
      · exact h.age k (by simp at hk; omega)
    · rcases h.val k e he with b | ⟨b1, b2, b3, b4, b5⟩ | ⟨b1, b2, b3, b4⟩
      · exact .inl b
      · exact .inr (.inl ⟨b1, b2, b3, Nat.lt_succ_of_lt b4, b5⟩)
      · exact .inr (.inr ⟨b1, b2, b3, Nat.lt_succ_of_lt b4⟩)
/-- What a state is that jobs came to. -/
structure CameM (ts : List Tk) (js : List Jb) (now : Int) (s s' : Mc) : Prop where
  tr : s'.tr = s.tr
  sw : s'.sw = s.sw
  hi : s'.hi = s.hi
  le : s.nx ≤ s'.nx
  add : ∃ l, s'.wk = s.wk ++ l ∧ ∀ q, q ∈ l → s.nx ≤ q.1 ∧ q.1 < s'.nx ∧ (jobOf js q.1).tm = now ∧ q.2 = 0
  old : ∀ k, k < s.nx → s'.en[k]? = s.en[k]?
  mid : ∀ k, s.nx ≤ k → k < s'.nx → (jobOf js k).tm = now ∧ (s'.en[k]? = some (-1) ∨ (s'.en[k]? = some (-2) ∧ s.hi = true ∧ (tkJ ts js k).cr = false))
theorem came_refl (ts : List Tk) (js : List Jb) (now : Int) (s : Mc) : CameM ts js now s s :=
  ⟨rfl, rfl, rfl, Nat.le_refl _, ⟨[], by simp, fun q h => by cases h⟩, fun _ _ => rfl, fun k h1 h2 => by omega⟩
theorem came_one (h : InvM ts js n g s) (hn : s.nx < js.length) (ht : (jobOf js s.nx).tm = n) : CameM ts js n s (oneM ts js s) := by
  unfold oneM
  by_cases hc : (s.hi && !(tkJ ts js s.nx).cr) = true
  · rw [if_pos hc]
    simp at hc
    refine ⟨rfl, rfl, rfl, Nat.le_succ _, ⟨[], by simp, fun q h => by cases h⟩, fun k hk => ?_, fun k h1 h2 => ?_⟩
    · show (s.en.set s.nx (-2))[k]? = _
      rw [List.getElem?_set, if_neg (by omega)]
    · simp at h2
      obtain rfl : k = s.nx := by omega
      exact ⟨ht, .inr ⟨by show (s.en.set s.nx (-2))[s.nx]? = _; rw [List.getElem?_set, if_pos rfl, if_pos (by rw [h.enl]; exact hn)], hc.1, hc.2⟩⟩
  · rw [if_neg hc]
    refine ⟨rfl, rfl, rfl, Nat.le_succ _, ⟨[(s.nx, 0)], rfl, fun q hq => ?_⟩, fun k hk => rfl, fun k h1 h2 => ?_⟩
    · obtain rfl : q = (s.nx, 0) := by simpa using hq
      exact ⟨Nat.le_refl _, Nat.lt_succ_self _, ht, rfl⟩
    · simp at h2
      obtain rfl : k = s.nx := by omega
      exact ⟨ht, .inl ((h.new _ (Nat.le_refl _)).2 hn)⟩
theorem came_trans {now : Int} {a b c : Mc} (h1 : CameM ts js now a b) (h2 : CameM ts js now b c) : CameM ts js now a c := by
  obtain ⟨l1, e1, m1⟩ := h1.add
  obtain ⟨l2, e2, m2⟩ := h2.add
  refine ⟨h2.tr.trans h1.tr, h2.sw.trans h1.sw, h2.hi.trans h1.hi, Nat.le_trans h1.le h2.le, ⟨l1 ++ l2, by rw [e2, e1, List.append_assoc], fun q hq => ?_⟩, fun k hk => (h2.old k (Nat.lt_of_lt_of_le hk h1.le)).trans (h1.old k hk), fun k k1 k2 => ?_⟩
  · rcases List.mem_append.1 hq with hq | hq
    · obtain ⟨x1, x2, x3, x4⟩ := m1 q hq
      exact ⟨x1, Nat.lt_of_lt_of_le x2 h2.le, x3, x4⟩
    · obtain ⟨x1, x2, x3, x4⟩ := m2 q hq
      exact ⟨Nat.le_trans h1.le x1, x2, x3, x4⟩
  · by_cases hb : k < b.nx
    · rw [h2.old k hb]; exact h1.mid k k1 hb
    · have := h2.mid k (by omega) k2
      rw [h1.hi] at this
      exact this
theorem come_inv (hv : jobsB ts js = true) : ∀ (f : Nat) (s : Mc), f = js.length - s.nx → InvM ts js n g s → InvM ts js n g (comeM ts js n f s) ∧ CameM ts js n s (comeM ts js n f s) ∧ ((comeM ts js n f s).nx < js.length → (jobOf js (comeM ts js n f s).nx).tm ≠ n)
  | 0, s, hf, h => ⟨h, came_refl _ _ _ _, fun hl => by simp [comeM] at hl; omega⟩
  | f + 1, s, hf, h => by
    have hn : s.nx < js.length := by omega
    unfold comeM
    by_cases ht : (jobOf js s.nx).tm = n
    · rw [if_pos ht]
      have h1 := one_inv hv h hn ht
      have h2 := came_one h hn ht
      have hx : (oneM ts js s).nx = s.nx + 1 := by unfold oneM; split <;> rfl
      obtain ⟨a, b, c⟩ := come_inv hv f (oneM ts js s) (by rw [hx]; omega) h1
      exact ⟨a, came_trans h2 b, c⟩
    · rw [if_neg ht]
      exact ⟨h, came_refl _ _ _ _, fun _ => ht⟩
theorem open_inv (hv : jobsB ts js = true) (h : InvM ts js n g s) : InvM ts js n g (openM ts js n s) ∧ CameM ts js n (lowM s) (openM ts js n s) ∧ ((openM ts js n s).nx < js.length → (jobOf js (openM ts js n s).nx).tm ≠ n) :=
  come_inv hv _ _ rfl (low_inv h)
theorem drop_get' (ts : List Tk) (js : List Jb) (k : Nat) : ∀ (wk : List (Nat × Int)) (en : List Int), k < en.length → (dropE ts js en wk)[k]? = if (∃ q, q ∈ wk ∧ q.1 = k ∧ (tkJ ts js k).cr = false) then some (-2) else en[k]? := by
  intro wk
  induction wk with
  | nil => intro en hk; simp [dropE]
  | cons a wk ih =>
    intro en hk
    show (dropE ts js (if (tkJ ts js a.1).cr then en else en.set a.1 (-2)) wk)[k]? = _
    rw [ih _ (by split <;> simp [hk])]
    by_cases h1 : ∃ q, q ∈ wk ∧ q.1 = k ∧ (tkJ ts js k).cr = false
    · rw [if_pos h1, if_pos]
      obtain ⟨q, a1, a2⟩ := h1
      exact ⟨q, List.mem_cons_of_mem _ a1, a2⟩
    · rw [if_neg h1]
      by_cases h2 : a.1 = k ∧ (tkJ ts js k).cr = false
      · have e2 : ∃ q, q ∈ a :: wk ∧ q.1 = k ∧ (tkJ ts js k).cr = false := ⟨a, by simp, h2⟩
        rw [if_pos e2]
        obtain ⟨rfl, hc⟩ := h2
        rw [hc]
        simp [hk]
      · have e2 : ¬ ∃ q, q ∈ a :: wk ∧ q.1 = k ∧ (tkJ ts js k).cr = false := by
          rintro ⟨q, hq, h3, h4⟩
          rcases List.mem_cons.1 hq with rfl | hq
          · exact h2 ⟨h3, h4⟩
          · exact h1 ⟨q, hq, h3, h4⟩
        rw [if_neg e2]
        by_cases hc : (tkJ ts js a.1).cr = true
        · rw [if_pos hc]
        · rw [if_neg hc, List.getElem?_set, if_neg]
          rintro rfl
          exact h2 ⟨rfl, by simpa using hc⟩
theorem drop_len (ts : List Tk) (js : List Jb) : ∀ (wk : List (Nat × Int)) (en : List Int), (dropE ts js en wk).length = en.length := by
  intro wk
  induction wk with
  | nil => intro en; rfl
  | cons a wk ih =>
    intro en
    show (dropE ts js (if (tkJ ts js a.1).cr then en else en.set a.1 (-2)) wk).length = _
    rw [ih]; split <;> simp
def upG (g : Nat → Int) (k : Nat) : Nat → Int := fun i => if i = k then g i + 1 else g i
theorem upG_same (g : Nat → Int) (k : Nat) : upG g k k = g k + 1 := by unfold upG; rw [if_pos rfl]
theorem upG_other (g : Nat → Int) {k i : Nat} (h : i ≠ k) : upG g k i = g i := by unfold upG; rw [if_neg h]
theorem upG_le (g : Nat → Int) (k i : Nat) : g i ≤ upG g k i ∧ upG g k i ≤ g i + 1 := by unfold upG; split <;> omega
/-- Nobody runs. -/
theorem idle_inv (h : InvM ts js n g s) (z : Int) : InvM ts js (n + 1) g { s with tr := s.tr ++ [z] } :=
  ⟨h.nx, h.enl, h.srt, h.wk, h.left, h.new, h.crit, h.hisw, h.low, h.pos, fun k hk => by have := h.age k hk; omega, fun k e he => by
    rcases h.val k e he with b | b | ⟨b1, b2, b3, b4⟩
    · exact .inl b
    · exact .inr (.inl b)
    · exact .inr (.inr ⟨b1, b2, by omega, b4⟩), fun t ht => by have := h.swb t ht; omega, h.sws⟩
/-- A job runs: it is one that is left. -/
theorem run_inv (hv : jobsB ts js = true) (h : InvM ts js n g s) (hn : 0 ≤ n) {b k : Nat} {d : Int} (hb : s.wk[b]? = some (k, d)) : InvM ts js (n + 1) (upG g k) (closeM ts js n b k d s) := by
  obtain ⟨hbl, hbe⟩ := List.getElem?_eq_some_iff.1 hb
  obtain ⟨k1, k2, k3, k4⟩ := h.wk (k, d) (List.mem_of_getElem? hb)
  dsimp only at k1 k2 k3 k4
  have kl : k < js.length := Nat.lt_of_lt_of_le k1 h.nx
  obtain ⟨a1, a2, a3, a4, a5, a6, a7, a8⟩ := job_ok hv kl
  have hlo := tk_nums a8
  have hoth : ∀ i q, i ≠ b → s.wk[i]? = some q → q ∈ s.wk ∧ q.1 ≠ k := fun i q hi hq => ⟨List.mem_of_getElem? hq, srt_inj h.srt hq hb hi⟩
  have hage : ∀ i, i < s.nx → (jobOf js i).tm + upG g k i ≤ n + 1 := fun i hi => by have := h.age i hi; have := upG_le g k i; omega
  have hpos : ∀ i, 0 ≤ upG g k i := fun i => by have := h.pos i; have := upG_le g k i; omega
  have hnew : ∀ i, s.nx ≤ i → upG g k i = 0 ∧ (i < js.length → s.en[i]? = some (-1)) := fun i hi => by
    rw [upG_other g (by omega)]; exact h.new i hi
  have hsw : ∀ t, t ∈ s.sw → 1 ≤ t ∧ t ≤ n + 1 := fun t ht => by have := h.swb t ht; omega
  have hval : ∀ i e, i ≠ k → s.en[i]? = some e → e = -1 ∨ (e = -2 ∧ (tkJ ts js i).cr = false ∧ s.sw ≠ [] ∧ i < s.nx ∧ upG g k i < (jobOf js i).ne) ∨ (upG g k i = (jobOf js i).ne ∧ (jobOf js i).tm + (jobOf js i).ne ≤ e ∧ e ≤ n + 1 ∧ i < s.nx) := fun i e hi he => by
    rw [upG_other g hi]
    rcases h.val i e he with b | b | ⟨b1, b2, b3, b4⟩
    · exact .inl b
    · exact .inr (.inl b)
    · exact .inr (.inr ⟨b1, b2, by omega, b4⟩)
  have hset : (s.wk.set b (k, d + 1)).map Prod.fst = s.wk.map Prod.fst := by
    rw [List.map_set]
    apply List.ext_getElem?
    intro i
    rw [List.getElem?_set]
    by_cases e : b = i
    · subst e
      rw [if_pos rfl, List.getElem?_map, hb, if_pos (by simpa using hbl)]
      rfl
    · rw [if_neg e]
  have hwk2 : ∀ q, q ∈ s.wk.set b (k, d + 1) → (q = (k, d + 1)) ∨ (q ∈ s.wk ∧ q.1 ≠ k) := fun q hq => by
    rcases (mem_set_iff' hbl).1 hq with e | ⟨i, i1, i2⟩
    · exact .inl e
    · exact .inr (hoth i q i1 i2)
  have hwk3 : ∀ i, i ≠ k → ∀ q, q ∈ s.wk → q.1 = i → q ∈ s.wk.set b (k, d + 1) := fun i hi q hq hqi => by
    obtain ⟨m, hm⟩ := List.mem_iff_getElem?.1 hq
    refine (mem_set_iff' hbl).2 (.inr ⟨m, ?_, hm⟩)
    rintro rfl
    rw [hb] at hm
    obtain rfl := Option.some.inj hm
    exact hi hqi.symm
  unfold closeM
  by_cases hend : d + 1 = (jobOf js k).ne
  · rw [if_pos hend]
    have hen : ∀ i, i ≠ k → (s.en.set k (n + 1))[i]? = s.en[i]? := fun i hi => by rw [List.getElem?_set, if_neg (fun e => hi e.symm)]
    have hen2 : (s.en.set k (n + 1))[k]? = some (n + 1) := by rw [List.getElem?_set, if_pos rfl, if_pos (by rw [h.enl]; exact kl)]
    have hw : ∀ q, q ∈ s.wk.eraseIdx b → q ∈ s.wk ∧ q.1 ≠ k := fun q hq => by
      obtain ⟨i, i1, i2⟩ := mem_erase_iff'.1 hq
      exact hoth i q i1 i2
    refine ⟨h.nx, by simp [h.enl], h.srt.sublist ((List.eraseIdx_sublist _ _).map _), fun q hq => ?_, fun i hi he => ?_, fun i hi => ?_, fun hh q hq => h.crit hh q (hw q hq).1, h.hisw, fun hh q hq => ?_, hpos, hage, fun i e he => ?_, hsw, h.sws⟩
    · obtain ⟨q1, q2⟩ := hw q hq
      obtain ⟨b1, b2, b3, b4⟩ := h.wk q q1
      rw [upG_other g q2]
      exact ⟨b1, (hen _ q2).trans b2, b3, b4⟩
    · have hik : i ≠ k := by
        rintro rfl
        simp only [hen2] at he
        have := Option.some.inj he
        omega
      obtain ⟨q, hq, rfl⟩ := h.left i hi ((hen i hik).symm.trans he)
      obtain ⟨m, hm⟩ := List.mem_iff_getElem?.1 hq
      refine ⟨q, mem_erase_iff'.2 ⟨m, ?_, hm⟩, rfl⟩
      rintro rfl
      rw [hb] at hm
      obtain rfl := Option.some.inj hm
      exact hik rfl
    · obtain ⟨x1, x2⟩ := hnew i hi
      exact ⟨x1, fun hl => (hen i (by have := h.nx; intro e; subst e; exact absurd k1 (Nat.not_lt.2 hi))).trans (x2 hl)⟩
    · obtain ⟨q1, q2⟩ := hw q hq
      rw [upG_other g q2]
      exact h.low hh q q1
    · by_cases hik : i = k
      · subst hik
        simp only [hen2] at he
        obtain rfl := Option.some.inj he
        refine .inr (.inr ⟨by rw [upG_same]; omega, ?_, Int.le_refl _, k1⟩)
        have := h.age i k1
        omega
      · exact hval i e hik ((hen i hik).symm.trans he)
  · rw [if_neg hend]
    have hgk : upG g k k < (jobOf js k).ne := by rw [upG_same]; omega
    have hwkA : ∀ q, q ∈ s.wk.set b (k, d + 1) → q.1 < s.nx ∧ s.en[q.1]? = some (-1) ∧ q.2 = upG g k q.1 ∧ upG g k q.1 < (jobOf js q.1).ne := fun q hq => by
      rcases hwk2 q hq with rfl | ⟨q1, q2⟩
      · exact ⟨k1, k2, by show d + 1 = upG g k k; rw [upG_same, k3], hgk⟩
      · rw [upG_other g q2]; exact h.wk q q1
    have hleft : ∀ i, i < s.nx → s.en[i]? = some (-1) → ∃ q, q ∈ s.wk.set b (k, d + 1) ∧ q.1 = i := fun i hi he => by
      by_cases hik : i = k
      · exact ⟨(k, d + 1), (mem_set_iff' hbl).2 (.inl rfl), hik.symm⟩
      · obtain ⟨q, hq, e⟩ := h.left i hi he
        exact ⟨q, hwk3 i hik q hq e, e⟩
    have hcr : s.hi = true → ∀ q, q ∈ s.wk.set b (k, d + 1) → (tkJ ts js q.1).cr = true := fun hh q hq => by
      rcases hwk2 q hq with rfl | ⟨q1, q2⟩
      · exact h.crit hh (k, d) (List.mem_of_getElem? hb)
      · exact h.crit hh q q1
    have hvalA : ∀ i e, s.en[i]? = some e → e = -1 ∨ (e = -2 ∧ (tkJ ts js i).cr = false ∧ s.sw ≠ [] ∧ i < s.nx ∧ upG g k i < (jobOf js i).ne) ∨ (upG g k i = (jobOf js i).ne ∧ (jobOf js i).tm + (jobOf js i).ne ≤ e ∧ e ≤ n + 1 ∧ i < s.nx) := fun i e he => by
      by_cases hik : i = k
      · subst hik; rw [k2] at he; exact .inl (Option.some.inj he).symm
      · exact hval i e hik he
    by_cases hsw' : (!s.hi && ((tkJ ts js k).cr && decide (d + 1 = (tkJ ts js k).lo))) = true
    · rw [if_pos hsw']
      have hfil : ∀ q, q ∈ (s.wk.set b (k, d + 1)).filter (fun p => (tkJ ts js p.1).cr) ↔ q ∈ s.wk.set b (k, d + 1) ∧ (tkJ ts js q.1).cr = true := fun q => List.mem_filter
      have hdg : ∀ i, i < js.length → (dropE ts js s.en (s.wk.set b (k, d + 1)))[i]? = if (∃ q, q ∈ s.wk.set b (k, d + 1) ∧ q.1 = i ∧ (tkJ ts js i).cr = false) then some (-2) else s.en[i]? := fun i hi => drop_get' ts js i _ _ (by rw [h.enl]; exact hi)
      refine ⟨h.nx, ?_, ?_, fun q hq => ?_, fun i hi he => ?_, fun i hi => ?_, fun _ q hq => ((hfil q).1 hq).2, fun _ => by simp [swM], fun hh => by simp [swM] at hh, hpos, hage, fun i e he => ?_, fun t ht => ?_, ?_⟩
      · simp [swM, drop_len, h.enl]
      · exact (hset ▸ h.srt : ((s.wk.set b (k, d + 1)).map Prod.fst).Pairwise (· < ·)).sublist (List.filter_sublist.map _)
      · obtain ⟨q1, q2⟩ := (hfil q).1 hq
        obtain ⟨b1, b2, b3, b4⟩ := hwkA q q1
        refine ⟨b1, ?_, b3, b4⟩
        show (dropE ts js s.en (s.wk.set b (k, d + 1)))[q.1]? = _
        rw [hdg _ (Nat.lt_of_lt_of_le b1 h.nx), if_neg]
        · exact b2
        · rintro ⟨_, _, _, hc⟩
          rw [q2] at hc; cases hc
      · have he' : (dropE ts js s.en (s.wk.set b (k, d + 1)))[i]? = some (-1) := he
        rw [hdg i (Nat.lt_of_lt_of_le hi h.nx)] at he'
        split at he'
        · cases he'
        · rename_i hno
          obtain ⟨q, hq, e⟩ := hleft i hi he'
          refine ⟨q, (hfil q).2 ⟨hq, ?_⟩, e⟩
          cases hc : (tkJ ts js q.1).cr
          · exact absurd ⟨q, hq, e, e ▸ hc⟩ hno
          · rfl
      · obtain ⟨x1, x2⟩ := hnew i hi
        refine ⟨x1, fun hl => ?_⟩
        show (dropE ts js s.en (s.wk.set b (k, d + 1)))[i]? = _
        rw [hdg i hl, if_neg]
        · exact x2 hl
        · rintro ⟨q, hq, rfl, _⟩
          have := (hwkA q hq).1
          have hi' : s.nx ≤ q.1 := hi
          omega
      · have he' : (dropE ts js s.en (s.wk.set b (k, d + 1)))[i]? = some e := he
        have hil : i < js.length := by
          rcases Nat.lt_or_ge i js.length with hl | hl
          · exact hl
          · rw [List.getElem?_eq_none (by rw [drop_len, h.enl]; exact hl)] at he'; cases he'
        rw [hdg i hil] at he'
        split at he'
        · rename_i hyes
          obtain ⟨q, hq, rfl, hc⟩ := hyes
          obtain rfl := Option.some.inj he'
          obtain ⟨b1, b2, b3, b4⟩ := hwkA q hq
          exact .inr (.inl ⟨rfl, hc, by simp [swM], b1, b4⟩)
        · rcases hvalA i e he' with b | ⟨b1, b2, b3, b4, b5⟩ | b
          · exact .inl b
          · exact .inr (.inl ⟨b1, b2, by simp [swM], b4, b5⟩)
          · exact .inr (.inr b)
      · rcases List.mem_append.1 (show t ∈ s.sw ++ [n + 1] from ht) with ht | ht
        · exact hsw t ht
        · rw [List.mem_singleton.1 ht]; omega
      · show (s.sw ++ [n + 1]).Pairwise (· < ·)
        rw [List.pairwise_append]
        refine ⟨h.sws, by simp, fun a ha c hc => ?_⟩
        rw [List.mem_singleton.1 hc]
        have := h.swb a ha
        omega
    · rw [if_neg hsw']
      refine ⟨h.nx, h.enl, by rw [hset]; exact h.srt, hwkA, hleft, hnew, hcr, h.hisw, fun hh q hq => ?_, hpos, hage, hvalA, hsw, h.sws⟩
      rcases hwk2 q hq with rfl | ⟨q1, q2⟩
      · show upG g k k < (tkJ ts js k).lo
        have hh' : s.hi = false := hh
        have := h.low hh' (k, d) (List.mem_of_getElem? hb)
        dsimp only at this
        rw [upG_same]
        rw [hh'] at hsw'
        cases hc : (tkJ ts js k).cr
        · have := hlo.2.2.2.2.2 hc
          rw [upG_same] at hgk
          omega
        · rw [hc] at hsw'
          simp at hsw'
          omega
      · rw [upG_other g q2]
        exact h.low hh q q1
end
end
section
open Go.RowKit
set_option linter.unusedVariables false
section
variable (ts : List Tk) (js : List Jb) (p : Po)
/-- The state at a tick when the jobs have come. -/
def openN (n : Nat) : Mc := openM ts js (n : Int) (runM ts js p n)
/-- The job that runs at a tick. -/
def chN (n : Nat) : Option Nat := ((openN ts js p n).wk[bestM ts js p (openN ts js p n)]?).map Prod.fst
/-- How many ticks of a job are done before a tick. -/
def gN : Nat → Nat → Int
  | 0, _ => 0
  | n + 1, k => if chN ts js p n = some k then gN n k + 1 else gN n k
def lft (n k : Nat) : Prop := ∃ q, q ∈ (runM ts js p n).wk ∧ q.1 = k
def opn (n k : Nat) : Prop := ∃ q, q ∈ (openN ts js p n).wk ∧ q.1 = k
def hiN (n : Nat) : Bool := (openN ts js p n).hi
/-- Whether needs become high at the end of a tick. -/
def swN (n : Nat) : Bool := match chN ts js p n with
  | none => false
  | some c => !hiN ts js p n && ((tkJ ts js c).cr && (decide (gN ts js p (n + 1) c = (tkJ ts js c).lo) && !decide (gN ts js p (n + 1) c = (jobOf js c).ne)))
def outN (n : Nat) : Int := match chN ts js p n with
  | none => -1
  | some c => (jobOf js c).ta
end
section
variable {ts : List Tk} {js : List Jb} {p : Po}
theorem tm_mono (hv : jobsB ts js = true) {i j : Nat} (h : i ≤ j) (hj : j < js.length) : (jobOf js i).tm ≤ (jobOf js j).tm := by
  by_cases e : i = j
  · subst e; exact Int.le_refl _
  · unfold jobsB at hv
    simp only [Bool.and_eq_true] at hv
    have hp := pairB_iff.1 hv.2.2.2
    have := List.pairwise_iff_getElem.1 hp i j (by omega) hj (by omega)
    rw [← Option.some.inj ((List.getElem?_eq_getElem (by omega : i < js.length)).symm.trans (job_get (by omega))), ← Option.some.inj ((List.getElem?_eq_getElem hj).symm.trans (job_get hj))]
    have := (farB_iff.1 this).1
    omega
/-- Two jobs of a task come apart. -/
theorem tm_far (hv : jobsB ts js = true) {i j : Nat} (h : i < j) (hj : j < js.length) (ht : (jobOf js i).ta = (jobOf js j).ta) : (jobOf js i).tm + (tkJ ts js j).ev ≤ (jobOf js j).tm := by
  unfold tkJ
  unfold jobsB at hv
  simp only [Bool.and_eq_true] at hv
  have hp := pairB_iff.1 hv.2.2.2
  have := List.pairwise_iff_getElem.1 hp i j (by omega) hj h
  have e1 := Option.some.inj ((List.getElem?_eq_getElem (by omega : i < js.length)).symm.trans (job_get (by omega)))
  have e2 := Option.some.inj ((List.getElem?_eq_getElem hj).symm.trans (job_get hj))
  rw [e1, e2] at this
  have := (farB_iff.1 this).2 ht
  omega
theorem best_some {lt : Nat → Nat → Bool} {ks : List Nat} {wk : List (Nat × Int)} (h : wk ≠ []) : ∃ q, wk[bestTo lt ks (wk.length - 1)]? = some q := by
  have h1 := best_le lt ks (wk.length - 1)
  have h2 : 0 < wk.length := List.length_pos_iff.2 h
  exact ⟨_, List.getElem?_eq_getElem (by omega)⟩
theorem pick_none {s : Mc} (h : s.wk[bestM ts js p s]? = none) : s.wk = [] := by
  by_cases e : s.wk = []
  · exact e
  · obtain ⟨q, hq⟩ := best_some (lt := ltM ts js p s.hi) (ks := s.wk.map Prod.fst) e
    unfold bestM at h
    rw [hq] at h; cases h
theorem close_nx (now : Int) (b k : Nat) (d : Int) (s : Mc) : (closeM ts js now b k d s).nx = s.nx := by
  unfold closeM
  split
  · rfl
  · split <;> rfl
theorem tick_idle {n : Nat} (h : chN ts js p n = none) : runM ts js p (n + 1) = { openN ts js p n with tr := (openN ts js p n).tr ++ [-1] } := by
  unfold chN at h
  rw [Option.map_eq_none_iff] at h
  show tickM ts js p (n : Int) (runM ts js p n) = _
  unfold tickM
  unfold openN at h
  rw [h]
  rfl
theorem tick_run {n c : Nat} (h : chN ts js p n = some c) : ∃ b d, (openN ts js p n).wk[b]? = some (c, d) ∧ b = bestM ts js p (openN ts js p n) ∧ runM ts js p (n + 1) = closeM ts js n b c d (openN ts js p n) := by
  unfold chN at h
  obtain ⟨⟨k, d⟩, h1, h2⟩ := Option.map_eq_some_iff.1 h
  dsimp only at h2
  subst h2
  refine ⟨_, d, h1, rfl, ?_⟩
  show tickM ts js p (n : Int) (runM ts js p n) = _
  unfold tickM
  unfold openN at h1
  rw [h1]
  rfl
theorem gN_up {n c : Nat} (h : chN ts js p n = some c) : gN ts js p (n + 1) = upG (gN ts js p n) c := by
  funext k
  show (if chN ts js p n = some k then gN ts js p n k + 1 else gN ts js p n k) = _
  unfold upG
  rw [h]
  by_cases e : k = c
  · rw [if_pos (by rw [e]), if_pos e]
  · rw [if_neg (by intro e'; exact e (Option.some.inj e').symm), if_neg e]
theorem gN_idle {n : Nat} (h : chN ts js p n = none) : gN ts js p (n + 1) = gN ts js p n := by
  funext k
  show (if chN ts js p n = some k then gN ts js p n k + 1 else gN ts js p n k) = _
  rw [h, if_neg (by simp)]
/-- What holds of the state before each tick. -/
theorem run_at (hv : jobsB ts js = true) : ∀ n : Nat, InvM ts js n (gN ts js p n) (runM ts js p n) ∧ ∀ k, k < js.length → (k < (runM ts js p n).nx ↔ (jobOf js k).tm < n)
  | 0 => ⟨init_inv js ts, fun k hk => by
    have := (job_ok hv hk).2.1
    show k < 0 ↔ (jobOf js k).tm < 0
    omega⟩
  | n + 1 => by
    obtain ⟨h1, h2⟩ := run_at hv n
    obtain ⟨o1, o2, o3⟩ := open_inv hv h1
    have hcame : ∀ k, k < js.length → (k < (openN ts js p n).nx ↔ (jobOf js k).tm < (n + 1 : Nat)) := fun k hk => by
      have e0 : (lowM (runM ts js p n)).nx = (runM ts js p n).nx := rfl
      constructor
      · intro hlt
        by_cases hb : k < (runM ts js p n).nx
        · have := (h2 k hk).1 hb; omega
        · have := (o2.mid k (by rw [e0]; omega) hlt).1; omega
      · intro hlt
        rcases Nat.lt_or_ge k (openN ts js p n).nx with hh | hh
        · exact hh
        · exfalso
          have hnl : (openN ts js p n).nx < js.length := Nat.lt_of_le_of_lt hh hk
          have hne := o3 hnl
          have hm := tm_mono hv hh hk
          have hge : ¬ (jobOf js (openN ts js p n).nx).tm < n := fun hx => by
            have := (h2 _ hnl).2 hx
            have := o2.le
            rw [e0] at this
            change (runM ts js p n).nx ≤ (openN ts js p n).nx at this
            omega
          change (jobOf js (openN ts js p n).nx).tm ≠ n at hne
          omega
    cases hc : chN ts js p n with
    | none =>
      rw [tick_idle hc, gN_idle hc]
      exact ⟨by rw [show ((n + 1 : Nat) : Int) = (n : Int) + 1 by omega]; exact idle_inv o1 (-1), hcame⟩
    | some c =>
      obtain ⟨b, d, e1, e2, e3⟩ := tick_run hc
      rw [e3, gN_up hc]
      refine ⟨by rw [show ((n + 1 : Nat) : Int) = (n : Int) + 1 by omega]; exact run_inv hv o1 (by omega) e1, fun k hk => ?_⟩
      rw [close_nx]; exact hcame k hk
theorem open_at (hv : jobsB ts js = true) (n : Nat) : InvM ts js n (gN ts js p n) (openN ts js p n) ∧ CameM ts js n (lowM (runM ts js p n)) (openN ts js p n) ∧ ∀ k, k < js.length → (k < (openN ts js p n).nx ↔ (jobOf js k).tm ≤ n) := by
  obtain ⟨o1, o2, o3⟩ := open_inv hv (run_at (p := p) hv n).1
  refine ⟨o1, o2, fun k hk => ?_⟩
  have h := (run_at (p := p) hv (n + 1)).2 k hk
  have e : (runM ts js p (n + 1)).nx = (openN ts js p n).nx := by
    cases hc : chN ts js p n with
    | none => rw [tick_idle hc]
    | some c =>
      obtain ⟨b, d, e1, e2, e3⟩ := tick_run hc
      rw [e3, close_nx]
  rw [e] at h
  rw [h]
  omega
theorem lft_len (hv : jobsB ts js = true) {n k : Nat} (h : lft ts js p n k) : k < js.length ∧ (jobOf js k).tm < n := by
  obtain ⟨q, hq, rfl⟩ := h
  obtain ⟨i1, i2⟩ := run_at (p := p) hv n
  have hl := Nat.lt_of_lt_of_le (i1.wk q hq).1 i1.nx
  exact ⟨hl, (i2 _ hl).1 (i1.wk q hq).1⟩
theorem opn_len (hv : jobsB ts js = true) {n k : Nat} (h : opn ts js p n k) : k < js.length ∧ (jobOf js k).tm ≤ n := by
  obtain ⟨q, hq, rfl⟩ := h
  obtain ⟨i1, _, i2⟩ := open_at (p := p) hv n
  have hl := Nat.lt_of_lt_of_le (i1.wk q hq).1 i1.nx
  exact ⟨hl, (i2 _ hl).1 (i1.wk q hq).1⟩
theorem opn_of_lft (hv : jobsB ts js = true) {n k : Nat} (h : lft ts js p n k) : opn ts js p n k := by
  obtain ⟨q, hq, rfl⟩ := h
  obtain ⟨_, o2, _⟩ := open_at (p := p) hv n
  obtain ⟨l, e, _⟩ := o2.add
  exact ⟨q, by rw [e]; exact List.mem_append_left _ hq, rfl⟩
theorem opn_iff (hv : jobsB ts js = true) {n k : Nat} : opn ts js p n k ↔ lft ts js p n k ∨ (k < js.length ∧ (jobOf js k).tm = n ∧ (hiN ts js p n = true → (tkJ ts js k).cr = true)) := by
  obtain ⟨o1, o2, o3⟩ := open_at (p := p) hv n
  obtain ⟨l, e, hl⟩ := o2.add
  constructor
  · rintro ⟨q, hq, rfl⟩
    have hq0 := hq
    rw [e] at hq
    rcases List.mem_append.1 hq with hq | hq
    · exact .inl ⟨q, hq, rfl⟩
    · obtain ⟨a1, a2, a3, a4⟩ := hl q hq
      exact .inr ⟨(opn_len hv ⟨q, hq0, rfl⟩).1, a3, fun hh => o1.crit hh q hq0⟩
  · rintro (h | ⟨h1, h2, h3⟩)
    · exact opn_of_lft hv h
    · have hn : k < (openN ts js p n).nx := (o3 k h1).2 (by omega)
      have hm : (lowM (runM ts js p n)).nx ≤ k := by
        have := (run_at (p := p) hv n).2 k h1
        show (runM ts js p n).nx ≤ k
        omega
      rcases (o2.mid k hm hn).2 with h | ⟨_, hh, hc⟩
      · obtain ⟨q, hq, e⟩ := o1.left k hn h
        exact ⟨q, hq, e⟩
      · have := h3 (by unfold hiN; rw [o2.hi]; exact hh)
        rw [hc] at this; cases this
theorem ch_none (hv : jobsB ts js = true) {n : Nat} (h : chN ts js p n = none) (k : Nat) : ¬ opn ts js p n k := by
  rintro ⟨q, hq, _⟩
  unfold chN at h
  rw [Option.map_eq_none_iff] at h
  rw [pick_none h] at hq
  cases hq
theorem ch_some (hv : jobsB ts js = true) {n c : Nat} (h : chN ts js p n = some c) : opn ts js p n c ∧ ∀ k, opn ts js p n k → firstB ts p (hiN ts js p n) (jobOf js k) (jobOf js c) = false := by
  unfold chN at h
  obtain ⟨⟨k0, d⟩, h1, h2⟩ := Option.map_eq_some_iff.1 h
  dsimp only at h2
  subst h2
  refine ⟨⟨_, List.mem_of_getElem? h1, rfl⟩, ?_⟩
  rintro k ⟨q, hq, rfl⟩
  obtain ⟨i, hi⟩ := List.mem_iff_getElem?.1 hq
  have hil := (List.getElem?_eq_some_iff.1 hi).1
  have hb := best_min (lt := ltM ts js p (openN ts js p n).hi) (fun a b c h1 h2 => first_trans h1 h2) (fun a => first_self _) ((openN ts js p n).wk.map Prod.fst) ((openN ts js p n).wk.length - 1) i (by omega)
  have e1 : ((openN ts js p n).wk.map Prod.fst).getD i 0 = q.1 := by simp [List.getD, List.getElem?_map, hi]
  have e2 : ((openN ts js p n).wk.map Prod.fst).getD (bestTo (ltM ts js p (openN ts js p n).hi) ((openN ts js p n).wk.map Prod.fst) ((openN ts js p n).wk.length - 1)) 0 = k0 := by
    unfold bestM at h1
    simp [List.getD, List.getElem?_map, h1]
  rw [e1, e2] at hb
  exact hb
theorem close_wk {now : Int} {b k : Nat} {d : Int} {s : Mc} (hb : s.wk[b]? = some (k, d)) {q : Nat × Int} (h : q ∈ (closeM ts js now b k d s).wk) : ∃ r, r ∈ s.wk ∧ r.1 = q.1 := by
  have hbl := (List.getElem?_eq_some_iff.1 hb).1
  have hset : ∀ q, q ∈ s.wk.set b (k, d + 1) → ∃ r, r ∈ s.wk ∧ r.1 = q.1 := fun q hq => by
    rcases (mem_set_iff' hbl).1 hq with rfl | ⟨i, _, hi⟩
    · exact ⟨(k, d), List.mem_of_getElem? hb, rfl⟩
    · exact ⟨q, List.mem_of_getElem? hi, rfl⟩
  unfold closeM at h
  split at h
  · obtain ⟨i, _, hi⟩ := mem_erase_iff'.1 h
    exact ⟨q, List.mem_of_getElem? hi, rfl⟩
  · split at h
    · exact hset q (List.mem_filter.1 h).1
    · exact hset q h
/-- What is left after a tick was there at the tick. -/
theorem opn_of_next (hv : jobsB ts js = true) {n k : Nat} (h : lft ts js p (n + 1) k) : opn ts js p n k := by
  obtain ⟨q, hq, rfl⟩ := h
  cases hc : chN ts js p n with
  | none => rw [tick_idle hc] at hq; exact ⟨q, hq, rfl⟩
  | some c =>
    obtain ⟨b, d, e1, e2, e3⟩ := tick_run hc
    rw [e3] at hq
    obtain ⟨r, hr, e⟩ := close_wk e1 hq
    exact ⟨r, hr, e⟩
theorem sw_run {n c : Nat} (h : chN ts js p n = some c) : swN ts js p n = (!hiN ts js p n && ((tkJ ts js c).cr && (decide (gN ts js p (n + 1) c = (tkJ ts js c).lo) && !decide (gN ts js p (n + 1) c = (jobOf js c).ne)))) := by unfold swN; rw [h]
theorem sw_idle {n : Nat} (h : chN ts js p n = none) : swN ts js p n = false := by unfold swN; rw [h]
/-- The three ways of a tick at which a job runs. -/
theorem close_cases (hv : jobsB ts js = true) {n c : Nat} (h : chN ts js p n = some c) : ∃ b d, (openN ts js p n).wk[b]? = some (c, d) ∧ gN ts js p (n + 1) c = d + 1 ∧ c < js.length ∧
    (((jobOf js c).ne = gN ts js p (n + 1) c ∧ swN ts js p n = false ∧ runM ts js p (n + 1) = { openN ts js p n with tr := (openN ts js p n).tr ++ [(jobOf js c).ta], en := (openN ts js p n).en.set c ((n : Int) + 1), wk := (openN ts js p n).wk.eraseIdx b }) ∨
    (gN ts js p (n + 1) c < (jobOf js c).ne ∧ swN ts js p n = true ∧ runM ts js p (n + 1) = swM ts js ((n : Int) + 1) { openN ts js p n with tr := (openN ts js p n).tr ++ [(jobOf js c).ta], wk := (openN ts js p n).wk.set b (c, d + 1) }) ∨
    (gN ts js p (n + 1) c < (jobOf js c).ne ∧ swN ts js p n = false ∧ runM ts js p (n + 1) = { openN ts js p n with tr := (openN ts js p n).tr ++ [(jobOf js c).ta], wk := (openN ts js p n).wk.set b (c, d + 1) })) := by
  obtain ⟨b, d, e1, e2, e3⟩ := tick_run h
  obtain ⟨o1, _, _⟩ := open_at (p := p) hv n
  obtain ⟨w1, w2, w3, w4⟩ := o1.wk _ (List.mem_of_getElem? e1)
  dsimp only at w1 w2 w3 w4
  have hg : gN ts js p (n + 1) c = d + 1 := by rw [gN_up h, upG_same, w3]
  refine ⟨b, d, e1, hg, Nat.lt_of_lt_of_le w1 o1.nx, ?_⟩
  have hsw := sw_run h
  rw [hg] at hsw ⊢
  rw [e3]
  unfold closeM
  by_cases hend : d + 1 = (jobOf js c).ne
  · refine .inl ⟨hend.symm, by rw [hsw]; simp [hend], ?_⟩
    rw [if_pos hend]
  · rw [if_neg hend]
    have hlt : d + 1 < (jobOf js c).ne := by omega
    by_cases hs : (!(openN ts js p n).hi && ((tkJ ts js c).cr && decide (d + 1 = (tkJ ts js c).lo))) = true
    · refine .inr (.inl ⟨hlt, ?_, by rw [if_pos hs]⟩)
      rw [hsw]
      simp at hs
      simp [hiN, hs]
      intro e
      omega
    · refine .inr (.inr ⟨hlt, ?_, by rw [if_neg hs]⟩)
      rw [hsw]
      simp at hs
      simp [hiN]
      intro h1 h2 h3
      exact absurd h3 (hs h1 h2)
theorem hi_next (hv : jobsB ts js = true) (n : Nat) : (runM ts js p (n + 1)).hi = (hiN ts js p n || swN ts js p n) := by
  cases hc : chN ts js p n with
  | none => rw [tick_idle hc, sw_idle hc]; simp [hiN]
  | some c =>
    obtain ⟨b, d, e1, e2, _, ⟨_, s, e⟩ | ⟨_, s, e⟩ | ⟨_, s, e⟩⟩ := close_cases hv hc
    · rw [e, s]; simp [hiN]
    · rw [e, s]; simp [swM]
    · rw [e, s]; simp [hiN]
theorem tr_next (hv : jobsB ts js = true) (n : Nat) : (runM ts js p (n + 1)).tr = (runM ts js p n).tr ++ [outN ts js p n] := by
  have o2 := (open_at (p := p) hv n).2.1
  have e0 : (openN ts js p n).tr = (runM ts js p n).tr := o2.tr
  unfold outN
  cases hc : chN ts js p n with
  | none => rw [tick_idle hc]; simp [e0]
  | some c =>
    obtain ⟨b, d, e1, e2, _, ⟨_, s, e⟩ | ⟨_, s, e⟩ | ⟨_, s, e⟩⟩ := close_cases hv hc
    · rw [e]; simp [e0]
    · rw [e]; simp [swM, e0]
    · rw [e]; simp [e0]
theorem hiN_iff (hv : jobsB ts js = true) (n : Nat) : hiN ts js p n = true ↔ (runM ts js p n).hi = true ∧ ∃ k, lft ts js p n k := by
  have o2 := (open_at (p := p) hv n).2.1
  unfold hiN
  rw [o2.hi]
  simp only [lowM, Bool.and_eq_true, Bool.not_eq_true', List.isEmpty_eq_false_iff]
  constructor
  · rintro ⟨h1, h2⟩
    obtain ⟨q, hq⟩ := List.exists_mem_of_ne_nil _ h2
    exact ⟨h1, q.1, q, hq, rfl⟩
  · rintro ⟨h1, k, q, hq, _⟩
    exact ⟨h1, fun e => by rw [e] at hq; cases hq⟩
theorem opn_g (hv : jobsB ts js = true) {n k : Nat} (h : opn ts js p n k) : 0 ≤ gN ts js p n k ∧ gN ts js p n k < (jobOf js k).ne ∧ (hiN ts js p n = true → (tkJ ts js k).cr = true) ∧ (hiN ts js p n = false → gN ts js p n k < (tkJ ts js k).lo) := by
  obtain ⟨o1, _, _⟩ := open_at (p := p) hv n
  obtain ⟨q, hq, rfl⟩ := h
  exact ⟨o1.pos _, (o1.wk q hq).2.2.2, fun hh => o1.crit hh q hq, fun hh => o1.low hh q hq⟩
theorem g_zero (hv : jobsB ts js = true) {n k : Nat} (hk : k < js.length) (h : n ≤ (jobOf js k).tm) : gN ts js p n k = 0 := by
  obtain ⟨i1, i2⟩ := run_at (p := p) hv n
  refine (i1.new k ?_).1
  have := (i2 k hk)
  omega
theorem g_pos (hv : jobsB ts js = true) (n k : Nat) : 0 ≤ gN ts js p n k := (run_at (p := p) hv n).1.pos k
/-- A job that is left was open since it came. -/
theorem opn_since (hv : jobsB ts js = true) {n k : Nat} (h : lft ts js p n k) : ∀ u : Nat, (jobOf js k).tm ≤ u → u < n → opn ts js p u k := by
  induction n with
  | zero => intro u _ hu; omega
  | succ n ih =>
    intro u h1 h2
    have ho := opn_of_next hv h
    by_cases e : u = n
    · rw [e]; exact ho
    · rcases (opn_iff hv).1 ho with hl | ⟨_, ht, _⟩
      · exact ih hl u h1 (by omega)
      · omega
theorem lft_since (hv : jobsB ts js = true) {n k : Nat} (h : lft ts js p n k) {u : Nat} (h1 : (jobOf js k).tm < u) (h2 : u ≤ n) : lft ts js p u k := by
  by_cases e : u = n
  · rw [e]; exact h
  · rcases (opn_iff hv).1 (opn_since hv h u (by omega) (by omega)) with hl | ⟨_, ht, _⟩
    · exact hl
    · omega
/-- A job that came and is not left does nothing any more. -/
theorem g_same (hv : jobsB ts js = true) {n k : Nat} (ht : (jobOf js k).tm < n) (h : ¬ lft ts js p n k) : ∀ m, n ≤ m → gN ts js p m k = gN ts js p n k ∧ ¬ lft ts js p m k := by
  intro m hm
  have hl : ¬ lft ts js p m k := fun hx => h (lft_since hv hx ht hm)
  refine ⟨?_, hl⟩
  induction hm with
  | refl => rfl
  | @step m hm ih =>
    have hlm : ¬ lft ts js p m k := fun hx => h (lft_since hv hx ht hm)
    rw [← ih hlm]
    show (if chN ts js p m = some k then gN ts js p m k + 1 else gN ts js p m k) = _
    rw [if_neg]
    intro hc
    rcases (opn_iff hv).1 (ch_some hv hc).1 with hx | ⟨_, hx, _⟩
    · exact hlm hx
    · have : n ≤ m := hm
      omega
/-- The mode does not become low while something is left. -/
theorem hi_stays (hv : jobsB ts js = true) {n : Nat} (h : hiN ts js p n = true) (hl : ∃ k, lft ts js p (n + 1) k) : hiN ts js p (n + 1) = true :=
  (hiN_iff hv _).2 ⟨by rw [hi_next hv, h]; rfl, hl⟩
end
end
section
open Go.RowKit
set_option linter.unusedVariables false
def sumZ (f : Nat → Int) : Nat → Int
  | 0 => 0
  | n + 1 => sumZ f n + f n
theorem sumZ_congr {f g : Nat → Int} : ∀ {n : Nat}, (∀ k, k < n → f k = g k) → sumZ f n = sumZ g n
  | 0, _ => rfl
  | n + 1, h => by
    show sumZ f n + f n = sumZ g n + g n
    rw [sumZ_congr fun k hk => h k (Nat.lt_succ_of_lt hk), h n (Nat.lt_succ_self _)]
theorem sumZ_le {f g : Nat → Int} : ∀ {n : Nat}, (∀ k, k < n → f k ≤ g k) → sumZ f n ≤ sumZ g n
  | 0, _ => Int.le_refl _
  | n + 1, h => by
    have h1 := sumZ_le fun k hk => h k (Nat.lt_succ_of_lt hk)
    have h2 := h n (Nat.lt_succ_self _)
    show sumZ f n + f n ≤ sumZ g n + g n
    omega
theorem sumZ_add (f g : Nat → Int) : ∀ n : Nat, sumZ (fun k => f k + g k) n = sumZ f n + sumZ g n
  | 0 => rfl
  | n + 1 => by
    show sumZ (fun k => f k + g k) n + (f n + g n) = sumZ f n + f n + (sumZ g n + g n)
    rw [sumZ_add f g n]; omega
theorem sumZ_mul (f : Nat → Int) (c : Int) : ∀ n : Nat, sumZ (fun k => f k * c) n = sumZ f n * c
  | 0 => (Int.zero_mul c).symm
  | n + 1 => by
    show sumZ (fun k => f k * c) n + f n * c = (sumZ f n + f n) * c
    rw [sumZ_mul f c n, Int.add_mul]
theorem sumZ_zero {f : Nat → Int} {n : Nat} (h : ∀ k, k < n → f k = 0) : sumZ f n = 0 := by
  rw [sumZ_congr (g := fun _ => 0) h]
  induction n with
  | zero => rfl
  | succ n ih => show sumZ (fun _ => 0) n + 0 = 0; rw [ih fun k hk => h k (Nat.lt_succ_of_lt hk)]; rfl
theorem sumZ_nonneg {f : Nat → Int} {n : Nat} (h : ∀ k, k < n → 0 ≤ f k) : 0 ≤ sumZ f n := by
  have := sumZ_le (f := fun _ => 0) (g := f) h
  rwa [sumZ_zero (fun _ _ => rfl)] at this
/-- One term is told from the rest. -/
theorem sumZ_one (f : Nat → Int) {c : Nat} : ∀ {n : Nat}, c < n → sumZ f n = f c + sumZ (fun k => if k = c then 0 else f k) n
  | 0, h => absurd h (Nat.not_lt_zero _)
  | n + 1, h => by
    show sumZ f n + f n = f c + (sumZ (fun k => if k = c then 0 else f k) n + if n = c then 0 else f n)
    by_cases e : n = c
    · subst e
      rw [if_pos rfl, sumZ_congr (g := f) fun k hk => if_neg (Nat.ne_of_lt hk)]
      omega
    · rw [if_neg e, sumZ_one f (show c < n by omega)]
      omega
theorem sumZ_point {f : Nat → Int} {c n : Nat} (hc : c < n) (h : ∀ k, k < n → k ≠ c → f k = 0) : sumZ f n = f c := by
  rw [sumZ_one f hc, sumZ_zero fun k hk => ?_]
  · omega
  · try dsimp only
    by_cases e : k = c
    · rw [if_pos e]
    · rw [if_neg e]; exact h k hk e
/-- A sum, told by classes. -/
theorem sumZ_class (cl : Nat → Int) (x : Nat → Int) (n : Nat) : ∀ i : Nat, sumZ (fun k => if 0 ≤ cl k ∧ cl k < i then x k else 0) n = sumZ (fun j => sumZ (fun k => if cl k = (j : Int) then x k else 0) n) i
  | 0 => sumZ_zero fun k _ => if_neg (by omega)
  | i + 1 => by
    show _ = sumZ (fun j => sumZ (fun k => if cl k = (j : Int) then x k else 0) n) i + sumZ (fun k => if cl k = (i : Int) then x k else 0) n
    rw [← sumZ_class cl x n i, ← sumZ_add]
    refine sumZ_congr fun k _ => ?_
    by_cases e : cl k = (i : Int)
    · rw [if_pos (by omega), if_neg (by omega), if_pos e]; omega
    · by_cases h : 0 ≤ cl k ∧ cl k < (i : Int)
      · rw [if_pos (by omega), if_pos h, if_neg e]; omega
      · rw [if_neg (by omega), if_neg h, if_neg e]; rfl
/-- How many have a property. -/
def cntZ (P : Nat → Bool) (n : Nat) : Int := sumZ (fun k => if P k then 1 else 0) n
theorem cntZ_succ (P : Nat → Bool) (n : Nat) : cntZ P (n + 1) = cntZ P n + if P n then 1 else 0 := rfl
theorem cntZ_nonneg (P : Nat → Bool) (n : Nat) : 0 ≤ cntZ P n := sumZ_nonneg fun k _ => by split <;> omega
theorem sumZ_cnt {P : Nat → Bool} {x : Nat → Int} {c : Int} {n : Nat} (h : ∀ k, k < n → P k = true → x k ≤ c) : sumZ (fun k => if P k then x k else 0) n ≤ cntZ P n * c := by
  unfold cntZ
  rw [← sumZ_mul]
  refine sumZ_le fun k hk => ?_
  try dsimp only
  by_cases e : P k = true
  · rw [if_pos e, if_pos e]; have := h k hk e; omega
  · rw [if_neg e, if_neg e]; omega
section
variable {ts : List Tk} {js : List Jb} {p : Po}
/-- Of jobs of one task the first and the last one are as far apart as they are many. -/
theorem cnt_far (hv : jobsB ts js = true) {P : Nat → Bool} {z T : Int} (hP : ∀ k, k < js.length → P k = true → (jobOf js k).ta = z ∧ (tkJ ts js k).ev = T) : ∀ n : Nat, n ≤ js.length → cntZ P n = 0 ∨ ∃ a b, a ≤ b ∧ b < n ∧ P a = true ∧ P b = true ∧ (cntZ P n - 1) * T ≤ (jobOf js b).tm - (jobOf js a).tm
  | 0, _ => .inl rfl
  | n + 1, hn => by
    have hnl : n < js.length := hn
    rw [cntZ_succ]
    by_cases e : P n = true
    · rw [if_pos e]
      right
      rcases cnt_far hv hP n (by omega) with h0 | ⟨a, b, h1, h2, h3, h4, h5⟩
      · exact ⟨n, n, Nat.le_refl _, Nat.lt_succ_self _, e, e, by rw [h0]; simp⟩
      · refine ⟨a, n, by omega, Nat.lt_succ_self _, h3, e, ?_⟩
        have h6 := tm_far hv h2 hnl ((hP b (by omega) h4).1.trans (hP n hnl e).1.symm)
        rw [(hP n hnl e).2] at h6
        rw [show cntZ P n + 1 - 1 = (cntZ P n - 1) + 1 by omega, Int.add_mul]
        omega
    · rw [if_neg e, Int.add_zero]
      rcases cnt_far hv hP n (by omega) with h0 | ⟨a, b, h1, h2, h3⟩
      · exact .inl h0
      · exact .inr ⟨a, b, h1, by omega, h3⟩
/-- What is done between two ticks goes to the jobs that run. -/
theorem work_eq (hv : jobsB ts js = true) (P : Nat → Bool) {n : Nat} : ∀ {m : Nat}, n ≤ m → (∀ u, n ≤ u → u < m → ∃ c, chN ts js p u = some c ∧ P c = true) → sumZ (fun k => if P k then gN ts js p m k - gN ts js p n k else 0) js.length = (m : Int) - n := by
  intro m hm
  induction hm with
  | refl => intro _; rw [sumZ_zero fun k _ => by split <;> omega]; omega
  | @step m hm ih =>
    intro h
    have hm' : n ≤ m := hm
    obtain ⟨c, hc, hP⟩ := h m hm (Nat.lt_succ_self _)
    have h0 := ih fun u h1 h2 => h u h1 (Nat.lt_succ_of_lt h2)
    have hcl := (opn_len hv (ch_some hv hc).1).1
    have e : sumZ (fun k => if P k then gN ts js p (m + 1) k - gN ts js p n k else 0) js.length = sumZ (fun k => (if P k then gN ts js p m k - gN ts js p n k else 0) + (if k = c then 1 else 0)) js.length := by
      refine sumZ_congr fun k _ => ?_
      try dsimp only
      have hk : gN ts js p (m + 1) k = if chN ts js p m = some k then gN ts js p m k + 1 else gN ts js p m k := rfl
      rw [hc] at hk
      by_cases e : k = c
      · subst e
        rw [if_pos rfl] at hk
        rw [if_pos hP, if_pos hP, if_pos rfl, hk]; omega
      · rw [if_neg fun e' => e (Option.some.inj e').symm] at hk
        rw [hk, if_neg e]; omega
    rw [show (m.succ) = m + 1 from rfl, e, sumZ_add, h0, sumZ_point (f := fun k => if k = c then (1 : Int) else 0) hcl (fun k _ hk => if_neg hk)]
    try dsimp only
    rw [if_pos rfl]
    omega
/-- At most: as many jobs of a task as come, each as much as is said. -/
theorem task_work (hv : jobsB ts js = true) {Q : Nat → Bool} {x : Nat → Int} {z T c : Int} {a b : Int} (hT : 1 ≤ T) (hc : 0 ≤ c) (hQ : ∀ k, k < js.length → Q k = true → (jobOf js k).ta = z ∧ (tkJ ts js k).ev = T ∧ a ≤ (jobOf js k).tm ∧ (jobOf js k).tm < b ∧ x k ≤ c) : sumZ (fun k => if Q k then x k else 0) js.length ≤ (if a < b then (b - a + T - 1) / T * c else 0) := by
  refine Int.le_trans (sumZ_cnt (c := c) fun k hk e => (hQ k hk e).2.2.2.2) ?_
  rcases cnt_far hv (fun k hk e => ⟨(hQ k hk e).1, (hQ k hk e).2.1⟩) js.length (Nat.le_refl _) with h0 | ⟨u, v, h1, h2, h3, h4, h5⟩
  · rw [h0, Int.zero_mul]
    split
    · exact Int.mul_nonneg (Int.ediv_nonneg (by omega) (by omega)) hc
    · exact Int.le_refl _
  · have hu := (hQ u (by omega) h3).2.2.1
    have hv' := (hQ v h2 h4).2.2.2.1
    have hu2 := tm_mono hv h1 h2
    rw [if_pos (by omega)]
    refine Int.mul_le_mul_of_nonneg_right ?_ hc
    refine (Int.le_ediv_iff_mul_le (by omega)).2 ?_
    have : (cntZ Q js.length - 1) * T = cntZ Q js.length * T - T := by rw [Int.sub_mul, Int.one_mul]
    omega
end
end
section
open Go.RowKit
set_option linter.unusedVariables false
section
variable {ts : List Tk} {js : List Jb} {p : Po}
theorem tkOf_get {k : Nat} {t : Tk} (h : ts[k]? = some t) : tkOf ts (k : Int) = t := by unfold tkOf; simp [List.getD, h]
theorem dem_castI {n e : Int} {w : Nat} (hn : 0 ≤ n) (he : 1 ≤ e) : ((demN n.toNat e.toNat w : Nat) : Int) = ((w : Int) + e - 1) / e * n := by
  obtain ⟨a, rfl⟩ := Int.eq_ofNat_of_zero_le hn
  obtain ⟨b, rfl⟩ := Int.eq_ofNat_of_zero_le (show 0 ≤ e by omega)
  unfold demN
  simp only [Int.toNat_natCast]
  rw [Int.natCast_mul, Int.natCast_ediv]
  congr 2
  omega
theorem sum_tasks (f : Tk → Nat) : ∀ {i : Nat}, i ≤ ts.length → ((((ts.take i).map f).sum : Nat) : Int) = sumZ (fun j => ((f (tkOf ts (j : Int)) : Nat) : Int)) i
  | 0, _ => by simp [sumZ]
  | i + 1, h => by
    have hg : ts[i]? = some ts[i] := List.getElem?_eq_getElem (by omega)
    rw [sum_snoc f hg, Int.natCast_add, sum_tasks f (by omega)]
    show _ = sumZ (fun j => ((f (tkOf ts (j : Int)) : Nat) : Int)) i + ((f (tkOf ts (i : Int)) : Nat) : Int)
    rw [tkOf_get hg]
/-- The last time before which nothing of a kind is left. -/
theorem busy_from (hv : jobsB ts js = true) (B : Nat → Prop) : ∀ a : Nat, ∃ t0, t0 ≤ a ∧ (∀ q, lft ts js p t0 q → ¬ B q) ∧ ∀ u, t0 < u → u ≤ a → ∃ q, lft ts js p u q ∧ B q
  | 0 => ⟨0, Nat.le_refl _, (fun q hq => by obtain ⟨_, h, _⟩ := hq; cases h), fun u h1 h2 => by omega⟩
  | a + 1 => by
    by_cases h : ∃ q, lft ts js p (a + 1) q ∧ B q
    · obtain ⟨t0, h1, h2, h3⟩ := busy_from hv B a
      refine ⟨t0, by omega, h2, fun u u1 u2 => ?_⟩
      by_cases e : u = a + 1
      · rw [e]; exact h
      · exact h3 u u1 (by omega)
    · exact ⟨a + 1, Nat.le_refl _, fun q hq hb => h ⟨q, hq, hb⟩, fun u h1 h2 => by omega⟩
theorem ch_place (hv : jobsB ts js = true) (hd : p.due = false) {n c k : Nat} (hc : chN ts js p n = some c) (hk : opn ts js p n k) : (jobOf js c).ta < (jobOf js k).ta ∨ ((jobOf js c).ta = (jobOf js k).ta ∧ (jobOf js c).tm ≤ (jobOf js k).tm) := by
  have h := (ch_some hv hc).2 k hk
  have h2 : ¬ ((jobOf js k).ta < (jobOf js c).ta ∨ ((jobOf js k).ta = (jobOf js c).ta ∧ (jobOf js k).tm < (jobOf js c).tm)) := fun e => by rw [(firstB_place hd).2 e] at h; cases h
  omega
theorem ch_ex (hv : jobsB ts js = true) {n k : Nat} (hk : opn ts js p n k) : ∃ c, chN ts js p n = some c := by
  cases h : chN ts js p n with
  | none => exact absurd hk (ch_none hv h k)
  | some c => exact ⟨c, rfl⟩
theorem g_le (hv : jobsB ts js = true) {k : Nat} (hk : k < js.length) : ∀ n : Nat, gN ts js p n k ≤ (jobOf js k).ne
  | 0 => by have := (job_ok hv hk).1; show (0 : Int) ≤ _; omega
  | n + 1 => by
    show (if chN ts js p n = some k then gN ts js p n k + 1 else gN ts js p n k) ≤ _
    split
    · rename_i h
      have := (opn_g hv (ch_some hv h).1).2.1
      omega
    · exact g_le hv hk n
theorem g_low (hv : jobsB ts js = true) {k a : Nat} (hk : k < js.length) (ha : (a : Int) ≤ (jobOf js k).tm) : ∀ n : Nat, (∀ u, a ≤ u → u < n → hiN ts js p u = false) → gN ts js p n k ≤ (tkJ ts js k).lo
  | 0, _ => by have := (tk_nums (job_ok hv hk).2.2.2.2.2.2.2).1; show (0 : Int) ≤ _; omega
  | n + 1, h => by
    have ih := g_low hv hk ha n fun u h1 h2 => h u h1 (by omega)
    show (if chN ts js p n = some k then gN ts js p n k + 1 else gN ts js p n k) ≤ _
    split
    · rename_i hc
      have ho := (ch_some hv hc).1
      have := (opn_len hv ho).2
      have := (opn_g hv ho).2.2.2 (h n (by omega) (Nat.lt_succ_self _))
      omega
    · exact ih
/-- A job that is not critical does nothing while needs are high. -/
theorem g_high (hv : jobsB ts js = true) {k s : Nat} (hc : (tkJ ts js k).cr = false) : ∀ n : Nat, s ≤ n → (∀ u, s ≤ u → u < n → hiN ts js p u = true) → gN ts js p n k = gN ts js p s k := by
  intro n hn
  induction hn with
  | refl => intro _; rfl
  | @step n hn ih =>
    intro h
    rw [← ih fun u h1 h2 => h u h1 (Nat.lt_succ_of_lt h2)]
    show (if chN ts js p n = some k then gN ts js p n k + 1 else gN ts js p n k) = _
    rw [if_neg]
    intro hx
    have := (opn_g hv (ch_some hv hx).1).2.2.1 (h n hn (Nat.lt_succ_self _))
    rw [hc] at this; cases this
/-- What is done between two ticks by jobs of the first tasks, and by one job more. -/
theorem fp_work (hv : jobsB ts js = true) {i k t0 m : Nat} (hi : i ≤ ts.length) (hk : k < js.length) (hki : ¬ (jobOf js k).ta < (i : Int)) (hm : t0 ≤ m)
    (hP : ∀ u, t0 ≤ u → u < m → ∃ c, chN ts js p u = some c ∧ ((jobOf js c).ta < (i : Int) ∨ c = k)) (E cap : Nat → Int) (hcap : ∀ j, 0 ≤ cap j)
    (hx : ∀ q j : Nat, q < js.length → (jobOf js q).ta = (j : Int) → j < i → gN ts js p m q - gN ts js p t0 q ≤ if (t0 : Int) ≤ (jobOf js q).tm ∧ (jobOf js q).tm < E j then cap j else 0) :
    (m : Int) - t0 ≤ sumZ (fun j => if (t0 : Int) < E j then (E j - t0 + (tkOf ts (j : Int)).ev - 1) / (tkOf ts (j : Int)).ev * cap j else 0) i + (gN ts js p m k - gN ts js p t0 k) := by
  have hw := work_eq hv (P := fun q => decide (0 ≤ (jobOf js q).ta ∧ (jobOf js q).ta < (i : Int)) || decide (q = k)) hm fun u h1 h2 => by
    obtain ⟨c, hc, h⟩ := hP u h1 h2
    refine ⟨c, hc, ?_⟩
    have := (job_ok hv (opn_len hv (ch_some hv hc).1).1).2.2.2.1
    rcases h with h | h
    · simp [h, this]
    · simp [h]
  have e1 : sumZ (fun q => if (decide (0 ≤ (jobOf js q).ta ∧ (jobOf js q).ta < (i : Int)) || decide (q = k)) = true then gN ts js p m q - gN ts js p t0 q else 0) js.length =
      sumZ (fun q => (if 0 ≤ (jobOf js q).ta ∧ (jobOf js q).ta < (i : Int) then gN ts js p m q - gN ts js p t0 q else 0) + (if q = k then gN ts js p m q - gN ts js p t0 q else 0)) js.length := by
    refine sumZ_congr fun q _ => ?_
    by_cases h1 : 0 ≤ (jobOf js q).ta ∧ (jobOf js q).ta < (i : Int)
    · have h2 : q ≠ k := by rintro rfl; exact hki h1.2
      rw [if_pos h1, if_neg h2]
      simp [h1]
    · rw [if_neg h1]
      by_cases h2 : q = k
      · rw [if_pos h2]; simp [h2]
      · rw [if_neg h2]; simp [h1, h2]
  have e2 : sumZ (fun q => if q = k then gN ts js p m q - gN ts js p t0 q else 0) js.length = gN ts js p m k - gN ts js p t0 k := by
    rw [sumZ_point hk fun q _ hq => if_neg hq]
    exact if_pos rfl
  rw [← hw, e1, sumZ_add, e2, sumZ_class]
  refine Int.add_le_add_right (sumZ_le fun j hj => ?_) _
  have hjt : j < ts.length := by omega
  obtain ⟨t, ht⟩ : ∃ t, ts[j]? = some t := ⟨_, List.getElem?_eq_getElem hjt⟩
  have hev : 1 ≤ (tkOf ts (j : Int)).ev := by
    have hs : setB ts = true := by unfold jobsB at hv; simp only [Bool.and_eq_true] at hv; exact hv.1
    rw [tkOf_get ht]
    have := tk_nums (set_ok hs (get_mem ht))
    omega
  refine Int.le_trans ?_ (task_work hv (Q := fun q => decide ((jobOf js q).ta = (j : Int)) && (decide ((t0 : Int) ≤ (jobOf js q).tm) && decide ((jobOf js q).tm < E j))) (x := fun _ => cap j) (z := (j : Int)) (T := (tkOf ts (j : Int)).ev) (c := cap j) (a := (t0 : Int)) (b := E j) hev (hcap j) fun q _ hQ => ?_)
  · refine sumZ_le fun q hq => ?_
    try dsimp only
    by_cases e : (jobOf js q).ta = (j : Int)
    · rw [if_pos e]
      refine Int.le_trans (hx q j hq e hj) ?_
      by_cases h : (t0 : Int) ≤ (jobOf js q).tm ∧ (jobOf js q).tm < E j
      · rw [if_pos h, if_pos (by simp [e, h])]; exact Int.le_refl _
      · rw [if_neg h]
        split
        · exact hcap j
        · exact Int.le_refl _
    · rw [if_neg e]
      split
      · exact hcap j
      · exact Int.le_refl _
  · simp at hQ
    refine ⟨hQ.1, ?_, hQ.2.1, hQ.2.2, Int.le_refl _⟩
    unfold tkJ
    rw [hQ.1]
/-- What is known of a job that runs by place: its task, from when on those before it were busy. -/
structure FpAt (ts : List Tk) (js : List Jb) (p : Po) (i k t0 a t : Nat) : Prop where
  due : p.due = false
  len : k < js.length
  ta : (jobOf js k).ta = (i : Int)
  tm : (jobOf js k).tm = (a : Int)
  le : t0 ≤ a
  lt : a < t
  left : lft ts js p t k
  start : ∀ q, lft ts js p t0 q → ¬ (jobOf js q).ta < (i : Int)
  busy : ∀ u, t0 < u → u ≤ a → ∃ q, lft ts js p u q ∧ (jobOf js q).ta < (i : Int)
  prev : ∀ c, c < js.length → (jobOf js c).ta = (i : Int) → (jobOf js c).tm < (a : Int) → ¬ lft ts js p a c
theorem FpAt.runs (hv : jobsB ts js = true) {i k t0 a t : Nat} (h : FpAt ts js p i k t0 a t) : ∀ u, t0 ≤ u → u < t → ∃ c, chN ts js p u = some c ∧ ((jobOf js c).ta < (i : Int) ∨ c = k) := by
  intro u h1 h2
  by_cases hua : u < a
  · obtain ⟨q, hq, hqi⟩ := h.busy (u + 1) (by omega) (by omega)
    have ho := opn_of_next hv hq
    obtain ⟨c, hc⟩ := ch_ex hv ho
    refine ⟨c, hc, .inl ?_⟩
    have := ch_place hv h.due hc ho
    omega
  · have ho := opn_since hv h.left u (by rw [h.tm]; omega) h2
    obtain ⟨c, hc⟩ := ch_ex hv ho
    refine ⟨c, hc, ?_⟩
    rcases ch_place hv h.due hc ho with e | ⟨e1, e2⟩
    · rw [h.ta] at e; exact .inl e
    · right
      have hoc := (ch_some hv hc).1
      have hcl := (opn_len hv hoc).1
      rw [h.ta] at e1
      rw [h.tm] at e2
      by_cases hlt : (jobOf js c).tm < (a : Int)
      · exfalso
        have hn := h.prev c hcl e1 hlt
        have hn2 := (g_same hv hlt hn u (by omega)).2
        rcases (opn_iff hv).1 hoc with hl | ⟨_, hx, _⟩
        · exact hn2 hl
        · omega
      · -- the same task at the same time: the same job
        rcases Nat.lt_trichotomy c k with hh | hh | hh
        · have := tm_far hv hh h.len (by rw [e1, h.ta])
          have := tk_nums (job_ok hv h.len).2.2.2.2.2.2.2
          rw [h.tm] at *
          omega
        · exact hh
        · have := tm_far hv hh hcl (by rw [e1, h.ta])
          have := tk_nums (job_ok hv hcl).2.2.2.2.2.2.2
          rw [h.tm] at *
          omega
theorem FpAt.some (hv : jobsB ts js = true) {i k t0 a t : Nat} (h : FpAt ts js p i k t0 a t) : ∀ u, t0 < u → u ≤ t → ∃ q, lft ts js p u q := by
  intro u h1 h2
  by_cases hua : u ≤ a
  · obtain ⟨q, hq, _⟩ := h.busy u h1 hua
    exact ⟨q, hq⟩
  · exact ⟨k, lft_since hv h.left (by rw [h.tm]; omega) h2⟩
theorem FpAt.stays (hv : jobsB ts js = true) {i k t0 a t : Nat} (h : FpAt ts js p i k t0 a t) {s : Nat} (hs : t0 ≤ s) (hh : hiN ts js p s = true) : ∀ u, s ≤ u → u ≤ t → hiN ts js p u = true := by
  intro u hu
  induction hu with
  | refl => intro _; exact hh
  | @step u hu ih => intro hut; exact hi_stays hv (ih (by omega)) (h.some hv (u + 1) (by have : s ≤ u := hu; omega) hut)
/-- Before the first time nothing of a job was done. -/
theorem FpAt.zero (hv : jobsB ts js = true) {i k t0 a t : Nat} (h : FpAt ts js p i k t0 a t) : gN ts js p t0 k = 0 := g_zero hv h.len (by rw [h.tm]; have := h.le; omega)
theorem FpAt.before (hv : jobsB ts js = true) {i k t0 a t : Nat} (h : FpAt ts js p i k t0 a t) {q : Nat} (hq : (jobOf js q).ta < (i : Int)) (ht : (jobOf js q).tm < (t0 : Int)) {m : Nat} (hm : t0 ≤ m) : gN ts js p m q - gN ts js p t0 q = 0 := by
  rw [(g_same hv ht (fun hl => h.start q hl hq) m hm).1]; omega
theorem set_jobs (hv : jobsB ts js = true) : setB ts = true := by unfold jobsB at hv; simp only [Bool.and_eq_true] at hv; exact hv.1
/-- While needs are low, a job is not left longer than the bound. -/
theorem fp_low (hv : jobsB ts js = true) {i k t0 a t R : Nat} {tk : Tk} (h : FpAt ts js p i k t0 a t) (hi : ts[i]? = some tk) (hR : tk.lo.toNat + dLow (ts.take i) R ≤ R) (ht : a + R ≤ t) (hlow : ∀ u, t0 ≤ u → u ≤ t0 + R → hiN ts js p u = false) : False := by
  have hs := set_jobs hv
  have hil : i < ts.length := (List.getElem?_eq_some_iff.1 hi).1
  have hok := tk_nums (set_ok hs (get_mem hi))
  have hle := h.le
  have hmt : t0 + R ≤ t := by omega
  have hw := fp_work hv (m := t0 + R) (Nat.le_of_lt hil) h.len (by rw [h.ta]; omega) (Nat.le_add_right _ _) (fun u h1 h2 => h.runs hv u h1 (by omega)) (fun _ => ((t0 + R : Nat) : Int)) (fun j => if 0 ≤ (tkOf ts (j : Int)).lo then (tkOf ts (j : Int)).lo else 0) (fun j => by split <;> omega) (fun q j hq hqj hj => by
    have hlo : 0 ≤ (tkOf ts (j : Int)).lo := by
      obtain ⟨u, hu⟩ : ∃ u, ts[j]? = some u := ⟨_, List.getElem?_eq_getElem (by omega)⟩
      rw [tkOf_get hu]; have := tk_nums (set_ok hs (get_mem hu)); omega
    rw [if_pos hlo]
    by_cases e1 : (t0 : Int) ≤ (jobOf js q).tm
    · rw [g_zero hv hq e1]
      by_cases e2 : (jobOf js q).tm < ((t0 + R : Nat) : Int)
      · rw [if_pos ⟨e1, e2⟩]
        have := g_low hv hq e1 (t0 + R) fun u h1 h2 => hlow u h1 (by omega)
        unfold tkJ at this
        rw [hqj] at this
        omega
      · rw [if_neg (fun e => e2 e.2), g_zero hv hq (by omega)]; omega
    · rw [h.before hv (by omega) (by omega) (Nat.le_add_right _ _), if_neg (fun e => e1 e.1)]; omega)
  rw [h.zero hv] at hw
  have hd := sum_tasks (ts := ts) (fun u => dmd u R false) (Nat.le_of_lt hil)
  have hsum : sumZ (fun j => if (t0 : Int) < ((t0 + R : Nat) : Int) then (((t0 + R : Nat) : Int) - t0 + (tkOf ts (j : Int)).ev - 1) / (tkOf ts (j : Int)).ev * (if 0 ≤ (tkOf ts (j : Int)).lo then (tkOf ts (j : Int)).lo else 0) else 0) i ≤ ((dLow (ts.take i) R : Nat) : Int) := by
    unfold dLow
    rw [hd]
    refine sumZ_le fun j hj => ?_
    obtain ⟨u, hu⟩ : ∃ u, ts[j]? = some u := ⟨_, List.getElem?_eq_getElem (by omega)⟩
    try dsimp only
    rw [tkOf_get hu]
    have hu2 := tk_nums (set_ok hs (get_mem hu))
    unfold dmd
    simp only [Bool.false_eq_true, if_false]
    rw [dem_castI (by omega) (by omega)]
    split
    · rw [if_pos (by omega)]
      rw [show ((t0 + R : Nat) : Int) - t0 = (R : Int) by omega]
      exact Int.le_refl _
    · exact Int.mul_nonneg (Int.ediv_nonneg (by omega) (by omega)) (by omega)
  have hk : gN ts js p (t0 + R) k < tk.lo := by
    by_cases e : a < t0 + R
    · have ho := opn_of_lft hv (lft_since hv h.left (u := t0 + R) (by rw [h.tm]; omega) hmt)
      have := (opn_g hv ho).2.2.2 (hlow _ (by omega) (Nat.le_refl _))
      unfold tkJ at this
      rw [h.ta, tkOf_get hi] at this
      exact this
    · rw [g_zero hv h.len (by rw [h.tm]; omega)]; omega
  have hR' : tk.lo + ((dLow (ts.take i) R : Nat) : Int) ≤ (R : Int) := by omega
  omega
/-- A critical job is not left longer than the bound at the switch. -/
theorem fp_swi (hv : jobsB ts js = true) {i k t0 a t R W : Nat} {tk : Tk} (h : FpAt ts js p i k t0 a t) (hi : ts[i]? = some tk) (hR : tk.lo.toNat + dLow (ts.take i) R ≤ R) (hRW : R ≤ W) (hW : tk.hi.toNat + dSwi (ts.take i) R W ≤ W) (ht : a + W ≤ t) : False := by
  have hs := set_jobs hv
  have hil : i < ts.length := (List.getElem?_eq_some_iff.1 hi).1
  have hok := tk_nums (set_ok hs (get_mem hi))
  have hle := h.le
  have hmt : t0 + W ≤ t := by omega
  by_cases hlow : ∀ u, t0 ≤ u → u ≤ t0 + R → hiN ts js p u = false
  · exact fp_low hv h hi hR (by omega) hlow
  -- the first time at which needs are high
  obtain ⟨s, hs1, hs2, hs3, hs4⟩ : ∃ s, t0 ≤ s ∧ s ≤ t0 + R ∧ hiN ts js p s = true ∧ ∀ u, t0 ≤ u → u < s → hiN ts js p u = false := by
    have hex : ∃ d, d ≤ R ∧ hiN ts js p (t0 + d) = true := by
      by_cases hx : ∃ d, d ≤ R ∧ hiN ts js p (t0 + d) = true
      · exact hx
      · exfalso
        refine hlow fun u h1 h2 => ?_
        cases hh : hiN ts js p u
        · rfl
        · exact absurd ⟨u - t0, by omega, by rw [show t0 + (u - t0) = u by omega]; exact hh⟩ hx
    have key : ∀ d, d ≤ R → hiN ts js p (t0 + d) = true → ∃ s, t0 ≤ s ∧ s ≤ t0 + R ∧ hiN ts js p s = true ∧ ∀ u, t0 ≤ u → u < s → hiN ts js p u = false := by
      intro d
      induction d using Nat.strongRecOn with
      | _ d ih =>
        intro h1 h2
        by_cases hx : ∃ e, e < d ∧ hiN ts js p (t0 + e) = true
        · obtain ⟨e, e1, e2⟩ := hx
          exact ih e e1 (by omega) e2
        · refine ⟨t0 + d, by omega, by omega, h2, fun u u1 u2 => ?_⟩
          cases hh : hiN ts js p u
          · rfl
          · exact absurd ⟨u - t0, by omega, by rw [show t0 + (u - t0) = u by omega]; exact hh⟩ hx
    obtain ⟨d, h1, h2⟩ := hex
    exact key d h1 h2
  have hst := h.stays hv hs1 hs3
  have hw := fp_work hv (m := t0 + W) (Nat.le_of_lt hil) h.len (by rw [h.ta]; omega) (Nat.le_add_right _ _) (fun u h1 h2 => h.runs hv u h1 (by omega)) (fun j => if (tkOf ts (j : Int)).cr then ((t0 + W : Nat) : Int) else (s : Int)) (fun j => if 0 ≤ (tkOf ts (j : Int)).hi then (tkOf ts (j : Int)).hi else 0) (fun j => by split <;> omega) (fun q j hq hqj hj => by
    have hhi : 0 ≤ (tkOf ts (j : Int)).hi := by
      obtain ⟨u, hu⟩ : ∃ u, ts[j]? = some u := ⟨_, List.getElem?_eq_getElem (by omega)⟩
      rw [tkOf_get hu]; have := tk_nums (set_ok hs (get_mem hu)); omega
    rw [if_pos hhi]
    have hq6 := (job_ok hv hq).2.2.2.2.2.1
    have hqt : tkJ ts js q = tkOf ts (j : Int) := by unfold tkJ; rw [hqj]
    rw [hqt] at hq6
    by_cases e1 : (t0 : Int) ≤ (jobOf js q).tm
    · rw [g_zero hv hq e1]
      have hle := g_le (p := p) hv hq (t0 + W)
      cases hc : (tkOf ts (j : Int)).cr
      · simp only [Bool.false_eq_true, if_false]
        have hgh := g_high hv (k := q) (s := s) (by rw [hqt]; exact hc) (t0 + W) (by omega) fun u h1 h2 => hst u h1 (by omega)
        by_cases e2 : (jobOf js q).tm < (s : Int)
        · rw [if_pos ⟨e1, e2⟩]; omega
        · rw [if_neg (fun e => e2 e.2), hgh, g_zero hv hq (by omega)]; omega
      · simp only [if_true]
        by_cases e2 : (jobOf js q).tm < ((t0 + W : Nat) : Int)
        · rw [if_pos ⟨e1, e2⟩]; omega
        · rw [if_neg (fun e => e2 e.2), g_zero hv hq (by omega)]; omega
    · rw [h.before hv (by omega) (by omega) (Nat.le_add_right _ _), if_neg (fun e => e1 e.1)]; omega)
  rw [h.zero hv] at hw
  have hd := sum_tasks (ts := ts) (dmS R W) (Nat.le_of_lt hil)
  have hsum : sumZ (fun j => if (t0 : Int) < (if (tkOf ts (j : Int)).cr then ((t0 + W : Nat) : Int) else (s : Int)) then ((if (tkOf ts (j : Int)).cr then ((t0 + W : Nat) : Int) else (s : Int)) - t0 + (tkOf ts (j : Int)).ev - 1) / (tkOf ts (j : Int)).ev * (if 0 ≤ (tkOf ts (j : Int)).hi then (tkOf ts (j : Int)).hi else 0) else 0) i ≤ ((dSwi (ts.take i) R W : Nat) : Int) := by
    unfold dSwi
    rw [hd]
    refine sumZ_le fun j hj => ?_
    obtain ⟨u, hu⟩ : ∃ u, ts[j]? = some u := ⟨_, List.getElem?_eq_getElem (by omega)⟩
    try dsimp only
    rw [tkOf_get hu]
    have hu2 := tk_nums (set_ok hs (get_mem hu))
    unfold dmS dmd
    cases hc : u.cr
    · simp only [Bool.false_eq_true, if_false]
      rw [dem_castI (by omega) (by omega), ← hu2.2.2.2.2.2 hc, if_pos (show 0 ≤ u.lo by omega)]
      split
      · refine Int.mul_le_mul_of_nonneg_right (Int.ediv_le_ediv (by omega) (by omega)) (by omega)
      · exact Int.mul_nonneg (Int.ediv_nonneg (by omega) (by omega)) (by omega)
    · simp only [if_true]
      rw [dem_castI (by omega) (by omega), if_pos (show 0 ≤ u.hi by omega)]
      split
      · rw [show ((t0 + W : Nat) : Int) - t0 = (W : Int) by omega]
        exact Int.le_refl _
      · exact Int.mul_nonneg (Int.ediv_nonneg (by omega) (by omega)) (by omega)
  have hk : gN ts js p (t0 + W) k < tk.hi := by
    have h6 := (job_ok hv h.len).2.2.2.2.2.1
    unfold tkJ at h6
    rw [h.ta, tkOf_get hi] at h6
    by_cases e : a < t0 + W
    · have ho := opn_of_lft hv (lft_since hv h.left (u := t0 + W) (by rw [h.tm]; omega) hmt)
      have := (opn_g hv ho).2.1
      omega
    · rw [g_zero hv h.len (by rw [h.tm]; omega)]; omega
  have hW' : tk.hi + ((dSwi (ts.take i) R W : Nat) : Int) ≤ (W : Int) := by omega
  omega
end
end
section
open Go.RowKit
set_option linter.unusedVariables false
section
variable {ts : List Tk} {js : List Jb} {p : Po}
theorem bound_all (hv : jobsB ts js = true) (hd : p.due = false) (b : Nat → Nat) (hb : ∀ i tk, ts[i]? = some tk → (b i : Int) ≤ tk.ev)
    (hstep : ∀ i k t0 a t tk, ts[i]? = some tk → FpAt ts js p i k t0 a t → a + b i ≤ t → False) :
    ∀ k t, lft ts js p t k → (t : Int) < (jobOf js k).tm + b (jobOf js k).ta.toNat := by
  intro k
  induction k using Nat.strongRecOn with
  | _ k ih =>
    intro t hl
    obtain ⟨hk, htm⟩ := lft_len hv hl
    obtain ⟨a1, a2, a3, a4, a5, a6, a7, a8⟩ := job_ok hv hk
    obtain ⟨i, hi⟩ := Int.eq_ofNat_of_zero_le a4
    obtain ⟨a, ha⟩ := Int.eq_ofNat_of_zero_le a2
    have hil : i < ts.length := by omega
    have hti : ts[i]? = some ts[i] := List.getElem?_eq_getElem hil
    rw [hi, ha, Int.toNat_natCast]
    rcases Int.lt_or_le (t : Int) ((a : Int) + b i) with h | h
    · exact h
    · exfalso
      obtain ⟨t0, h1, h2, h3⟩ := busy_from (p := p) hv (fun q => (jobOf js q).ta < (i : Int)) a
      refine hstep i k t0 a t _ hti ⟨hd, hk, hi, ha, h1, by omega, hl, h2, h3, fun c hc hci hca hlc => ?_⟩ (by omega)
      have hck : c < k := by
        rcases Nat.lt_or_ge c k with hh | hh
        · exact hh
        · have := tm_mono hv hh hc; omega
      have h5 := ih c hck a hlc
      rw [hci, Int.toNat_natCast] at h5
      have h6 := tm_far hv hck hk (by rw [hci, hi])
      have h7 := hb i _ hti
      unfold tkJ at h6
      rw [hi, tkOf_get hti] at h6
      omega
theorem resp_parts {i R : Nat} {tk : Tk} (hs : setB ts = true) (hi : ts[i]? = some tk) (h : rLow ts i = some R) : tk.lo.toNat + dLow (ts.take i) R ≤ R ∧ R ≤ tk.du.toNat := by
  rw [rLow_at hs hi] at h
  obtain ⟨_, h2, h3, _⟩ := least_some.1 h
  exact ⟨h3, h2⟩
/-- In both modes. -/
theorem both_all (hv : jobsB ts js = true) (hd : p.due = false) (b : Nat → Nat) (hb : ∀ i tk, ts[i]? = some tk → (if tk.cr then rSwi ts i else rLow ts i) = some (b i)) :
    ∀ k t, lft ts js p t k → (t : Int) < (jobOf js k).tm + b (jobOf js k).ta.toNat := by
  have hs := set_jobs hv
  refine bound_all hv hd b (fun i tk hi => ?_) fun i k t0 a t tk hi h ht => ?_
  · have hx := hb i tk hi
    have hok := tk_nums (set_ok hs (get_mem hi))
    by_cases hc : tk.cr = true
    · rw [if_pos hc] at hx
      obtain ⟨_, t', l, h1, _, h3, h4⟩ := rSwi_some hx
      rw [hi] at h1
      obtain rfl := Option.some.inj h1
      have := (swi_fix h4).2.2.1
      omega
    · rw [if_neg hc] at hx
      have := (resp_parts hs hi hx).2
      omega
  · have hx := hb i tk hi
    by_cases hc : tk.cr = true
    · rw [if_pos hc] at hx
      obtain ⟨_, t', l, h1, _, h3, h4⟩ := rSwi_some hx
      rw [hi] at h1
      obtain rfl := Option.some.inj h1
      obtain ⟨l', r, e1, _, e2, _⟩ := swi_longest hx
      rw [h3] at e1
      obtain rfl := Option.some.inj e1
      have h5 := (swi_fix h4).1
      exact fp_swi hv h hi (resp_parts hs hi h3).1 e2 (by omega) ht
    · rw [if_neg hc] at hx
      refine fp_low hv h hi (resp_parts hs hi hx).1 ht fun u h1 h2 => ?_
      cases hh : hiN ts js p u
      · rfl
      · exfalso
        have hle := h.le
        have h3 := h.stays hv h1 hh t (by omega) (Nat.le_refl _)
        have h4 := (opn_g hv (opn_of_lft hv h.left)).2.2.1 h3
        unfold tkJ at h4
        rw [h.ta, tkOf_get hi] at h4
        exact hc h4
/-- What stands among the ends after a tick. -/
theorem en_next (hv : jobsB ts js = true) (n k : Nat) (hk : k < js.length) : (runM ts js p (n + 1)).en[k]? = some (-1) ∨ (runM ts js p (n + 1)).en[k]? = some (-2) ∨ (runM ts js p (n + 1)).en[k]? = (runM ts js p n).en[k]? ∨ ((runM ts js p (n + 1)).en[k]? = some ((n : Int) + 1) ∧ chN ts js p n = some k ∧ gN ts js p (n + 1) k = (jobOf js k).ne) := by
  obtain ⟨o1, o2, o3⟩ := open_at (p := p) hv n
  have hopen : (openN ts js p n).en[k]? = some (-1) ∨ (openN ts js p n).en[k]? = some (-2) ∨ (openN ts js p n).en[k]? = (runM ts js p n).en[k]? := by
    by_cases h1 : k < (lowM (runM ts js p n)).nx
    · exact .inr (.inr (o2.old k h1))
    · by_cases h2 : k < (openN ts js p n).nx
      · rcases (o2.mid k (by omega) h2).2 with h | ⟨h, _⟩
        · exact .inl h
        · exact .inr (.inl h)
      · exact .inl ((o1.new k (by omega)).2 hk)
  cases hc : chN ts js p n with
  | none =>
    rw [tick_idle hc]
    rcases hopen with h | h | h
    · exact .inl h
    · exact .inr (.inl h)
    · exact .inr (.inr (.inl h))
  | some c =>
    obtain ⟨b, d, e1, e2, hcl, ⟨x, s, e⟩ | ⟨x, s, e⟩ | ⟨x, s, e⟩⟩ := close_cases hv hc
    · rw [e]
      by_cases hkc : k = c
      · subst hkc
        refine .inr (.inr (.inr ⟨?_, rfl, x.symm⟩))
        show ((openN ts js p n).en.set k ((n : Int) + 1))[k]? = _
        rw [List.getElem?_set, if_pos rfl, if_pos (by rw [o1.enl]; exact hk)]
      · have e' : ((openN ts js p n).en.set c ((n : Int) + 1))[k]? = (openN ts js p n).en[k]? := by rw [List.getElem?_set, if_neg (fun h => hkc h.symm)]
        rcases hopen with h | h | h
        · exact .inl (e'.trans h)
        · exact .inr (.inl (e'.trans h))
        · exact .inr (.inr (.inl (e'.trans h)))
    · rw [e]
      have e' := drop_get' ts js k ((openN ts js p n).wk.set b (c, d + 1)) (openN ts js p n).en (by rw [o1.enl]; exact hk)
      show (dropE ts js (openN ts js p n).en ((openN ts js p n).wk.set b (c, d + 1)))[k]? = _ ∨ (dropE ts js (openN ts js p n).en ((openN ts js p n).wk.set b (c, d + 1)))[k]? = _ ∨ (dropE ts js (openN ts js p n).en ((openN ts js p n).wk.set b (c, d + 1)))[k]? = _ ∨ ((dropE ts js (openN ts js p n).en ((openN ts js p n).wk.set b (c, d + 1)))[k]? = _ ∧ _)
      rw [e']
      split
      · exact .inr (.inl rfl)
      · rcases hopen with h | h | h
        · exact .inl h
        · exact .inr (.inl h)
        · exact .inr (.inr (.inl h))
    · rw [e]
      rcases hopen with h | h | h
      · exact .inl h
      · exact .inr (.inl h)
      · exact .inr (.inr (.inl h))
/-- A job that ended ran just before. -/
theorem ended_at (hv : jobsB ts js = true) : ∀ (n k : Nat) (e : Int), (runM ts js p n).en[k]? = some e → e ≠ -1 → e ≠ -2 → ∃ u : Nat, u < n ∧ e = (u : Int) + 1 ∧ chN ts js p u = some k ∧ gN ts js p (u + 1) k = (jobOf js k).ne
  | 0, k, e, h, h1, h2 => by
    have : (List.replicate js.length (-1 : Int))[k]? = some e := h
    rw [List.getElem?_replicate] at this
    split at this
    · exact absurd (Option.some.inj this).symm h1
    · cases this
  | n + 1, k, e, h, h1, h2 => by
    have hk : k < js.length := by
      have := (run_at (p := p) hv (n + 1)).1.enl
      rcases Nat.lt_or_ge k js.length with hh | hh
      · exact hh
      · rw [List.getElem?_eq_none (by omega)] at h; cases h
    rcases en_next (p := p) hv n k hk with h' | h' | h' | ⟨h', h3, h4⟩
    · rw [h] at h'; exact absurd (Option.some.inj h') h1
    · rw [h] at h'; exact absurd (Option.some.inj h') h2
    · rw [h] at h'
      obtain ⟨u, u1, u2⟩ := ended_at hv n k e h'.symm h1 h2
      exact ⟨u, by omega, u2⟩
    · rw [h] at h'
      exact ⟨n, Nat.lt_succ_self _, Option.some.inj h', h3, h4⟩
/-- Whether a job is late at the end of a run of n ticks. -/
def lateB (du : Int) (tm e n : Int) : Bool := decide (tm + du < e) || (decide (e = -1) && decide (tm + du ≤ n))
/-- If no job is left longer than a bound, none ended later. -/
theorem ended_le (hv : jobsB ts js = true) {k : Nat} {B : Int} (hB : 1 ≤ B) (h : ∀ t, lft ts js p t k → (t : Int) < (jobOf js k).tm + B) {n : Nat} {e : Int} (he : (runM ts js p n).en[k]? = some e) : e ≤ (jobOf js k).tm + B ∨ e = -1 ∨ e = -2 := by
  by_cases h1 : e = -1
  · exact .inr (.inl h1)
  by_cases h2 : e = -2
  · exact .inr (.inr h2)
  obtain ⟨u, _, e1, e2, _⟩ := ended_at hv n k e he h1 h2
  rcases (opn_iff hv).1 (ch_some hv e2).1 with hl | ⟨_, ht, _⟩
  · have := h u hl; omega
  · omega
theorem left_of (hv : jobsB ts js = true) {n k : Nat} (hk : k < js.length) (he : (runM ts js p n).en[k]? = some (-1)) (ht : (jobOf js k).tm < n) : lft ts js p n k := by
  obtain ⟨i1, i2⟩ := run_at (p := p) hv n
  obtain ⟨q, hq, e⟩ := i1.left k ((i2 k hk).2 ht) he
  exact ⟨q, hq, e⟩
theorem not_late (hv : jobsB ts js = true) {k : Nat} (hk : k < js.length) (h : ∀ t, lft ts js p t k → (t : Int) < (jobOf js k).tm + (tkJ ts js k).du) {n : Nat} {e : Int} (he : (runM ts js p n).en[k]? = some e) : lateB (tkJ ts js k).du (jobOf js k).tm e n = false := by
  have hok := tk_nums (job_ok hv hk).2.2.2.2.2.2.2
  have htm := (job_ok hv hk).2.1
  cases hx : lateB (tkJ ts js k).du (jobOf js k).tm e n
  · rfl
  · exfalso
    unfold lateB at hx
    simp at hx
    rcases hx with hx | ⟨rfl, hx⟩
    · rcases ended_le hv (by omega) h he with h1 | h1 | h1 <;> omega
    · have := h n (left_of hv hk he (by omega))
      omega
end
end
section
open Go.RowKit
set_option linter.unusedVariables false
section
variable {ts : List Tk} {js : List Jb} {p : Po}
theorem en_get {n k : Nat} (hv : jobsB ts js = true) (hk : k < js.length) : (runM ts js p n).en[k]? = some ((runM ts js p n).en.getD k 0) := by
  have h := (run_at (p := p) hv n).1.enl
  rw [List.getElem?_eq_getElem (by omega)]
  simp [List.getD, List.getElem?_eq_getElem (show k < (runM ts js p n).en.length by omega)]
theorem tr_len (hv : jobsB ts js = true) : ∀ n, (runM ts js p n).tr.length = n
  | 0 => rfl
  | n + 1 => by rw [tr_next hv, List.length_append, tr_len hv n]; rfl
end
end
end Go.Proofs.YtgponahmkjohiabGreatDoor
