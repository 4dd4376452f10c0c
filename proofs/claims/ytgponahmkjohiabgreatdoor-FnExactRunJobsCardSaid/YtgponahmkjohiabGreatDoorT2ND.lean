import Derived.RegionTactic
import Derived.ChangeAlike
import Derived.ScopeJumps
import Derived.WalkMore
import Derived.Shelf.Abstract
import Derived.Deep.RegionHeld3
import Derived.Test.YtgponahmkjohiabGreatDoorT2NA
namespace Go.Proofs.YtgponahmkjohiabGreatDoor
section
open Go.RowKit
set_option linter.unusedVariables false
/-- A job as plain data. -/
structure Jb where
  ta : Int
  tm : Int
  ne : Int
theorem Jb.eq_of {a b : Jb} (h1 : a.ta = b.ta) (h2 : a.tm = b.tm) (h3 : a.ne = b.ne) : a = b := by
  cases a; cases b; simp_all
def tk0 : Tk := ⟨0, 0, 0, 0, false⟩
def tkOf (ts : List Tk) (z : Int) : Tk := ts.getD z.toNat tk0
def jobB (ts : List Tk) (j : Jb) : Bool := decide (0 ≤ j.ta) && (decide (j.ta < (ts.length : Int)) && (decide (0 ≤ j.tm) && (decide (j.tm ≤ 200) && (decide (1 ≤ j.ne) && decide (j.ne ≤ (tkOf ts j.ta).hi)))))
def befB (a b : Jb) : Bool := decide (a.tm < b.tm) || (decide (a.tm = b.tm) && decide (a.ta < b.ta))
def farB (ts : List Tk) (a b : Jb) : Bool := befB a b && (!decide (a.ta = b.ta) || decide ((tkOf ts b.ta).ev ≤ b.tm - a.tm))
def pairB (ts : List Tk) : List Jb → Bool
  | [] => true
  | j :: js => js.all (farB ts j) && pairB ts js
def jobsB (ts : List Tk) (js : List Jb) : Bool := setB ts && (decide (js.length ≤ 60) && (js.all (jobB ts) && pairB ts js))
/-- Whether the numbers of a job can be written. -/
def wrB (j : Jb) : Bool := decide (0 ≤ j.ta) && (decide (j.ta < 5) && (decide (0 ≤ j.tm) && (decide (j.tm ≤ 200) && (decide (1 ≤ j.ne) && decide (j.ne ≤ 20)))))
def wrsB (js : List Jb) : Bool := decide (js.length ≤ 60) && js.all wrB
/-- When the last job of a task came. -/
def lastAt (js : List Jb) (k : Int) : Int := js.foldl (fun a j => if j.ta = k then j.tm else a) (-20)
theorem snoc_ind {α : Type} {P : List α → Prop} (h0 : P []) (h1 : ∀ l a, P l → P (l ++ [a])) (l : List α) : P l := by
  have : ∀ m : List α, P m.reverse := fun m => by
    induction m with
    | nil => exact h0
    | cons a m ih => rw [List.reverse_cons]; exact h1 _ _ ih
  have e := this l.reverse
  rwa [List.reverse_reverse] at e
theorem jobB_iff {ts : List Tk} {j : Jb} : jobB ts j = true ↔ 0 ≤ j.ta ∧ j.ta < (ts.length : Int) ∧ 0 ≤ j.tm ∧ j.tm ≤ 200 ∧ 1 ≤ j.ne ∧ j.ne ≤ (tkOf ts j.ta).hi := by unfold jobB; simp
theorem befB_iff {a b : Jb} : befB a b = true ↔ a.tm < b.tm ∨ (a.tm = b.tm ∧ a.ta < b.ta) := by unfold befB; simp
theorem farB_iff {ts : List Tk} {a b : Jb} : farB ts a b = true ↔ (a.tm < b.tm ∨ (a.tm = b.tm ∧ a.ta < b.ta)) ∧ (a.ta = b.ta → (tkOf ts b.ta).ev ≤ b.tm - a.tm) := by
  unfold farB
  rw [Bool.and_eq_true, befB_iff]
  by_cases h : a.ta = b.ta <;> simp [h]
theorem wrB_iff {j : Jb} : wrB j = true ↔ 0 ≤ j.ta ∧ j.ta < 5 ∧ 0 ≤ j.tm ∧ j.tm ≤ 200 ∧ 1 ≤ j.ne ∧ j.ne ≤ 20 := by unfold wrB; simp
theorem bef_trans {a b c : Jb} (h1 : befB a b = true) (h2 : befB b c = true) : befB a c = true := by
  rw [befB_iff] at *; omega
theorem pairB_iff {ts : List Tk} : ∀ {js : List Jb}, pairB ts js = true ↔ js.Pairwise (fun a b => farB ts a b = true)
  | [] => by simp [pairB]
  | j :: js => by rw [pairB, Bool.and_eq_true, List.all_eq_true, pairB_iff, List.pairwise_cons]
theorem pair_snoc {ts : List Tk} {js : List Jb} {j : Jb} : pairB ts (js ++ [j]) = true ↔ pairB ts js = true ∧ ∀ a ∈ js, farB ts a j = true := by
  rw [pairB_iff, pairB_iff, List.pairwise_append]
  simp
theorem lastAt_snoc (js : List Jb) (j : Jb) (k : Int) : lastAt (js ++ [j]) k = if j.ta = k then j.tm else lastAt js k := by unfold lastAt; rw [List.foldl_append]; rfl
theorem lastAt_mem : ∀ (js : List Jb) (k : Int), (∃ j ∈ js, j.ta = k ∧ lastAt js k = j.tm) ∨ ((∀ j ∈ js, ¬ j.ta = k) ∧ lastAt js k = -20) := by
  intro js k
  refine snoc_ind (P := fun js => (∃ j ∈ js, j.ta = k ∧ lastAt js k = j.tm) ∨ ((∀ j ∈ js, ¬ j.ta = k) ∧ lastAt js k = -20)) (.inr ⟨by simp, rfl⟩) (fun js j ih => ?_) js
  · skip
    rw [lastAt_snoc]
    by_cases h : j.ta = k
    · exact .inl ⟨j, by simp, h, by rw [if_pos h]⟩
    · rw [if_neg h]
      rcases ih with ⟨a, ha, h1, h2⟩ | ⟨h1, h2⟩
      · exact .inl ⟨a, by simp [ha], h1, h2⟩
      · exact .inr ⟨fun a ha => by
          rcases List.mem_append.1 ha with ha | ha
          · exact h1 a ha
          · rw [List.mem_singleton.1 ha]; exact h, h2⟩
/-- In jobs that are in order the last of a task came latest. -/
theorem lastAt_ge {ts : List Tk} {js : List Jb} (hp : pairB ts js = true) {a : Jb} (ha : a ∈ js) : a.tm ≤ lastAt js a.ta := by
  revert ha hp
  refine snoc_ind (P := fun js => pairB ts js = true → a ∈ js → a.tm ≤ lastAt js a.ta) (fun _ ha => by simp at ha) (fun js j ih => ?_) js
  · intro hp ha
    obtain ⟨h1, h2⟩ := pair_snoc.1 hp
    rw [lastAt_snoc]
    rcases List.mem_append.1 ha with h | h
    · split
      · have := (farB_iff.1 (h2 a h)).1; omega
      · exact ih h1 h
    · rw [List.mem_singleton.1 h, if_pos rfl]; exact Int.le_refl _
theorem ev_of {ts : List Tk} (hs : setB ts = true) {z : Int} (h0 : 0 ≤ z) (h1 : z < (ts.length : Int)) : ∃ t, ts[z.toNat]? = some t ∧ tkOf ts z = t ∧ t ∈ ts ∧ t.ok = true := by
  have hk : z.toNat < ts.length := by omega
  refine ⟨ts[z.toNat], List.getElem?_eq_getElem hk, ?_, List.getElem_mem _, ?_⟩
  · unfold tkOf; simp [List.getD, List.getElem?_eq_getElem hk]
  · unfold setB at hs
    simp at hs
    exact hs.2 _ (List.getElem_mem _)
/-- Whether the next job fits behind valid ones, as one looks at it: it is a job, comes behind the one before, and far enough behind the last one of its task. -/
def nextB (ts : List Tk) (js : List Jb) (j : Jb) : Bool := jobB ts j && ((js.getLast?.map fun a => befB a j).getD true && decide ((tkOf ts j.ta).ev ≤ j.tm - lastAt js j.ta))
theorem next_iff {ts : List Tk} (hs : setB ts = true) {js : List Jb} {j : Jb} (hp : pairB ts js = true) : (jobB ts j = true ∧ ∀ a ∈ js, farB ts a j = true) ↔ nextB ts js j = true := by
  unfold nextB
  rw [Bool.and_eq_true, Bool.and_eq_true, decide_eq_true_iff]
  constructor
  · rintro ⟨hj, hall⟩
    refine ⟨hj, ?_, ?_⟩
    · rcases js.eq_nil_or_concat with rfl | ⟨l, a, rfl⟩
      · rfl
      · have := hall a (by simp)
        unfold farB at this
        rw [Bool.and_eq_true] at this
        simpa using this.1
    · obtain ⟨b1, b2, b3, _⟩ := jobB_iff.1 hj
      rcases lastAt_mem js j.ta with ⟨a, ha, e1, e2⟩ | ⟨_, e2⟩
      · rw [e2]; exact (farB_iff.1 (hall a ha)).2 e1
      · obtain ⟨t, _, e, _, hok⟩ := ev_of hs b1 b2
        rw [e2, e]
        unfold Tk.ok validB at hok
        simp at hok
        omega
  · rintro ⟨hj, h1, h2⟩
    refine ⟨hj, fun a ha => farB_iff.2 ⟨?_, fun e => ?_⟩⟩
    · rcases js.eq_nil_or_concat with rfl | ⟨l, b, rfl⟩
      · simp at ha
      · have hb : befB b j = true := by simpa using h1
        rcases List.mem_append.1 (by simpa using ha : a ∈ l ++ [b]) with h | h
        · have hp' := hp
          rw [List.concat_eq_append] at hp'
          have := (pair_snoc.1 hp').2 a h
          unfold farB at this
          rw [Bool.and_eq_true] at this
          exact befB_iff.1 (bef_trans this.1 hb)
        · rw [List.mem_singleton.1 h]; exact befB_iff.1 hb
    · have := lastAt_ge hp ha
      rw [e] at this
      omega
/-- Jobs up to a place: one more. -/
theorem jobs_step {ts : List Tk} (hs : setB ts = true) {js : List Jb} {j : Jb} (h : js.all (jobB ts) = true ∧ pairB ts js = true) : ((js ++ [j]).all (jobB ts) = true ∧ pairB ts (js ++ [j]) = true) ↔ nextB ts js j = true := by
  rw [← next_iff hs h.2, List.all_append, Bool.and_eq_true, pair_snoc]
  constructor
  · rintro ⟨⟨_, h2⟩, _, h3⟩
    exact ⟨by simpa using h2, h3⟩
  · rintro ⟨h1, h2⟩
    exact ⟨⟨h.1, by simpa using h1⟩, h.2, h2⟩
/-- What holds of all holds of the first ones. -/
theorem jobs_take {ts : List Tk} {js : List Jb} (k : Nat) (h : js.all (jobB ts) = true ∧ pairB ts js = true) : (js.take k).all (jobB ts) = true ∧ pairB ts (js.take k) = true := by
  refine ⟨?_, pairB_iff.2 ((pairB_iff.1 h.2).sublist (List.take_sublist _ _))⟩
  rw [List.all_eq_true] at *
  exact fun x hx => h.1 x (List.mem_of_mem_take hx)
end
section
open Go.RowKit
set_option linter.unusedVariables false
theorem jobs_parts {ts : List Tk} {js : List Jb} : jobsB ts js = true ↔ setB ts = true ∧ js.length ≤ 60 ∧ (js.all (jobB ts) = true ∧ pairB ts js = true) := by unfold jobsB; simp
theorem jobs_set {ts : List Tk} {js : List Jb} (h : jobsB ts js = true) : setB ts = true := (jobs_parts.1 h).1
theorem jobs_len {ts : List Tk} {js : List Jb} (h : jobsB ts js = true) : js.length ≤ 60 := (jobs_parts.1 h).2.1
theorem jobs_job {ts : List Tk} {js : List Jb} (h : jobsB ts js = true) {j : Jb} (hj : j ∈ js) : jobB ts j = true := List.all_eq_true.1 (jobs_parts.1 h).2.2.1 j hj
theorem jobs_wr {ts : List Tk} {j : Jb} (hs : setB ts = true) (h : jobB ts j = true) : wrB j = true := by
  obtain ⟨h1, h2, h3, h4, h5, h6⟩ := jobB_iff.1 h
  obtain ⟨t, _, e, ht, hok⟩ := ev_of hs h1 h2
  have h5' := setB_len hs
  rw [e] at h6
  unfold Tk.ok validB at hok
  simp at hok
  exact wrB_iff.2 ⟨h1, by omega, h3, h4, h5, by omega⟩
theorem jobs_wrs {ts : List Tk} {js : List Jb} (h : jobsB ts js = true) : wrsB js = true := by
  unfold wrsB
  simp only [Bool.and_eq_true, decide_eq_true_iff, List.all_eq_true]
  exact ⟨jobs_len h, fun j hj => jobs_wr (jobs_set h) (jobs_job h hj)⟩
theorem wrsB_iff {js : List Jb} : wrsB js = true ↔ js.length ≤ 60 ∧ ∀ j ∈ js, wrB j = true := by unfold wrsB; simp
end
section
open Go.RowKit
set_option linter.unusedVariables false
def ordJ : List Jb → Bool
  | [] => true
  | j :: js => js.all (befB j) && ordJ js
theorem ordJ_iff : ∀ {js : List Jb}, ordJ js = true ↔ js.Pairwise (fun a b => befB a b = true)
  | [] => by simp [ordJ]
  | j :: js => by rw [ordJ, Bool.and_eq_true, List.all_eq_true, ordJ_iff, List.pairwise_cons]
theorem pair_ord {ts : List Tk} {js : List Jb} (h : pairB ts js = true) : ordJ js = true := by
  rw [ordJ_iff]
  refine (pairB_iff.1 h).imp fun {a b} hab => ?_
  unfold farB at hab
  rw [Bool.and_eq_true] at hab
  exact hab.1
theorem ordJ_take {js : List Jb} (k : Nat) (h : ordJ js = true) : ordJ (js.take k) = true :=
  ordJ_iff.2 ((ordJ_iff.1 h).sublist (List.take_sublist _ _))
def lastBef (js : List Jb) (j : Jb) : Bool := (js.getLast?.map fun a => befB a j).getD true
theorem lastBef_snoc (js : List Jb) (a j : Jb) : lastBef (js ++ [a]) j = befB a j := by unfold lastBef; simp
theorem lastBef_at {js : List Jb} {k : Nat} {a j : Jb} (h : js[k]? = some a) : lastBef (js.take (k + 1)) j = befB a j := by
  rw [List.take_add_one, h]; exact lastBef_snoc _ _ _
theorem ordJ_snoc {js : List Jb} {j : Jb} (h : ordJ js = true) : ordJ (js ++ [j]) = true ↔ lastBef js j = true := by
  rw [ordJ_iff, List.pairwise_append]
  constructor
  · rintro ⟨_, _, h3⟩
    rcases js.eq_nil_or_concat with rfl | ⟨l, a, rfl⟩
    · rfl
    · rw [List.concat_eq_append, lastBef_snoc]
      exact h3 a (by simp) j (by simp)
  · intro hl
    refine ⟨ordJ_iff.1 h, by simp, fun a ha b hb => ?_⟩
    rw [List.mem_singleton.1 hb]
    rcases js.eq_nil_or_concat with rfl | ⟨l, z, rfl⟩
    · simp at ha
    · rw [List.concat_eq_append] at *
      rw [lastBef_snoc] at hl
      rcases List.mem_append.1 ha with ha | ha
      · exact bef_trans ((List.pairwise_append.1 (ordJ_iff.1 h)).2.2 a ha z (by simp)) hl
      · rw [List.mem_singleton.1 ha]; exact hl
/-- What one looks at while one goes through jobs: each is one, and behind the one before. -/
def seqB (ts : List Tk) (js : List Jb) : Bool := js.all (jobB ts) && ordJ js
theorem seq_parts {ts : List Tk} {js : List Jb} : seqB ts js = true ↔ js.all (jobB ts) = true ∧ ordJ js = true := by unfold seqB; rw [Bool.and_eq_true]
theorem seq_take {ts : List Tk} {js : List Jb} (k : Nat) (h : seqB ts js = true) : seqB ts (js.take k) = true := by
  rw [seq_parts] at *
  refine ⟨?_, ordJ_take k h.2⟩
  rw [List.all_eq_true] at *
  exact fun x hx => h.1 x (List.mem_of_mem_take hx)
theorem seq_step {ts : List Tk} {js : List Jb} {k : Nat} {j : Jb} (hj : js[k]? = some j) (h : seqB ts (js.take k) = true) : seqB ts (js.take (k + 1)) = (jobB ts j && lastBef (js.take k) j) := by
  rw [seq_parts] at h
  rw [List.take_add_one, hj, Option.toList_some, Bool.eq_iff_iff, seq_parts, Bool.and_eq_true, ordJ_snoc h.2, List.all_append, h.1]
  simp
theorem seq_bad {ts : List Tk} {js : List Jb} {k : Nat} {j : Jb} (hj : js[k]? = some j) (h : seqB ts (js.take k) = true) (hn : (jobB ts j && lastBef (js.take k) j) = false) : jobsB ts js = false := by
  cases hx : jobsB ts js
  · rfl
  · obtain ⟨h1, h2, h3, h4⟩ := jobs_parts.1 hx
    have := seq_take (k + 1) (seq_parts.2 ⟨h3, pair_ord h4⟩)
    rw [seq_step hj h, hn] at this
    cases this
/-- The first tick at which the next job of a task may come. -/
def earlAt (ts : List Tk) (js : List Jb) (k : Int) : Int := js.foldl (fun a j => if j.ta = k then j.tm + (tkOf ts k).ev else a) 0
theorem earl_snoc (ts : List Tk) (js : List Jb) (j : Jb) (k : Int) : earlAt ts (js ++ [j]) k = if j.ta = k then j.tm + (tkOf ts k).ev else earlAt ts js k := by unfold earlAt; rw [List.foldl_append]; rfl
theorem earl_last (ts : List Tk) (js : List Jb) (k : Int) : (earlAt ts js k = 0 ∧ lastAt js k = -20) ∨ (earlAt ts js k = lastAt js k + (tkOf ts k).ev ∧ ∃ j ∈ js, lastAt js k = j.tm) := by
  refine snoc_ind (P := fun js => (earlAt ts js k = 0 ∧ lastAt js k = -20) ∨ (earlAt ts js k = lastAt js k + (tkOf ts k).ev ∧ ∃ j ∈ js, lastAt js k = j.tm)) (.inl ⟨rfl, rfl⟩) (fun js j ih => ?_) js
  rw [earl_snoc, lastAt_snoc]
  by_cases h : j.ta = k
  · rw [if_pos h, if_pos h]; exact .inr ⟨rfl, j, by simp, rfl⟩
  · rw [if_neg h, if_neg h]
    rcases ih with ih | ⟨h1, a, ha, h2⟩
    · exact .inl ih
    · exact .inr ⟨h1, a, by simp [ha], h2⟩
theorem earl_ok {ts : List Tk} (hs : setB ts = true) {js : List Jb} {j : Jb} (hj : jobB ts j = true) : ((tkOf ts j.ta).ev ≤ j.tm - lastAt js j.ta) ↔ earlAt ts js j.ta ≤ j.tm := by
  obtain ⟨b1, b2, b3, _⟩ := jobB_iff.1 hj
  obtain ⟨t, _, e, _, hok⟩ := ev_of hs b1 b2
  have hev : 1 ≤ t.ev ∧ t.ev ≤ 20 := by unfold Tk.ok validB at hok; simp at hok; omega
  rcases earl_last ts js j.ta with ⟨h1, h2⟩ | ⟨h1, _⟩ <;> rw [e] at * <;> omega
/-- The numbers of the array stay small. -/
theorem earl_range {ts : List Tk} (hs : setB ts = true) {js : List Jb} (h : js.all (jobB ts) = true) {k : Int} (h0 : 0 ≤ k) (h1 : k < (ts.length : Int)) : 0 ≤ earlAt ts js k ∧ earlAt ts js k ≤ 220 := by
  obtain ⟨t, _, e, _, hok⟩ := ev_of hs h0 h1
  have hev : 1 ≤ t.ev ∧ t.ev ≤ 20 := by unfold Tk.ok validB at hok; simp at hok; omega
  rcases earl_last ts js k with ⟨h2, _⟩ | ⟨h2, j, hj, h3⟩
  · omega
  · have := jobB_iff.1 (List.all_eq_true.1 h j hj)
    rw [e] at h2
    omega
theorem dist_step {ts : List Tk} (hs : setB ts = true) {js : List Jb} {k : Nat} {j : Jb} (hq : seqB ts js = true) (hj : js[k]? = some j) (hp : pairB ts (js.take k) = true) : pairB ts (js.take (k + 1)) = decide (earlAt ts (js.take k) j.ta ≤ j.tm) := by
  obtain ⟨ha, ho⟩ := seq_parts.1 hq
  have hjb : jobB ts j = true := List.all_eq_true.1 ha j (List.mem_of_getElem? hj)
  have hat := (seq_parts.1 (seq_take k hq)).1
  have hbe : lastBef (js.take k) j = true := by
    have := seq_take (k + 1) hq
    rw [seq_step hj (seq_take k hq), Bool.and_eq_true] at this
    exact this.2
  have hstep := jobs_step (j := j) hs ⟨hat, hp⟩
  rw [List.take_add_one, hj, Option.toList_some, Bool.eq_iff_iff, decide_eq_true_iff, ← earl_ok hs hjb]
  constructor
  · intro h
    have h2 := hstep.1 ⟨by rw [List.all_append, hat]; simpa using hjb, h⟩
    unfold nextB at h2
    rw [Bool.and_eq_true, Bool.and_eq_true, decide_eq_true_iff] at h2
    exact h2.2.2
  · intro h
    refine (hstep.2 ?_).2
    unfold nextB
    rw [hjb, Bool.true_and, Bool.and_eq_true, decide_eq_true_iff]
    exact ⟨hbe, h⟩
theorem dist_bad {ts : List Tk} {js : List Jb} (k : Nat) (h : pairB ts (js.take k) = false) : pairB ts js = false := by
  cases hx : pairB ts js
  · rfl
  · rw [pairB_iff.2 ((pairB_iff.1 hx).sublist (List.take_sublist k js))] at h
    cases h
theorem seq_jobs {ts : List Tk} {js : List Jb} (hs : setB ts = true) (hl : js.length ≤ 60) (h : seqB ts js = true) : jobsB ts js = pairB ts js := by
  unfold jobsB
  rw [hs, decide_eq_true hl, (seq_parts.1 h).1]
  simp
/-- The array of the first ticks. -/
def earlV (ts : List Tk) (js : List Jb) : List Value := (List.range 5).map fun (i : Nat) => Value.int .i64 (earlAt ts js (i : Int))
theorem earl_get {ts : List Tk} {js : List Jb} {x : Nat} (h : x < 5) : ((earlV ts js).toArray)[x]? = some (.int .i64 (earlAt ts js (x : Int))) := by simp [earlV, h]
theorem earl_set {ts : List Tk} {js : List Jb} {x : Nat} {j : Jb} {z : Int} (h : x < 5) (hj : j.ta = (x : Int)) (hz : j.tm + (tkOf ts (x : Int)).ev = z) : (earlV ts js).toArray.setIfInBounds x (.int .i64 z) = (earlV ts (js ++ [j])).toArray := by
  subst hz
  unfold earlV
  simp only [List.setIfInBounds_toArray]
  congr 1
  refine List.ext_getElem? fun i => ?_
  rw [List.getElem?_set]
  by_cases hx : x = i
  · subst hx
    simp [h, earl_snoc, hj]
  · have : ¬ j.ta = (i : Int) := by omega
    by_cases hi : i < 5
    · simp [hi, hx, earl_snoc, this]
    · simp [hi, hx]
end
section
open Go.RowKit
set_option linter.unusedVariables false
def Jb.cells (j : Jb) : List Value := [.int .i64 j.ta, .int .i64 j.tm, .int .i64 j.ne]
theorem info_job : (Tryz.prog.info? 46).map (fun i => (i.zero, i.size, i.bytes)) = some (some (.agg #[.int .i64 0, .int .i64 0, .int .i64 0]), 3, 24) := by kernel_rfl
/-- At (b, o) lies the job j. -/
structure JbAt (w : World) (b o : Nat) (j : Jb) : Prop where
  c0 : w.cell? ⟨b, o, none⟩ = some (.int .i64 j.ta)
  c1 : w.cell? ⟨b, o + 1, none⟩ = some (.int .i64 j.tm)
  c2 : w.cell? ⟨b, o + 2, none⟩ = some (.int .i64 j.ne)
/-- The slice (A, n) reads as the jobs js; it lies below block B. -/
structure Jbs (w : World) (B : Nat) (A : Option Addr) (n : Nat) (js : List Jb) : Prop where
  len : js.length = n
  at_ : ∀ i j, js[i]? = some j → ∃ b o, A = some ⟨b, o, none⟩ ∧ b < B ∧ JbAt w b (o + i * 3) j
theorem JbAt.keep {w w' : World} {b o : Nat} {j : Jb} (h : JbAt w b o j) (hk : ∀ i, w'.cell? ⟨b, i, none⟩ = w.cell? ⟨b, i, none⟩) : JbAt w' b o j :=
  ⟨(hk _).trans h.c0, (hk _).trans h.c1, (hk _).trans h.c2⟩
theorem Jbs.keep {w w' : World} {B : Nat} {A : Option Addr} {n : Nat} {js : List Jb} (h : Jbs w B A n js) (hk : ∀ b i, b < B → w'.cell? ⟨b, i, none⟩ = w.cell? ⟨b, i, none⟩) : Jbs w' B A n js :=
  ⟨h.len, fun i j hj => by
    obtain ⟨b, o, e, hb, hc⟩ := h.at_ i j hj
    exact ⟨b, o, e, hb, hc.keep fun i => hk b i hb⟩⟩
theorem Jbs.below {w w' : World} {B : Nat} {A : Option Addr} {n : Nat} {js : List Jb} (h : Jbs w B A n js) (hb : Below B w w') : Jbs w' B A n js :=
  h.keep fun b i hbB => hb.cell (p := ⟨b, i, none⟩) hbB
theorem Jbs.more {w : World} {B B' : Nat} {A : Option Addr} {n : Nat} {js : List Jb} (h : Jbs w B A n js) (hB : B ≤ B') : Jbs w B' A n js :=
  ⟨h.len, fun i j hj => by
    obtain ⟨b, o, e, hb, hc⟩ := h.at_ i j hj
    exact ⟨b, o, e, by omega, hc⟩⟩
theorem Jbs.get {w : World} {B b o n : Nat} {js : List Jb} (h : Jbs w B (some ⟨b, o, none⟩) n js) {i : Nat} {j : Jb} (hj : js[i]? = some j) : b < B ∧ JbAt w b (o + i * 3) j := by
  obtain ⟨b', o', e, hb, hc⟩ := h.at_ i j hj
  injection e with e
  injection e with e1 e2
  subst e1 e2
  exact ⟨hb, hc⟩
theorem Jbs.take {w : World} {B : Nat} {A : Option Addr} {n k : Nat} {js : List Jb} (h : Jbs w B A n js) (hk : k ≤ n) : Jbs w B A k (js.take k) :=
  ⟨by rw [List.length_take, h.len]; omega, fun i j hj => h.at_ i j (by
    rw [List.getElem?_take] at hj
    split at hj
    · exact hj
    · cases hj)⟩
theorem Jbs.drop {w : World} {B b o : Nat} {n k m : Nat} {js : List Jb} (h : Jbs w B (some ⟨b, o, none⟩) n js) (hm : m = o + k * 3) : Jbs w B (some ⟨b, m, none⟩) (n - k) (js.drop k) :=
  ⟨by rw [List.length_drop, h.len], fun i j hj => by
    rw [List.getElem?_drop] at hj
    obtain ⟨hb, hc⟩ := h.get hj
    subst hm
    exact ⟨b, _, rfl, hb, by rw [show o + k * 3 + i * 3 = o + (k + i) * 3 by omega]; exact hc⟩⟩
theorem Jbs.nil (w : World) (B : Nat) (A : Option Addr) : Jbs w B A 0 [] := ⟨rfl, fun i j h => by simp at h⟩
/-- The slice value v is the call's own (a block from B on) and holds the jobs js. -/
def OwnJ (w : World) (B : Nat) (v : Value) (js : List Jb) : Prop := w.ownsRow B 46 3 v js.length (js.flatMap Jb.cells)
theorem jcells_get (ts : List Jb) : ∀ (i : Nat) (t : Jb), ts[i]? = some t → ∀ (j : Nat), j < 3 → (ts.flatMap Jb.cells)[i * 3 + j]? = t.cells[j]? := by
  induction ts with
  | nil => intro i t h; simp at h
  | cons a ts ih =>
    intro i t h j hj
    cases i with
    | zero =>
      simp at h
      subst h
      rw [List.flatMap_cons, List.getElem?_append_left (by simp [Jb.cells]; omega)]
      simp
    | succ i =>
      rw [List.flatMap_cons, List.getElem?_append_right (by simp [Jb.cells]; omega)]
      have e : (i + 1) * 3 + j - a.cells.length = i * 3 + j := by simp [Jb.cells]; omega
      rw [e]
      exact ih i t (by simpa using h) j hj
theorem OwnJ.reads {w : World} {B : Nat} {A : Option Addr} {n c : Nat} {ts : List Jb} (h : OwnJ w B (.slice A n c) ts) : n = ts.length ∧ Jbs w w.heap.size A n ts := by
  have hn : n = ts.length := by
    rcases h.2 with ⟨e, h0⟩ | ⟨g, cap, cur, e, _⟩
    · injection e; omega
    · injection e
  refine ⟨hn, hn.symm, fun i t ht => ?_⟩
  have hi : i < ts.length := (List.getElem?_eq_some_iff.1 ht).1
  rcases h.2 with ⟨e, h0⟩ | ⟨g, cap, cur, e, _, hg, _⟩
  · omega
  · injection e with e1 e2 e3
    subst e1
    have hlt : g < w.heap.size := by
      rcases Nat.lt_or_ge g w.heap.size with hlt | hge
      · exact hlt
      · rw [Array.getElem?_eq_none hge] at hg; cases hg
    have hc := h.cells (g := g) rfl
    have at_ : ∀ j u, j < 3 → t.cells[j]? = some u → w.cell? ⟨g, i * 3 + j, none⟩ = some u := by
      intro j u hj hu
      have := hc (i * 3 + j) u (by rw [jcells_get ts i t ht j hj]; exact hu)
      have ea : (⟨g, 0, none⟩ : Addr).add (i * 3 + j) = ⟨g, i * 3 + j, none⟩ := by unfold Addr.add; split <;> simp_all
      rwa [ea] at this
    refine ⟨g, 0, rfl, hlt, ?_⟩
    rw [Nat.zero_add]
    exact ⟨at_ 0 _ (by omega) rfl, at_ 1 _ (by omega) rfl, at_ 2 _ (by omega) rfl⟩
theorem OwnJ.kept {w w' : World} {B : Nat} {v : Value} {ts : List Jb} {row : Option Nat} (h : OwnJ w B v ts) (hg : w.grownBy w' row) (hr : ∀ k, row = some k → k < B) : OwnJ w' B v ts := by
  refine World.ownsRow.kept h hg ?_
  rcases he : v.ownBlock with _ | k
  · exact .inl rfl
  · right
    intro e
    have := (World.ownsRow.lt h k he).1
    have := hr k e.symm
    omega
theorem OwnJ.alloc {w : World} {B : Nat} {v : Value} {ts : List Jb} (h : OwnJ w B v ts) (o : Obj) : OwnJ (w.alloc o) B v ts := World.ownsRow.alloc h o
theorem OwnJ.form {w : World} {B : Nat} {v : Value} {ts : List Jb} (h : OwnJ w B v ts) : ∃ A c, v = .slice A ts.length c := by
  rcases h.2 with ⟨e, h0⟩ | ⟨g, cap, cur, e, _⟩
  · exact ⟨none, 0, by rw [e, h0]⟩
  · exact ⟨_, cap, e⟩
theorem OwnJ.le {w : World} {B c : Nat} {A : Option Addr} {zs : List Jb} (h : OwnJ w B (.slice A zs.length c) zs) : zs.length ≤ c := by
  rcases h.2 with ⟨e, h0⟩ | ⟨g, cap, cur, e, _, _, h1, h2, _⟩
  · omega
  · injection e with e1 e2 e3
    subst e3
    exact h1
theorem OwnJ.snoc {w : World} {B : Nat} {v : Value} {ts : List Jb} {t : Jb} (h : w.ownsRow B 46 3 v (ts.length + 1) (ts.flatMap Jb.cells ++ t.cells)) : OwnJ w B v (ts ++ [t]) := by
  unfold OwnJ
  rw [List.flatMap_append, List.length_append]
  simpa using h
theorem OwnJ.nil_ (w : World) (B : Nat) : OwnJ w B (.slice none 0 0) [] := ⟨rfl, .inl ⟨rfl, rfl⟩⟩
theorem OwnJ.empty (w : World) : OwnJ (w.alloc (.cells #[] 46)) w.heap.size (.slice (some ⟨w.heap.size, 0, none⟩) 0 0) [] :=
  ⟨rfl, .inr ⟨w.heap.size, 0, #[], rfl, Nat.le_refl _, heap_alloc_new w _, Nat.le_refl _, Nat.zero_le _, rfl, rfl⟩⟩
theorem OwnJ.below {w w' : World} {B : Nat} {v : Value} {ts : List Jb} (h : OwnJ w B v ts) (hb : Below w.heap.size w w') : OwnJ w' B v ts :=
  h.kept (row := none) ⟨hb.os, hb.tape, hb.output, hb.size, fun k hk _ => hb.block k hk⟩ (fun k e => by cases e)
theorem OwnJ.less {w : World} {B B' : Nat} {v : Value} {ts : List Jb} (h : OwnJ w B v ts) (hB : B' ≤ B) : OwnJ w B' v ts := by
  refine ⟨h.1, ?_⟩
  rcases h.2 with h | ⟨g, cap, cur, e, hb, rest⟩
  · exact .inl h
  · exact .inr ⟨g, cap, cur, e, Nat.le_trans hB hb, rest⟩
def Jb.val (j : Jb) : Value := .agg #[.int .i64 j.ta, .int .i64 j.tm, .int .i64 j.ne]
end
section
open Go.RowKit
set_option linter.unusedVariables false
theorem cell_new1_at (w : World) (z : Int) (ty : TypeId) (g : Nat) (hg : g = w.heap.size) : ∀ j u, ([Value.int .i64 z])[j]? = some u → (w.alloc (.cells #[.int .i64 z] ty)).cell? ((⟨g, 0, none⟩ : Addr).add j) = some u := by
  subst hg
  intro j u hj
  have ea : (⟨w.heap.size, 0, none⟩ : Addr).add j = ⟨w.heap.size, j, none⟩ := by unfold Addr.add; split <;> simp_all
  rw [ea, (Blk.new w ty _).cell j, ← hj]
  simp
end
section
open Go.RowKit
set_option linter.unusedVariables false
set_option maxHeartbeats 1000000 in
theorem iHas5_is (w : World) (A : Option Addr) (n c : Nat) (ts : List Tk) (a : Int) (h : Tks w w.heap.size A n ts) (hn : n ≤ 1048576) (b : Bool) (hb : (setB ts && (decide (0 ≤ a) && decide (a < (n : Int)))) = b) :
    Calls Tryz.prog 63 #[.slice A n c, .int .i64 a] w fun e w' => e = .returned (.bool b) ∧ Below w.heap.size w w' := by
  have H := Lib.hid h
  clear h
  cases hs : setB ts
  · subst hb
    go_enter Tryz.func63, Tryz.ntmps63
    go_wp2_with (go_at_call 53; refine (iSetValid_any _ A n c ts H.out hn).mono ?_; rintro e w2 ⟨rfl, hb2⟩)
    go_ret
    exact ⟨by simp [hs], hb2⟩
  rw [hs, Bool.true_and] at hb
  by_cases h0 : 0 ≤ a
  · by_cases h1 : a < (n : Int)
    · rw [decide_eq_true h0, decide_eq_true h1] at hb
      subst hb
      go_enter Tryz.func63, Tryz.ntmps63
      go_wp2_with (go_at_call 53; refine (iSetValid_any _ A n c ts H.out hn).mono ?_; rintro e w2 ⟨rfl, hb2⟩)
      go_ret
      exact ⟨by simp [*], hb2⟩
    · rw [decide_eq_true h0, decide_eq_false h1] at hb
      subst hb
      go_enter Tryz.func63, Tryz.ntmps63
      go_wp2_with (go_at_call 53; refine (iSetValid_any _ A n c ts H.out hn).mono ?_; rintro e w2 ⟨rfl, hb2⟩)
      go_ret
      exact ⟨by simp [*], hb2⟩
  · rw [decide_eq_false h0] at hb
    subst hb
    go_enter Tryz.func63, Tryz.ntmps63
    go_wp2_with (go_at_call 53; refine (iSetValid_any _ A n c ts H.out hn).mono ?_; rintro e w2 ⟨rfl, hb2⟩)
    go_ret
    exact ⟨by simp [*], hb2⟩
end
section
set_option linter.unusedVariables false
theorem set_ok {ts : List Tk} (h : setB ts = true) {t : Tk} (ht : t ∈ ts) : t.ok = true := by
  unfold setB at h
  rw [Bool.and_eq_true] at h
  exact List.all_eq_true.1 h.2 t ht
end
section
set_option linter.unusedVariables false
/-- A task with its high need alone. -/
def Tk.up (t : Tk) : Tk := ⟨t.hi, t.hi, t.du, t.ev, t.cr⟩
end
section
open Go.RowKit
set_option linter.unusedVariables false
theorem Tks.get {w : World} {B b o n : Nat} {ts : List Tk} (h : Tks w B (some ⟨b, o, none⟩) n ts) {i : Nat} {t : Tk} (ht : ts[i]? = some t) : b < B ∧ TkAt w b (o + i * 5) t := by
  obtain ⟨b', o', e, hb, hc⟩ := h.at_ i t ht
  injection e with e
  injection e with e1 e2
  subst e1 e2
  exact ⟨hb, hc⟩
end
section
open Go.RowKit
set_option linter.unusedVariables false
def jb0 : Jb := ⟨0, 0, 0⟩
def jobOf (js : List Jb) (k : Nat) : Jb := js.getD k jb0
def tkJ (ts : List Tk) (js : List Jb) (k : Nat) : Tk := tkOf ts (jobOf js k).ta
/-- The state between two ticks: when each job ended, which task ran, the switches, whether needs are high, the jobs that are left with the ticks that are done, how many came. -/
structure Mc where
  en : List Int
  tr : List Int
  sw : List Int
  hi : Bool
  wk : List (Nat × Int)
  nx : Nat
/-- By which order jobs run: by places or by deadlines, with a factor. -/
structure Po where
  due : Bool
  xn : Int
  xd : Int
def keyJ (ts : List Tk) (p : Po) (hi : Bool) (j : Jb) : Int :=
  if (tkOf ts j.ta).cr && !hi then j.tm * p.xd + p.xn * (tkOf ts j.ta).du else (j.tm + (tkOf ts j.ta).du) * p.xd
def placeB (a b : Jb) : Bool := decide (a.ta < b.ta) || (decide (a.ta = b.ta) && decide (a.tm < b.tm))
def firstB (ts : List Tk) (p : Po) (hi : Bool) (a b : Jb) : Bool :=
  if p.due then decide (keyJ ts p hi a < keyJ ts p hi b) || (decide (keyJ ts p hi a = keyJ ts p hi b) && placeB a b) else placeB a b
/-- The best of the first ones, by place in the list: that of 0 .. i. -/
def bestTo (lt : Nat → Nat → Bool) (ks : List Nat) : Nat → Nat
  | 0 => 0
  | i + 1 => if lt (ks.getD (i + 1) 0) (ks.getD (bestTo lt ks i) 0) then i + 1 else bestTo lt ks i
def oneM (ts : List Tk) (js : List Jb) (s : Mc) : Mc :=
  if s.hi && !(tkJ ts js s.nx).cr then { s with en := s.en.set s.nx (-2), nx := s.nx + 1 } else { s with wk := s.wk ++ [(s.nx, 0)], nx := s.nx + 1 }
def comeM (ts : List Tk) (js : List Jb) (now : Int) : Nat → Mc → Mc
  | 0, s => s
  | f + 1, s => if (jobOf js s.nx).tm = now then comeM ts js now f (oneM ts js s) else s
def dropE (ts : List Tk) (js : List Jb) (en : List Int) (wk : List (Nat × Int)) : List Int :=
  wk.foldl (fun e p => if (tkJ ts js p.1).cr then e else e.set p.1 (-2)) en
def swM (ts : List Tk) (js : List Jb) (now : Int) (s : Mc) : Mc :=
  { s with en := dropE ts js s.en s.wk, wk := s.wk.filter (fun p => (tkJ ts js p.1).cr), hi := true, sw := s.sw ++ [now] }
def lowM (s : Mc) : Mc := { s with hi := s.hi && !s.wk.isEmpty }
def openM (ts : List Tk) (js : List Jb) (now : Int) (s : Mc) : Mc := comeM ts js now (js.length - s.nx) (lowM s)
def ltM (ts : List Tk) (js : List Jb) (p : Po) (hi : Bool) (a b : Nat) : Bool := firstB ts p hi (jobOf js a) (jobOf js b)
def bestM (ts : List Tk) (js : List Jb) (p : Po) (s : Mc) : Nat := bestTo (ltM ts js p s.hi) (s.wk.map Prod.fst) (s.wk.length - 1)
def closeM (ts : List Tk) (js : List Jb) (now : Int) (b k : Nat) (d : Int) (s : Mc) : Mc :=
  if d + 1 = (jobOf js k).ne then { s with tr := s.tr ++ [(jobOf js k).ta], en := s.en.set k (now + 1), wk := s.wk.eraseIdx b }
  else if !s.hi && ((tkJ ts js k).cr && decide (d + 1 = (tkJ ts js k).lo)) then swM ts js (now + 1) { s with tr := s.tr ++ [(jobOf js k).ta], wk := s.wk.set b (k, d + 1) }
  else { s with tr := s.tr ++ [(jobOf js k).ta], wk := s.wk.set b (k, d + 1) }
def tickM (ts : List Tk) (js : List Jb) (p : Po) (now : Int) (s : Mc) : Mc :=
  match (openM ts js now s).wk[bestM ts js p (openM ts js now s)]? with
  | none => { openM ts js now s with tr := (openM ts js now s).tr ++ [-1] }
  | some (k, d) => closeM ts js now (bestM ts js p (openM ts js now s)) k d (openM ts js now s)
def initM (js : List Jb) : Mc := ⟨List.replicate js.length (-1), [], [], false, [], 0⟩
def runM (ts : List Tk) (js : List Jb) (p : Po) : Nat → Mc
  | 0 => initM js
  | n + 1 => tickM ts js p (n : Int) (runM ts js p n)
theorem job_of {js : List Jb} {k : Nat} {j : Jb} (h : js[k]? = some j) : jobOf js k = j := by unfold jobOf; simp [List.getD, h]
theorem job_get {js : List Jb} {k : Nat} (h : k < js.length) : js[k]? = some (jobOf js k) := by
  rw [List.getElem?_eq_getElem h, job_of (List.getElem?_eq_getElem h)]
theorem placeB_iff {a b : Jb} : placeB a b = true ↔ a.ta < b.ta ∨ (a.ta = b.ta ∧ a.tm < b.tm) := by unfold placeB; simp
theorem firstB_due {ts : List Tk} {p : Po} {hi : Bool} {a b : Jb} (h : p.due = true) : firstB ts p hi a b = true ↔ keyJ ts p hi a < keyJ ts p hi b ∨ (keyJ ts p hi a = keyJ ts p hi b ∧ (a.ta < b.ta ∨ (a.ta = b.ta ∧ a.tm < b.tm))) := by
  unfold firstB; rw [h, if_pos rfl]; simp [placeB_iff]
theorem firstB_place {ts : List Tk} {p : Po} {hi : Bool} {a b : Jb} (h : p.due = false) : firstB ts p hi a b = true ↔ a.ta < b.ta ∨ (a.ta = b.ta ∧ a.tm < b.tm) := by
  unfold firstB; rw [h]; simp [placeB_iff]
theorem first_trans {ts : List Tk} {p : Po} {hi : Bool} {a b c : Jb} (h1 : firstB ts p hi a b = true) (h2 : firstB ts p hi b c = true) : firstB ts p hi a c = true := by
  cases hd : p.due
  · rw [firstB_place hd] at *; omega
  · rw [firstB_due hd] at *; omega
theorem first_self {ts : List Tk} {p : Po} {hi : Bool} (a : Jb) : firstB ts p hi a a = false := by
  cases h : firstB ts p hi a a
  · rfl
  · cases hd : p.due
    · rw [firstB_place hd] at h; omega
    · rw [firstB_due hd] at h; omega
theorem best_le (lt : Nat → Nat → Bool) (ks : List Nat) : ∀ i, bestTo lt ks i ≤ i
  | 0 => Nat.le_refl _
  | i + 1 => by
    unfold bestTo
    split
    · exact Nat.le_refl _
    · exact Nat.le_succ_of_le (best_le lt ks i)
theorem best_min {lt : Nat → Nat → Bool} (ht : ∀ a b c, lt a b = true → lt b c = true → lt a c = true) (hs : ∀ a, lt a a = false) (ks : List Nat) : ∀ i j, j ≤ i → lt (ks.getD j 0) (ks.getD (bestTo lt ks i) 0) = false
  | 0, j, h => by
    obtain rfl : j = 0 := by omega
    exact hs _
  | i + 1, j, h => by
    unfold bestTo
    by_cases hl : lt (ks.getD (i + 1) 0) (ks.getD (bestTo lt ks i) 0) = true
    · rw [if_pos hl]
      by_cases hj : j = i + 1
      · rw [hj]; exact hs _
      · have := best_min ht hs ks i j (by omega)
        cases hx : lt (ks.getD j 0) (ks.getD (i + 1) 0)
        · rfl
        · rw [ht _ _ _ hx hl] at this; cases this
    · rw [if_neg hl]
      by_cases hj : j = i + 1
      · rw [hj]; simpa using hl
      · exact best_min ht hs ks i j (by omega)
end
section
open Go.RowKit
set_option linter.unusedVariables false
theorem mem_set_iff' {α : Type} {l : List α} {b : Nat} {v q : α} (hb : b < l.length) : q ∈ l.set b v ↔ q = v ∨ ∃ i, i ≠ b ∧ l[i]? = some q := by
  constructor
  · intro h
    obtain ⟨i, hi⟩ := List.mem_iff_getElem?.1 h
    rw [List.getElem?_set] at hi
    by_cases e : b = i
    · rw [if_pos e, if_pos (by omega)] at hi
      exact .inl (Option.some.inj hi).symm
    · rw [if_neg e] at hi
      exact .inr ⟨i, fun e' => e e'.symm, hi⟩
  · rintro (rfl | ⟨i, h1, h2⟩)
    · exact List.mem_iff_getElem?.2 ⟨b, by rw [List.getElem?_set, if_pos rfl, if_pos hb]⟩
    · exact List.mem_iff_getElem?.2 ⟨i, by rw [List.getElem?_set, if_neg (fun e => h1 e.symm)]; exact h2⟩
theorem mem_erase_iff' {α : Type} {l : List α} {b : Nat} {q : α} : q ∈ l.eraseIdx b ↔ ∃ i, i ≠ b ∧ l[i]? = some q := by
  rw [List.mem_eraseIdx_iff_getElem?]
theorem srt_inj {l : List (Nat × Int)} (h : (l.map Prod.fst).Pairwise (· < ·)) {i j : Nat} {q r : Nat × Int} (hi : l[i]? = some q) (hj : l[j]? = some r) (hn : i ≠ j) : q.1 ≠ r.1 := by
  have hi' : (l.map Prod.fst)[i]? = some q.1 := by rw [List.getElem?_map, hi]; rfl
  have hj' : (l.map Prod.fst)[j]? = some r.1 := by rw [List.getElem?_map, hj]; rfl
  obtain ⟨i1, i2⟩ := List.getElem?_eq_some_iff.1 hi'
  obtain ⟨j1, j2⟩ := List.getElem?_eq_some_iff.1 hj'
  have := List.pairwise_iff_getElem.1 h
  rcases Nat.lt_or_gt_of_ne hn with hlt | hlt
  · have := this i j i1 j1 hlt; omega
  · have := this j i j1 i1 hlt; omega
/-- What holds of a state at time n; g k: the ticks that job k has done. -/
structure InvM (ts : List Tk) (js : List Jb) (n : Int) (g : Nat → Int) (s : Mc) : Prop where
  nx : s.nx ≤ js.length
  enl : s.en.length = js.length
  srt : (s.wk.map Prod.fst).Pairwise (· < ·)
  wk : ∀ q, q ∈ s.wk → q.1 < s.nx ∧ s.en[q.1]? = some (-1) ∧ q.2 = g q.1 ∧ g q.1 < (jobOf js q.1).ne
  left : ∀ k, k < s.nx → s.en[k]? = some (-1) → ∃ q, q ∈ s.wk ∧ q.1 = k
  new : ∀ k, s.nx ≤ k → g k = 0 ∧ (k < js.length → s.en[k]? = some (-1))
  crit : s.hi = true → ∀ q, q ∈ s.wk → (tkJ ts js q.1).cr = true
  hisw : s.hi = true → s.sw ≠ []
  low : s.hi = false → ∀ q, q ∈ s.wk → g q.1 < (tkJ ts js q.1).lo
  pos : ∀ k, 0 ≤ g k
  age : ∀ k, k < s.nx → (jobOf js k).tm + g k ≤ n
  val : ∀ k e, s.en[k]? = some e → e = -1 ∨ (e = -2 ∧ (tkJ ts js k).cr = false ∧ s.sw ≠ [] ∧ k < s.nx ∧ g k < (jobOf js k).ne) ∨ (g k = (jobOf js k).ne ∧ (jobOf js k).tm + (jobOf js k).ne ≤ e ∧ e ≤ n ∧ k < s.nx)
  swb : ∀ t, t ∈ s.sw → 1 ≤ t ∧ t ≤ n
  sws : s.sw.Pairwise (· < ·)
section
variable {ts : List Tk} {js : List Jb} {n : Int} {g : Nat → Int} {s : Mc}
theorem job_ok (hv : jobsB ts js = true) {k : Nat} (hk : k < js.length) : 1 ≤ (jobOf js k).ne ∧ 0 ≤ (jobOf js k).tm ∧ (jobOf js k).tm ≤ 200 ∧ 0 ≤ (jobOf js k).ta ∧ (jobOf js k).ta < ts.length ∧ (jobOf js k).ne ≤ (tkJ ts js k).hi ∧ tkJ ts js k ∈ ts ∧ (tkJ ts js k).ok = true := by
  unfold jobsB at hv
  simp only [Bool.and_eq_true] at hv
  obtain ⟨hs, _, ha, _⟩ := hv
  have hm := List.mem_of_getElem? (job_get hk)
  obtain ⟨b1, b2, b3, b4, b5, b6⟩ := jobB_iff.1 (List.all_eq_true.1 ha _ hm)
  obtain ⟨t, _, e, h1, h2⟩ := ev_of hs b1 b2
  refine ⟨b5, b3, b4, b1, b2, b6, ?_, ?_⟩
  · unfold tkJ; rw [e]; exact h1
  · unfold tkJ; rw [e]; exact h2
theorem tk_nums {t : Tk} (h : t.ok = true) : 1 ≤ t.lo ∧ t.lo ≤ t.hi ∧ t.hi ≤ t.du ∧ t.du ≤ t.ev ∧ t.ev ≤ 20 ∧ (t.cr = false → t.lo = t.hi) := by
  unfold Tk.ok validB at h
  simp at h
  refine ⟨h.1, h.2.1, h.2.2.1, h.2.2.2.1, h.2.2.2.2.1, fun hc => ?_⟩
  rcases h.2.2.2.2.2 with h | h
  · rw [hc] at h; cases h
  · exact h
theorem init_inv (js : List Jb) (ts : List Tk) : InvM ts js 0 (fun _ => 0) (initM js) where
  nx := Nat.zero_le _
  enl := List.length_replicate
  srt := List.Pairwise.nil
  wk := fun q h => by cases h
  left := fun k h => absurd h (Nat.not_lt_zero _)
  new := fun k _ => ⟨rfl, fun hk => by simp [initM, hk]⟩
  crit := fun h => by cases h
  hisw := fun h => by cases h
  low := fun _ q h => by cases h
  pos := fun _ => Int.le_refl _
  age := fun k h => absurd h (Nat.not_lt_zero _)
  val := fun k e h => by
    simp only [initM, List.getElem?_replicate] at h
    split at h
    · exact .inl (Option.some.inj h).symm
    · cases h
  swb := fun t h => by cases h
  sws := List.Pairwise.nil
theorem low_inv (h : InvM ts js n g s) : InvM ts js n g (lowM s) := by
  refine ⟨h.nx, h.enl, h.srt, h.wk, h.left, h.new, fun hh => h.crit ?_, fun hh => h.hisw ?_, fun hh q hq => ?_, h.pos, h.age, h.val, h.swb, h.sws⟩
  · simp [lowM] at hh; exact hh.1
  · simp [lowM] at hh; exact hh.1
  · simp [lowM] at hh
    rcases hs : s.hi with _ | _
    · exact h.low hs q hq
    · have hq' : q ∈ s.wk := hq
      rw [hh hs] at hq'; cases hq'
theorem one_inv (hv : jobsB ts js = true) (h : InvM ts js n g s) (hn : s.nx < js.length) (ht : (jobOf js s.nx).tm = n) : InvM ts js n g (oneM ts js s) := by
  obtain ⟨a1, a2, a3, a4, a5, a6, a7, a8⟩ := job_ok hv hn
  have hg := (h.new s.nx (Nat.le_refl _)).1
  have hlo := tk_nums a8
  unfold oneM
  by_cases hc : (s.hi && !(tkJ ts js s.nx).cr) = true
  · rw [if_pos hc]
    simp at hc
    have hen : ∀ k, k ≠ s.nx → (s.en.set s.nx (-2))[k]? = s.en[k]? := fun k hk => by rw [List.getElem?_set, if_neg (fun e => hk e.symm)]
    have hen2 : (s.en.set s.nx (-2))[s.nx]? = some (-2) := by rw [List.getElem?_set, if_pos rfl, if_pos (by rw [h.enl]; exact hn)]
    refine ⟨hn, by simp [h.enl], h.srt, fun q hq => ?_, fun k hk he => ?_, fun k hk => ?_, h.crit, h.hisw, h.low, h.pos, fun k hk => ?_, fun k e he => ?_, h.swb, h.sws⟩
    · obtain ⟨b1, b2, b3, b4⟩ := h.wk q hq
      exact ⟨Nat.lt_succ_of_lt b1, (hen _ (Nat.ne_of_lt b1)).trans b2, b3, b4⟩
    · by_cases e : k = s.nx
      · subst e; rw [hen2] at he; cases he
      · exact h.left k (by simp at hk; omega) ((hen k e).symm.trans he)
    · simp at hk
      refine ⟨(h.new k (by omega)).1, fun hl => (hen k (by omega)).trans ((h.new k (by omega)).2 hl)⟩
    · by_cases e : k = s.nx
      · subst e; rw [hg]; omega
      · exact h.age k (by simp at hk; omega)
    · by_cases e' : k = s.nx
      · subst e'
        simp only [hen2] at he
        obtain rfl := Option.some.inj he
        exact .inr (.inl ⟨rfl, hc.2, h.hisw hc.1, Nat.lt_succ_self _, by omega⟩)
      · rcases h.val k e ((hen k e').symm.trans he) with b | ⟨b1, b2, b3, b4, b5⟩ | ⟨b1, b2, b3, b4⟩
        · exact .inl b
        · exact .inr (.inl ⟨b1, b2, b3, Nat.lt_succ_of_lt b4, b5⟩)
        · exact .inr (.inr ⟨b1, b2, b3, Nat.lt_succ_of_lt b4⟩)
  · rw [if_neg hc]
    have hc' : s.hi = true → (tkJ ts js s.nx).cr = true := by simpa using hc
    have hmem : ∀ q, q ∈ s.wk ++ [(s.nx, (0 : Int))] → q ∈ s.wk ∨ q = (s.nx, 0) := fun q hq => by simpa using hq
    refine ⟨hn, h.enl, ?_, fun q hq => ?_, fun k hk he => ?_, fun k hk => ?_, fun hh q hq => ?_, h.hisw, fun hh q hq => ?_, h.pos, fun k hk => ?_, fun k e he => ?_, h.swb, h.sws⟩
    · rw [List.map_append, List.pairwise_append]
      refine ⟨h.srt, by simp, fun a ha b hb => ?_⟩
      obtain ⟨q, hq, rfl⟩ := List.mem_map.1 ha
      obtain rfl : b = s.nx := by simpa using hb
      exact (h.wk q hq).1
    · rcases hmem q hq with hq | rfl
      · obtain ⟨b1, b2, b3, b4⟩ := h.wk q hq
        exact ⟨Nat.lt_succ_of_lt b1, b2, b3, b4⟩
      · exact ⟨Nat.lt_succ_self _, (h.new _ (Nat.le_refl _)).2 hn, hg.symm, by show g s.nx < (jobOf js s.nx).ne; omega⟩
    · by_cases e : k = s.nx
      · exact ⟨(s.nx, 0), by simp, e.symm⟩
      · obtain ⟨q, hq, hk'⟩ := h.left k (by simp at hk; omega) he
        exact ⟨q, by simp [hq], hk'⟩
    · simp at hk
      exact h.new k (by omega)
    · rcases hmem q hq with hq | rfl
      · exact h.crit hh q hq
      · exact hc' hh
    · rcases hmem q hq with hq | rfl
      · exact h.low hh q hq
      · show g s.nx < (tkJ ts js s.nx).lo; omega
    · by_cases e : k = s.nx
      · subst e; rw [hg]; omega
      · exact h.age k (by simp at hk; omega)
    · rcases h.val k e he with b | ⟨b1, b2, b3, b4, b5⟩ | ⟨b1, b2, b3, b4⟩
      · exact .inl b
      · exact .inr (.inl ⟨b1, b2, b3, Nat.lt_succ_of_lt b4, b5⟩)
      · exact .inr (.inr ⟨b1, b2, b3, Nat.lt_succ_of_lt b4⟩)
/-- What a state is that jobs came to. -/
structure CameM (ts : List Tk) (js : List Jb) (now : Int) (s s' : Mc) : Prop where
  tr : s'.tr = s.tr
  sw : s'.sw = s.sw
  hi : s'.hi = s.hi
  le : s.nx ≤ s'.nx
  add : ∃ l, s'.wk = s.wk ++ l ∧ ∀ q, q ∈ l → s.nx ≤ q.1 ∧ q.1 < s'.nx ∧ (jobOf js q.1).tm = now ∧ q.2 = 0
  old : ∀ k, k < s.nx → s'.en[k]? = s.en[k]?
  mid : ∀ k, s.nx ≤ k → k < s'.nx → (jobOf js k).tm = now ∧ (s'.en[k]? = some (-1) ∨ (s'.en[k]? = some (-2) ∧ s.hi = true ∧ (tkJ ts js k).cr = false))
theorem came_refl (ts : List Tk) (js : List Jb) (now : Int) (s : Mc) : CameM ts js now s s :=
  ⟨rfl, rfl, rfl, Nat.le_refl _, ⟨[], by simp, fun q h => by cases h⟩, fun _ _ => rfl, fun k h1 h2 => by omega⟩
theorem came_one (h : InvM ts js n g s) (hn : s.nx < js.length) (ht : (jobOf js s.nx).tm = n) : CameM ts js n s (oneM ts js s) := by
  unfold oneM
  by_cases hc : (s.hi && !(tkJ ts js s.nx).cr) = true
  · rw [if_pos hc]
    simp at hc
    refine ⟨rfl, rfl, rfl, Nat.le_succ _, ⟨[], by simp, fun q h => by cases h⟩, fun k hk => ?_, fun k h1 h2 => ?_⟩
    · show (s.en.set s.nx (-2))[k]? = _
      rw [List.getElem?_set, if_neg (by omega)]
    · simp at h2
      obtain rfl : k = s.nx := by omega
      exact ⟨ht, .inr ⟨by show (s.en.set s.nx (-2))[s.nx]? = _; rw [List.getElem?_set, if_pos rfl, if_pos (by rw [h.enl]; exact hn)], hc.1, hc.2⟩⟩
  · rw [if_neg hc]
    refine ⟨rfl, rfl, rfl, Nat.le_succ _, ⟨[(s.nx, 0)], rfl, fun q hq => ?_⟩, fun k hk => rfl, fun k h1 h2 => ?_⟩
    · obtain rfl : q = (s.nx, 0) := by simpa using hq
      exact ⟨Nat.le_refl _, Nat.lt_succ_self _, ht, rfl⟩
    · simp at h2
      obtain rfl : k = s.nx := by omega
      exact ⟨ht, .inl ((h.new _ (Nat.le_refl _)).2 hn)⟩
theorem came_trans {now : Int} {a b c : Mc} (h1 : CameM ts js now a b) (h2 : CameM ts js now b c) : CameM ts js now a c := by
  obtain ⟨l1, e1, m1⟩ := h1.add
  obtain ⟨l2, e2, m2⟩ := h2.add
  refine ⟨h2.tr.trans h1.tr, h2.sw.trans h1.sw, h2.hi.trans h1.hi, Nat.le_trans h1.le h2.le, ⟨l1 ++ l2, by rw [e2, e1, List.append_assoc], fun q hq => ?_⟩, fun k hk => (h2.old k (Nat.lt_of_lt_of_le hk h1.le)).trans (h1.old k hk), fun k k1 k2 => ?_⟩
  · rcases List.mem_append.1 hq with hq | hq
    · obtain ⟨x1, x2, x3, x4⟩ := m1 q hq
      exact ⟨x1, Nat.lt_of_lt_of_le x2 h2.le, x3, x4⟩
    · obtain ⟨x1, x2, x3, x4⟩ := m2 q hq
      exact ⟨Nat.le_trans h1.le x1, x2, x3, x4⟩
  · by_cases hb : k < b.nx
    · rw [h2.old k hb]; exact h1.mid k k1 hb
    · have := h2.mid k (by omega) k2
      rw [h1.hi] at this
      exact this
theorem come_inv (hv : jobsB ts js = true) : ∀ (f : Nat) (s : Mc), f = js.length - s.nx → InvM ts js n g s → InvM ts js n g (comeM ts js n f s) ∧ CameM ts js n s (comeM ts js n f s) ∧ ((comeM ts js n f s).nx < js.length → (jobOf js (comeM ts js n f s).nx).tm ≠ n)
  | 0, s, hf, h => ⟨h, came_refl _ _ _ _, fun hl => by simp [comeM] at hl; omega⟩
  | f + 1, s, hf, h => by
    have hn : s.nx < js.length := by omega
    unfold comeM
    by_cases ht : (jobOf js s.nx).tm = n
    · rw [if_pos ht]
      have h1 := one_inv hv h hn ht
      have h2 := came_one h hn ht
      have hx : (oneM ts js s).nx = s.nx + 1 := by unfold oneM; split <;> rfl
      obtain ⟨a, b, c⟩ := come_inv hv f (oneM ts js s) (by rw [hx]; omega) h1
      exact ⟨a, came_trans h2 b, c⟩
    · rw [if_neg ht]
      exact ⟨h, came_refl _ _ _ _, fun _ => ht⟩
theorem open_inv (hv : jobsB ts js = true) (h : InvM ts js n g s) : InvM ts js n g (openM ts js n s) ∧ CameM ts js n (lowM s) (openM ts js n s) ∧ ((openM ts js n s).nx < js.length → (jobOf js (openM ts js n s).nx).tm ≠ n) :=
  come_inv hv _ _ rfl (low_inv h)
theorem drop_get' (ts : List Tk) (js : List Jb) (k : Nat) : ∀ (wk : List (Nat × Int)) (en : List Int), k < en.length → (dropE ts js en wk)[k]? = if (∃ q, q ∈ wk ∧ q.1 = k ∧ (tkJ ts js k).cr = false) then some (-2) else en[k]? := by
  intro wk
  induction wk with
  | nil => intro en hk; simp [dropE]
  | cons a wk ih =>
    intro en hk
    show (dropE ts js (if (tkJ ts js a.1).cr then en else en.set a.1 (-2)) wk)[k]? = _
    rw [ih _ (by split <;> simp [hk])]
    by_cases h1 : ∃ q, q ∈ wk ∧ q.1 = k ∧ (tkJ ts js k).cr = false
    · rw [if_pos h1, if_pos]
      obtain ⟨q, a1, a2⟩ := h1
      exact ⟨q, List.mem_cons_of_mem _ a1, a2⟩
    · rw [if_neg h1]
      by_cases h2 : a.1 = k ∧ (tkJ ts js k).cr = false
      · have e2 : ∃ q, q ∈ a :: wk ∧ q.1 = k ∧ (tkJ ts js k).cr = false := ⟨a, by simp, h2⟩
        rw [if_pos e2]
        obtain ⟨rfl, hc⟩ := h2
        rw [hc]
        simp [hk]
      · have e2 : ¬ ∃ q, q ∈ a :: wk ∧ q.1 = k ∧ (tkJ ts js k).cr = false := by
          rintro ⟨q, hq, h3, h4⟩
          rcases List.mem_cons.1 hq with rfl | hq
          · exact h2 ⟨h3, h4⟩
          · exact h1 ⟨q, hq, h3, h4⟩
        rw [if_neg e2]
        by_cases hc : (tkJ ts js a.1).cr = true
        · rw [if_pos hc]
        · rw [if_neg hc, List.getElem?_set, if_neg]
          rintro rfl
          exact h2 ⟨rfl, by simpa using hc⟩
theorem drop_len (ts : List Tk) (js : List Jb) : ∀ (wk : List (Nat × Int)) (en : List Int), (dropE ts js en wk).length = en.length := by
  intro wk
  induction wk with
  | nil => intro en; rfl
  | cons a wk ih =>
    intro en
    show (dropE ts js (if (tkJ ts js a.1).cr then en else en.set a.1 (-2)) wk).length = _
    rw [ih]; split <;> simp
def upG (g : Nat → Int) (k : Nat) : Nat → Int := fun i => if i = k then g i + 1 else g i
theorem upG_same (g : Nat → Int) (k : Nat) : upG g k k = g k + 1 := by unfold upG; rw [if_pos rfl]
theorem upG_other (g : Nat → Int) {k i : Nat} (h : i ≠ k) : upG g k i = g i := by unfold upG; rw [if_neg h]
theorem upG_le (g : Nat → Int) (k i : Nat) : g i ≤ upG g k i ∧ upG g k i ≤ g i + 1 := by unfold upG; split <;> omega
/-- Nobody runs. -/
theorem idle_inv (h : InvM ts js n g s) (z : Int) : InvM ts js (n + 1) g { s with tr := s.tr ++ [z] } :=
  ⟨h.nx, h.enl, h.srt, h.wk, h.left, h.new, h.crit, h.hisw, h.low, h.pos, fun k hk => by have := h.age k hk; omega, fun k e he => by
    rcases h.val k e he with b | b | ⟨b1, b2, b3, b4⟩
    · exact .inl b
    · exact .inr (.inl b)
    · exact .inr (.inr ⟨b1, b2, by omega, b4⟩), fun t ht => by have := h.swb t ht; omega, h.sws⟩
/-- A job runs: it is one that is left. -/
theorem run_inv (hv : jobsB ts js = true) (h : InvM ts js n g s) (hn : 0 ≤ n) {b k : Nat} {d : Int} (hb : s.wk[b]? = some (k, d)) : InvM ts js (n + 1) (upG g k) (closeM ts js n b k d s) := by
  obtain ⟨hbl, hbe⟩ := List.getElem?_eq_some_iff.1 hb
  obtain ⟨k1, k2, k3, k4⟩ := h.wk (k, d) (List.mem_of_getElem? hb)
  dsimp only at k1 k2 k3 k4
  have kl : k < js.length := Nat.lt_of_lt_of_le k1 h.nx
  obtain ⟨a1, a2, a3, a4, a5, a6, a7, a8⟩ := job_ok hv kl
  have hlo := tk_nums a8
  have hoth : ∀ i q, i ≠ b → s.wk[i]? = some q → q ∈ s.wk ∧ q.1 ≠ k := fun i q hi hq => ⟨List.mem_of_getElem? hq, srt_inj h.srt hq hb hi⟩
  have hage : ∀ i, i < s.nx → (jobOf js i).tm + upG g k i ≤ n + 1 := fun i hi => by have := h.age i hi; have := upG_le g k i; omega
  have hpos : ∀ i, 0 ≤ upG g k i := fun i => by have := h.pos i; have := upG_le g k i; omega
  have hnew : ∀ i, s.nx ≤ i → upG g k i = 0 ∧ (i < js.length → s.en[i]? = some (-1)) := fun i hi => by
    rw [upG_other g (by omega)]; exact h.new i hi
  have hsw : ∀ t, t ∈ s.sw → 1 ≤ t ∧ t ≤ n + 1 := fun t ht => by have := h.swb t ht; omega
  have hval : ∀ i e, i ≠ k → s.en[i]? = some e → e = -1 ∨ (e = -2 ∧ (tkJ ts js i).cr = false ∧ s.sw ≠ [] ∧ i < s.nx ∧ upG g k i < (jobOf js i).ne) ∨ (upG g k i = (jobOf js i).ne ∧ (jobOf js i).tm + (jobOf js i).ne ≤ e ∧ e ≤ n + 1 ∧ i < s.nx) := fun i e hi he => by
    rw [upG_other g hi]
    rcases h.val i e he with b | b | ⟨b1, b2, b3, b4⟩
    · exact .inl b
    · exact .inr (.inl b)
    · exact .inr (.inr ⟨b1, b2, by omega, b4⟩)
  have hset : (s.wk.set b (k, d + 1)).map Prod.fst = s.wk.map Prod.fst := by
    rw [List.map_set]
    apply List.ext_getElem?
    intro i
    rw [List.getElem?_set]
    by_cases e : b = i
    · subst e
      rw [if_pos rfl, List.getElem?_map, hb, if_pos (by simpa using hbl)]
      rfl
    · rw [if_neg e]
  have hwk2 : ∀ q, q ∈ s.wk.set b (k, d + 1) → (q = (k, d + 1)) ∨ (q ∈ s.wk ∧ q.1 ≠ k) := fun q hq => by
    rcases (mem_set_iff' hbl).1 hq with e | ⟨i, i1, i2⟩
    · exact .inl e
    · exact .inr (hoth i q i1 i2)
  have hwk3 : ∀ i, i ≠ k → ∀ q, q ∈ s.wk → q.1 = i → q ∈ s.wk.set b (k, d + 1) := fun i hi q hq hqi => by
    obtain ⟨m, hm⟩ := List.mem_iff_getElem?.1 hq
    refine (mem_set_iff' hbl).2 (.inr ⟨m, ?_, hm⟩)
    rintro rfl
    rw [hb] at hm
    obtain rfl := Option.some.inj hm
    exact hi hqi.symm
  unfold closeM
  by_cases hend : d + 1 = (jobOf js k).ne
  · rw [if_pos hend]
    have hen : ∀ i, i ≠ k → (s.en.set k (n + 1))[i]? = s.en[i]? := fun i hi => by rw [List.getElem?_set, if_neg (fun e => hi e.symm)]
    have hen2 : (s.en.set k (n + 1))[k]? = some (n + 1) := by rw [List.getElem?_set, if_pos rfl, if_pos (by rw [h.enl]; exact kl)]
    have hw : ∀ q, q ∈ s.wk.eraseIdx b → q ∈ s.wk ∧ q.1 ≠ k := fun q hq => by
      obtain ⟨i, i1, i2⟩ := mem_erase_iff'.1 hq
      exact hoth i q i1 i2
    refine ⟨h.nx, by simp [h.enl], h.srt.sublist ((List.eraseIdx_sublist _ _).map _), fun q hq => ?_, fun i hi he => ?_, fun i hi => ?_, fun hh q hq => h.crit hh q (hw q hq).1, h.hisw, fun hh q hq => ?_, hpos, hage, fun i e he => ?_, hsw, h.sws⟩
    · obtain ⟨q1, q2⟩ := hw q hq
      obtain ⟨b1, b2, b3, b4⟩ := h.wk q q1
      rw [upG_other g q2]
      exact ⟨b1, (hen _ q2).trans b2, b3, b4⟩
    · have hik : i ≠ k := by
        rintro rfl
        simp only [hen2] at he
        have := Option.some.inj he
        omega
      obtain ⟨q, hq, rfl⟩ := h.left i hi ((hen i hik).symm.trans he)
      obtain ⟨m, hm⟩ := List.mem_iff_getElem?.1 hq
      refine ⟨q, mem_erase_iff'.2 ⟨m, ?_, hm⟩, rfl⟩
      rintro rfl
      rw [hb] at hm
      obtain rfl := Option.some.inj hm
      exact hik rfl
    · obtain ⟨x1, x2⟩ := hnew i hi
      exact ⟨x1, fun hl => (hen i (by have := h.nx; intro e; subst e; exact absurd k1 (Nat.not_lt.2 hi))).trans (x2 hl)⟩
    · obtain ⟨q1, q2⟩ := hw q hq
      rw [upG_other g q2]
      exact h.low hh q q1
    · by_cases hik : i = k
      · subst hik
        simp only [hen2] at he
        obtain rfl := Option.some.inj he
        refine .inr (.inr ⟨by rw [upG_same]; omega, ?_, Int.le_refl _, k1⟩)
        have := h.age i k1
        omega
      · exact hval i e hik ((hen i hik).symm.trans he)
  · rw [if_neg hend]
    have hgk : upG g k k < (jobOf js k).ne := by rw [upG_same]; omega
    have hwkA : ∀ q, q ∈ s.wk.set b (k, d + 1) → q.1 < s.nx ∧ s.en[q.1]? = some (-1) ∧ q.2 = upG g k q.1 ∧ upG g k q.1 < (jobOf js q.1).ne := fun q hq => by
      rcases hwk2 q hq with rfl | ⟨q1, q2⟩
      · exact ⟨k1, k2, by show d + 1 = upG g k k; rw [upG_same, k3], hgk⟩
      · rw [upG_other g q2]; exact h.wk q q1
    have hleft : ∀ i, i < s.nx → s.en[i]? = some (-1) → ∃ q, q ∈ s.wk.set b (k, d + 1) ∧ q.1 = i := fun i hi he => by
      by_cases hik : i = k
      · exact ⟨(k, d + 1), (mem_set_iff' hbl).2 (.inl rfl), hik.symm⟩
      · obtain ⟨q, hq, e⟩ := h.left i hi he
        exact ⟨q, hwk3 i hik q hq e, e⟩
    have hcr : s.hi = true → ∀ q, q ∈ s.wk.set b (k, d + 1) → (tkJ ts js q.1).cr = true := fun hh q hq => by
      rcases hwk2 q hq with rfl | ⟨q1, q2⟩
      · exact h.crit hh (k, d) (List.mem_of_getElem? hb)
      · exact h.crit hh q q1
    have hvalA : ∀ i e, s.en[i]? = some e → e = -1 ∨ (e = -2 ∧ (tkJ ts js i).cr = false ∧ s.sw ≠ [] ∧ i < s.nx ∧ upG g k i < (jobOf js i).ne) ∨ (upG g k i = (jobOf js i).ne ∧ (jobOf js i).tm + (jobOf js i).ne ≤ e ∧ e ≤ n + 1 ∧ i < s.nx) := fun i e he => by
      by_cases hik : i = k
      · subst hik; rw [k2] at he; exact .inl (Option.some.inj he).symm
      · exact hval i e hik he
    by_cases hsw' : (!s.hi && ((tkJ ts js k).cr && decide (d + 1 = (tkJ ts js k).lo))) = true
    · rw [if_pos hsw']
      have hfil : ∀ q, q ∈ (s.wk.set b (k, d + 1)).filter (fun p => (tkJ ts js p.1).cr) ↔ q ∈ s.wk.set b (k, d + 1) ∧ (tkJ ts js q.1).cr = true := fun q => List.mem_filter
      have hdg : ∀ i, i < js.length → (dropE ts js s.en (s.wk.set b (k, d + 1)))[i]? = if (∃ q, q ∈ s.wk.set b (k, d + 1) ∧ q.1 = i ∧ (tkJ ts js i).cr = false) then some (-2) else s.en[i]? := fun i hi => drop_get' ts js i _ _ (by rw [h.enl]; exact hi)
      refine ⟨h.nx, ?_, ?_, fun q hq => ?_, fun i hi he => ?_, fun i hi => ?_, fun _ q hq => ((hfil q).1 hq).2, fun _ => by simp [swM], fun hh => by simp [swM] at hh, hpos, hage, fun i e he => ?_, fun t ht => ?_, ?_⟩
      · simp [swM, drop_len, h.enl]
      · exact (hset ▸ h.srt : ((s.wk.set b (k, d + 1)).map Prod.fst).Pairwise (· < ·)).sublist (List.filter_sublist.map _)
      · obtain ⟨q1, q2⟩ := (hfil q).1 hq
        obtain ⟨b1, b2, b3, b4⟩ := hwkA q q1
        refine ⟨b1, ?_, b3, b4⟩
        show (dropE ts js s.en (s.wk.set b (k, d + 1)))[q.1]? = _
        rw [hdg _ (Nat.lt_of_lt_of_le b1 h.nx), if_neg]
        · exact b2
        · rintro ⟨_, _, _, hc⟩
          rw [q2] at hc; cases hc
      · have he' : (dropE ts js s.en (s.wk.set b (k, d + 1)))[i]? = some (-1) := he
        rw [hdg i (Nat.lt_of_lt_of_le hi h.nx)] at he'
        split at he'
        · cases he'
        · rename_i hno
          obtain ⟨q, hq, e⟩ := hleft i hi he'
          refine ⟨q, (hfil q).2 ⟨hq, ?_⟩, e⟩
          cases hc : (tkJ ts js q.1).cr
          · exact absurd ⟨q, hq, e, e ▸ hc⟩ hno
          · rfl
      · obtain ⟨x1, x2⟩ := hnew i hi
        refine ⟨x1, fun hl => ?_⟩
        show (dropE ts js s.en (s.wk.set b (k, d + 1)))[i]? = _
        rw [hdg i hl, if_neg]
        · exact x2 hl
        · rintro ⟨q, hq, rfl, _⟩
          have := (hwkA q hq).1
          have hi' : s.nx ≤ q.1 := hi
          omega
      · have he' : (dropE ts js s.en (s.wk.set b (k, d + 1)))[i]? = some e := he
        have hil : i < js.length := by
          rcases Nat.lt_or_ge i js.length with hl | hl
          · exact hl
          · rw [List.getElem?_eq_none (by rw [drop_len, h.enl]; exact hl)] at he'; cases he'
        rw [hdg i hil] at he'
        split at he'
        · rename_i hyes
          obtain ⟨q, hq, rfl, hc⟩ := hyes
          obtain rfl := Option.some.inj he'
          obtain ⟨b1, b2, b3, b4⟩ := hwkA q hq
          exact .inr (.inl ⟨rfl, hc, by simp [swM], b1, b4⟩)
        · rcases hvalA i e he' with b | ⟨b1, b2, b3, b4, b5⟩ | b
          · exact .inl b
          · exact .inr (.inl ⟨b1, b2, by simp [swM], b4, b5⟩)
          · exact .inr (.inr b)
      · rcases List.mem_append.1 (show t ∈ s.sw ++ [n + 1] from ht) with ht | ht
        · exact hsw t ht
        · rw [List.mem_singleton.1 ht]; omega
      · show (s.sw ++ [n + 1]).Pairwise (· < ·)
        rw [List.pairwise_append]
        refine ⟨h.sws, by simp, fun a ha c hc => ?_⟩
        rw [List.mem_singleton.1 hc]
        have := h.swb a ha
        omega
    · rw [if_neg hsw']
      refine ⟨h.nx, h.enl, by rw [hset]; exact h.srt, hwkA, hleft, hnew, hcr, h.hisw, fun hh q hq => ?_, hpos, hage, hvalA, hsw, h.sws⟩
      rcases hwk2 q hq with rfl | ⟨q1, q2⟩
      · show upG g k k < (tkJ ts js k).lo
        have hh' : s.hi = false := hh
        have := h.low hh' (k, d) (List.mem_of_getElem? hb)
        dsimp only at this
        rw [upG_same]
        rw [hh'] at hsw'
        cases hc : (tkJ ts js k).cr
        · have := hlo.2.2.2.2.2 hc
          rw [upG_same] at hgk
          omega
        · rw [hc] at hsw'
          simp at hsw'
          omega
      · rw [upG_other g q2]
        exact h.low hh q q1
end
end
section
open Go.RowKit
set_option linter.unusedVariables false
section
variable (ts : List Tk) (js : List Jb) (p : Po)
/-- The state at a tick when the jobs have come. -/
def openN (n : Nat) : Mc := openM ts js (n : Int) (runM ts js p n)
/-- The job that runs at a tick. -/
def chN (n : Nat) : Option Nat := ((openN ts js p n).wk[bestM ts js p (openN ts js p n)]?).map Prod.fst
/-- How many ticks of a job are done before a tick. -/
def gN : Nat → Nat → Int
  | 0, _ => 0
  | n + 1, k => if chN ts js p n = some k then gN n k + 1 else gN n k
def lft (n k : Nat) : Prop := ∃ q, q ∈ (runM ts js p n).wk ∧ q.1 = k
def opn (n k : Nat) : Prop := ∃ q, q ∈ (openN ts js p n).wk ∧ q.1 = k
def hiN (n : Nat) : Bool := (openN ts js p n).hi
/-- Whether needs become high at the end of a tick. -/
def swN (n : Nat) : Bool := match chN ts js p n with
  | none => false
  | some c => !hiN ts js p n && ((tkJ ts js c).cr && (decide (gN ts js p (n + 1) c = (tkJ ts js c).lo) && !decide (gN ts js p (n + 1) c = (jobOf js c).ne)))
def outN (n : Nat) : Int := match chN ts js p n with
  | none => -1
  | some c => (jobOf js c).ta
end
section
variable {ts : List Tk} {js : List Jb} {p : Po}
theorem tm_mono (hv : jobsB ts js = true) {i j : Nat} (h : i ≤ j) (hj : j < js.length) : (jobOf js i).tm ≤ (jobOf js j).tm := by
  by_cases e : i = j
  · subst e; exact Int.le_refl _
  · unfold jobsB at hv
    simp only [Bool.and_eq_true] at hv
    have hp := pairB_iff.1 hv.2.2.2
    have := List.pairwise_iff_getElem.1 hp i j (by omega) hj (by omega)
    rw [← Option.some.inj ((List.getElem?_eq_getElem (by omega : i < js.length)).symm.trans (job_get (by omega))), ← Option.some.inj ((List.getElem?_eq_getElem hj).symm.trans (job_get hj))]
    have := (farB_iff.1 this).1
    omega
/-- Two jobs of a task come apart. -/
theorem tm_far (hv : jobsB ts js = true) {i j : Nat} (h : i < j) (hj : j < js.length) (ht : (jobOf js i).ta = (jobOf js j).ta) : (jobOf js i).tm + (tkJ ts js j).ev ≤ (jobOf js j).tm := by
  unfold tkJ
  unfold jobsB at hv
  simp only [Bool.and_eq_true] at hv
  have hp := pairB_iff.1 hv.2.2.2
  have := List.pairwise_iff_getElem.1 hp i j (by omega) hj h
  have e1 := Option.some.inj ((List.getElem?_eq_getElem (by omega : i < js.length)).symm.trans (job_get (by omega)))
  have e2 := Option.some.inj ((List.getElem?_eq_getElem hj).symm.trans (job_get hj))
  rw [e1, e2] at this
  have := (farB_iff.1 this).2 ht
  omega
theorem best_some {lt : Nat → Nat → Bool} {ks : List Nat} {wk : List (Nat × Int)} (h : wk ≠ []) : ∃ q, wk[bestTo lt ks (wk.length - 1)]? = some q := by
  have h1 := best_le lt ks (wk.length - 1)
  have h2 : 0 < wk.length := List.length_pos_iff.2 h
  exact ⟨_, List.getElem?_eq_getElem (by omega)⟩
theorem pick_none {s : Mc} (h : s.wk[bestM ts js p s]? = none) : s.wk = [] := by
  by_cases e : s.wk = []
  · exact e
  · obtain ⟨q, hq⟩ := best_some (lt := ltM ts js p s.hi) (ks := s.wk.map Prod.fst) e
    unfold bestM at h
    rw [hq] at h; cases h
theorem close_nx (now : Int) (b k : Nat) (d : Int) (s : Mc) : (closeM ts js now b k d s).nx = s.nx := by
  unfold closeM
  split
  · rfl
  · split <;> rfl
theorem tick_idle {n : Nat} (h : chN ts js p n = none) : runM ts js p (n + 1) = { openN ts js p n with tr := (openN ts js p n).tr ++ [-1] } := by
  unfold chN at h
  rw [Option.map_eq_none_iff] at h
  show tickM ts js p (n : Int) (runM ts js p n) = _
  unfold tickM
  unfold openN at h
  rw [h]
  rfl
theorem tick_run {n c : Nat} (h : chN ts js p n = some c) : ∃ b d, (openN ts js p n).wk[b]? = some (c, d) ∧ b = bestM ts js p (openN ts js p n) ∧ runM ts js p (n + 1) = closeM ts js n b c d (openN ts js p n) := by
  unfold chN at h
  obtain ⟨⟨k, d⟩, h1, h2⟩ := Option.map_eq_some_iff.1 h
  dsimp only at h2
  subst h2
  refine ⟨_, d, h1, rfl, ?_⟩
  show tickM ts js p (n : Int) (runM ts js p n) = _
  unfold tickM
  unfold openN at h1
  rw [h1]
  rfl
theorem gN_up {n c : Nat} (h : chN ts js p n = some c) : gN ts js p (n + 1) = upG (gN ts js p n) c := by
  funext k
  show (if chN ts js p n = some k then gN ts js p n k + 1 else gN ts js p n k) = _
  unfold upG
  rw [h]
  by_cases e : k = c
  · rw [if_pos (by rw [e]), if_pos e]
  · rw [if_neg (by intro e'; exact e (Option.some.inj e').symm), if_neg e]
theorem gN_idle {n : Nat} (h : chN ts js p n = none) : gN ts js p (n + 1) = gN ts js p n := by
  funext k
  show (if chN ts js p n = some k then gN ts js p n k + 1 else gN ts js p n k) = _
  rw [h, if_neg (by simp)]
/-- What holds of the state before each tick. -/
theorem run_at (hv : jobsB ts js = true) : ∀ n : Nat, InvM ts js n (gN ts js p n) (runM ts js p n) ∧ ∀ k, k < js.length → (k < (runM ts js p n).nx ↔ (jobOf js k).tm < n)
  | 0 => ⟨init_inv js ts, fun k hk => by
    have := (job_ok hv hk).2.1
    show k < 0 ↔ (jobOf js k).tm < 0
    omega⟩
  | n + 1 => by
    obtain ⟨h1, h2⟩ := run_at hv n
    obtain ⟨o1, o2, o3⟩ := open_inv hv h1
    have hcame : ∀ k, k < js.length → (k < (openN ts js p n).nx ↔ (jobOf js k).tm < (n + 1 : Nat)) := fun k hk => by
      have e0 : (lowM (runM ts js p n)).nx = (runM ts js p n).nx := rfl
      constructor
      · intro hlt
        by_cases hb : k < (runM ts js p n).nx
        · have := (h2 k hk).1 hb; omega
        · have := (o2.mid k (by rw [e0]; omega) hlt).1; omega
      · intro hlt
        rcases Nat.lt_or_ge k (openN ts js p n).nx with hh | hh
        · exact hh
        · exfalso
          have hnl : (openN ts js p n).nx < js.length := Nat.lt_of_le_of_lt hh hk
          have hne := o3 hnl
          have hm := tm_mono hv hh hk
          have hge : ¬ (jobOf js (openN ts js p n).nx).tm < n := fun hx => by
            have := (h2 _ hnl).2 hx
            have := o2.le
            rw [e0] at this
            change (runM ts js p n).nx ≤ (openN ts js p n).nx at this
            omega
          change (jobOf js (openN ts js p n).nx).tm ≠ n at hne
          omega
    cases hc : chN ts js p n with
    | none =>
      rw [tick_idle hc, gN_idle hc]
      exact ⟨by rw [show ((n + 1 : Nat) : Int) = (n : Int) + 1 by omega]; exact idle_inv o1 (-1), hcame⟩
    | some c =>
      obtain ⟨b, d, e1, e2, e3⟩ := tick_run hc
      rw [e3, gN_up hc]
      refine ⟨by rw [show ((n + 1 : Nat) : Int) = (n : Int) + 1 by omega]; exact run_inv hv o1 (by omega) e1, fun k hk => ?_⟩
      rw [close_nx]; exact hcame k hk
theorem open_at (hv : jobsB ts js = true) (n : Nat) : InvM ts js n (gN ts js p n) (openN ts js p n) ∧ CameM ts js n (lowM (runM ts js p n)) (openN ts js p n) ∧ ∀ k, k < js.length → (k < (openN ts js p n).nx ↔ (jobOf js k).tm ≤ n) := by
  obtain ⟨o1, o2, o3⟩ := open_inv hv (run_at (p := p) hv n).1
  refine ⟨o1, o2, fun k hk => ?_⟩
  have h := (run_at (p := p) hv (n + 1)).2 k hk
  have e : (runM ts js p (n + 1)).nx = (openN ts js p n).nx := by
    cases hc : chN ts js p n with
    | none => rw [tick_idle hc]
    | some c =>
      obtain ⟨b, d, e1, e2, e3⟩ := tick_run hc
      rw [e3, close_nx]
  rw [e] at h
  rw [h]
  omega
theorem opn_len (hv : jobsB ts js = true) {n k : Nat} (h : opn ts js p n k) : k < js.length ∧ (jobOf js k).tm ≤ n := by
  obtain ⟨q, hq, rfl⟩ := h
  obtain ⟨i1, _, i2⟩ := open_at (p := p) hv n
  have hl := Nat.lt_of_lt_of_le (i1.wk q hq).1 i1.nx
  exact ⟨hl, (i2 _ hl).1 (i1.wk q hq).1⟩
theorem opn_of_lft (hv : jobsB ts js = true) {n k : Nat} (h : lft ts js p n k) : opn ts js p n k := by
  obtain ⟨q, hq, rfl⟩ := h
  obtain ⟨_, o2, _⟩ := open_at (p := p) hv n
  obtain ⟨l, e, _⟩ := o2.add
  exact ⟨q, by rw [e]; exact List.mem_append_left _ hq, rfl⟩
theorem opn_iff (hv : jobsB ts js = true) {n k : Nat} : opn ts js p n k ↔ lft ts js p n k ∨ (k < js.length ∧ (jobOf js k).tm = n ∧ (hiN ts js p n = true → (tkJ ts js k).cr = true)) := by
  obtain ⟨o1, o2, o3⟩ := open_at (p := p) hv n
  obtain ⟨l, e, hl⟩ := o2.add
  constructor
  · rintro ⟨q, hq, rfl⟩
    have hq0 := hq
    rw [e] at hq
    rcases List.mem_append.1 hq with hq | hq
    · exact .inl ⟨q, hq, rfl⟩
    · obtain ⟨a1, a2, a3, a4⟩ := hl q hq
      exact .inr ⟨(opn_len hv ⟨q, hq0, rfl⟩).1, a3, fun hh => o1.crit hh q hq0⟩
  · rintro (h | ⟨h1, h2, h3⟩)
    · exact opn_of_lft hv h
    · have hn : k < (openN ts js p n).nx := (o3 k h1).2 (by omega)
      have hm : (lowM (runM ts js p n)).nx ≤ k := by
        have := (run_at (p := p) hv n).2 k h1
        show (runM ts js p n).nx ≤ k
        omega
      rcases (o2.mid k hm hn).2 with h | ⟨_, hh, hc⟩
      · obtain ⟨q, hq, e⟩ := o1.left k hn h
        exact ⟨q, hq, e⟩
      · have := h3 (by unfold hiN; rw [o2.hi]; exact hh)
        rw [hc] at this; cases this
theorem ch_none (hv : jobsB ts js = true) {n : Nat} (h : chN ts js p n = none) (k : Nat) : ¬ opn ts js p n k := by
  rintro ⟨q, hq, _⟩
  unfold chN at h
  rw [Option.map_eq_none_iff] at h
  rw [pick_none h] at hq
  cases hq
theorem ch_some (hv : jobsB ts js = true) {n c : Nat} (h : chN ts js p n = some c) : opn ts js p n c ∧ ∀ k, opn ts js p n k → firstB ts p (hiN ts js p n) (jobOf js k) (jobOf js c) = false := by
  unfold chN at h
  obtain ⟨⟨k0, d⟩, h1, h2⟩ := Option.map_eq_some_iff.1 h
  dsimp only at h2
  subst h2
  refine ⟨⟨_, List.mem_of_getElem? h1, rfl⟩, ?_⟩
  rintro k ⟨q, hq, rfl⟩
  obtain ⟨i, hi⟩ := List.mem_iff_getElem?.1 hq
  have hil := (List.getElem?_eq_some_iff.1 hi).1
  have hb := best_min (lt := ltM ts js p (openN ts js p n).hi) (fun a b c h1 h2 => first_trans h1 h2) (fun a => first_self _) ((openN ts js p n).wk.map Prod.fst) ((openN ts js p n).wk.length - 1) i (by omega)
  have e1 : ((openN ts js p n).wk.map Prod.fst).getD i 0 = q.1 := by simp [List.getD, List.getElem?_map, hi]
  have e2 : ((openN ts js p n).wk.map Prod.fst).getD (bestTo (ltM ts js p (openN ts js p n).hi) ((openN ts js p n).wk.map Prod.fst) ((openN ts js p n).wk.length - 1)) 0 = k0 := by
    unfold bestM at h1
    simp [List.getD, List.getElem?_map, h1]
  rw [e1, e2] at hb
  exact hb
theorem close_wk {now : Int} {b k : Nat} {d : Int} {s : Mc} (hb : s.wk[b]? = some (k, d)) {q : Nat × Int} (h : q ∈ (closeM ts js now b k d s).wk) : ∃ r, r ∈ s.wk ∧ r.1 = q.1 := by
  have hbl := (List.getElem?_eq_some_iff.1 hb).1
  have hset : ∀ q, q ∈ s.wk.set b (k, d + 1) → ∃ r, r ∈ s.wk ∧ r.1 = q.1 := fun q hq => by
    rcases (mem_set_iff' hbl).1 hq with rfl | ⟨i, _, hi⟩
    · exact ⟨(k, d), List.mem_of_getElem? hb, rfl⟩
    · exact ⟨q, List.mem_of_getElem? hi, rfl⟩
  unfold closeM at h
  split at h
  · obtain ⟨i, _, hi⟩ := mem_erase_iff'.1 h
    exact ⟨q, List.mem_of_getElem? hi, rfl⟩
  · split at h
    · exact hset q (List.mem_filter.1 h).1
    · exact hset q h
/-- What is left after a tick was there at the tick. -/
theorem opn_of_next (hv : jobsB ts js = true) {n k : Nat} (h : lft ts js p (n + 1) k) : opn ts js p n k := by
  obtain ⟨q, hq, rfl⟩ := h
  cases hc : chN ts js p n with
  | none => rw [tick_idle hc] at hq; exact ⟨q, hq, rfl⟩
  | some c =>
    obtain ⟨b, d, e1, e2, e3⟩ := tick_run hc
    rw [e3] at hq
    obtain ⟨r, hr, e⟩ := close_wk e1 hq
    exact ⟨r, hr, e⟩
theorem sw_run {n c : Nat} (h : chN ts js p n = some c) : swN ts js p n = (!hiN ts js p n && ((tkJ ts js c).cr && (decide (gN ts js p (n + 1) c = (tkJ ts js c).lo) && !decide (gN ts js p (n + 1) c = (jobOf js c).ne)))) := by unfold swN; rw [h]
/-- The three ways of a tick at which a job runs. -/
theorem close_cases (hv : jobsB ts js = true) {n c : Nat} (h : chN ts js p n = some c) : ∃ b d, (openN ts js p n).wk[b]? = some (c, d) ∧ gN ts js p (n + 1) c = d + 1 ∧ c < js.length ∧
    (((jobOf js c).ne = gN ts js p (n + 1) c ∧ swN ts js p n = false ∧ runM ts js p (n + 1) = { openN ts js p n with tr := (openN ts js p n).tr ++ [(jobOf js c).ta], en := (openN ts js p n).en.set c ((n : Int) + 1), wk := (openN ts js p n).wk.eraseIdx b }) ∨
    (gN ts js p (n + 1) c < (jobOf js c).ne ∧ swN ts js p n = true ∧ runM ts js p (n + 1) = swM ts js ((n : Int) + 1) { openN ts js p n with tr := (openN ts js p n).tr ++ [(jobOf js c).ta], wk := (openN ts js p n).wk.set b (c, d + 1) }) ∨
    (gN ts js p (n + 1) c < (jobOf js c).ne ∧ swN ts js p n = false ∧ runM ts js p (n + 1) = { openN ts js p n with tr := (openN ts js p n).tr ++ [(jobOf js c).ta], wk := (openN ts js p n).wk.set b (c, d + 1) })) := by
  obtain ⟨b, d, e1, e2, e3⟩ := tick_run h
  obtain ⟨o1, _, _⟩ := open_at (p := p) hv n
  obtain ⟨w1, w2, w3, w4⟩ := o1.wk _ (List.mem_of_getElem? e1)
  dsimp only at w1 w2 w3 w4
  have hg : gN ts js p (n + 1) c = d + 1 := by rw [gN_up h, upG_same, w3]
  refine ⟨b, d, e1, hg, Nat.lt_of_lt_of_le w1 o1.nx, ?_⟩
  have hsw := sw_run h
  rw [hg] at hsw ⊢
  rw [e3]
  unfold closeM
  by_cases hend : d + 1 = (jobOf js c).ne
  · refine .inl ⟨hend.symm, by rw [hsw]; simp [hend], ?_⟩
    rw [if_pos hend]
  · rw [if_neg hend]
    have hlt : d + 1 < (jobOf js c).ne := by omega
    by_cases hs : (!(openN ts js p n).hi && ((tkJ ts js c).cr && decide (d + 1 = (tkJ ts js c).lo))) = true
    · refine .inr (.inl ⟨hlt, ?_, by rw [if_pos hs]⟩)
      rw [hsw]
      simp at hs
      simp [hiN, hs]
      intro e
      omega
    · refine .inr (.inr ⟨hlt, ?_, by rw [if_neg hs]⟩)
      rw [hsw]
      simp at hs
      simp [hiN]
      intro h1 h2 h3
      exact absurd h3 (hs h1 h2)
theorem tr_next (hv : jobsB ts js = true) (n : Nat) : (runM ts js p (n + 1)).tr = (runM ts js p n).tr ++ [outN ts js p n] := by
  have o2 := (open_at (p := p) hv n).2.1
  have e0 : (openN ts js p n).tr = (runM ts js p n).tr := o2.tr
  unfold outN
  cases hc : chN ts js p n with
  | none => rw [tick_idle hc]; simp [e0]
  | some c =>
    obtain ⟨b, d, e1, e2, _, ⟨_, s, e⟩ | ⟨_, s, e⟩ | ⟨_, s, e⟩⟩ := close_cases hv hc
    · rw [e]; simp [e0]
    · rw [e]; simp [swM, e0]
    · rw [e]; simp [e0]
theorem g_zero (hv : jobsB ts js = true) {n k : Nat} (hk : k < js.length) (h : n ≤ (jobOf js k).tm) : gN ts js p n k = 0 := by
  obtain ⟨i1, i2⟩ := run_at (p := p) hv n
  refine (i1.new k ?_).1
  have := (i2 k hk)
  omega
/-- A job that is left was open since it came. -/
theorem opn_since (hv : jobsB ts js = true) {n k : Nat} (h : lft ts js p n k) : ∀ u : Nat, (jobOf js k).tm ≤ u → u < n → opn ts js p u k := by
  induction n with
  | zero => intro u _ hu; omega
  | succ n ih =>
    intro u h1 h2
    have ho := opn_of_next hv h
    by_cases e : u = n
    · rw [e]; exact ho
    · rcases (opn_iff hv).1 ho with hl | ⟨_, ht, _⟩
      · exact ih hl u h1 (by omega)
      · omega
theorem lft_since (hv : jobsB ts js = true) {n k : Nat} (h : lft ts js p n k) {u : Nat} (h1 : (jobOf js k).tm < u) (h2 : u ≤ n) : lft ts js p u k := by
  by_cases e : u = n
  · rw [e]; exact h
  · rcases (opn_iff hv).1 (opn_since hv h u (by omega) (by omega)) with hl | ⟨_, ht, _⟩
    · exact hl
    · omega
/-- A job that came and is not left does nothing any more. -/
theorem g_same (hv : jobsB ts js = true) {n k : Nat} (ht : (jobOf js k).tm < n) (h : ¬ lft ts js p n k) : ∀ m, n ≤ m → gN ts js p m k = gN ts js p n k ∧ ¬ lft ts js p m k := by
  intro m hm
  have hl : ¬ lft ts js p m k := fun hx => h (lft_since hv hx ht hm)
  refine ⟨?_, hl⟩
  induction hm with
  | refl => rfl
  | @step m hm ih =>
    have hlm : ¬ lft ts js p m k := fun hx => h (lft_since hv hx ht hm)
    rw [← ih hlm]
    show (if chN ts js p m = some k then gN ts js p m k + 1 else gN ts js p m k) = _
    rw [if_neg]
    intro hc
    rcases (opn_iff hv).1 (ch_some hv hc).1 with hx | ⟨_, hx, _⟩
    · exact hlm hx
    · have : n ≤ m := hm
      omega
end
end
section
open Go.RowKit
set_option linter.unusedVariables false
section
variable {ts : List Tk} {js : List Jb} {p : Po}
theorem tkOf_get {k : Nat} {t : Tk} (h : ts[k]? = some t) : tkOf ts (k : Int) = t := by unfold tkOf; simp [List.getD, h]
theorem ch_place (hv : jobsB ts js = true) (hd : p.due = false) {n c k : Nat} (hc : chN ts js p n = some c) (hk : opn ts js p n k) : (jobOf js c).ta < (jobOf js k).ta ∨ ((jobOf js c).ta = (jobOf js k).ta ∧ (jobOf js c).tm ≤ (jobOf js k).tm) := by
  have h := (ch_some hv hc).2 k hk
  have h2 : ¬ ((jobOf js k).ta < (jobOf js c).ta ∨ ((jobOf js k).ta = (jobOf js c).ta ∧ (jobOf js k).tm < (jobOf js c).tm)) := fun e => by rw [(firstB_place hd).2 e] at h; cases h
  omega
theorem ch_ex (hv : jobsB ts js = true) {n k : Nat} (hk : opn ts js p n k) : ∃ c, chN ts js p n = some c := by
  cases h : chN ts js p n with
  | none => exact absurd hk (ch_none hv h k)
  | some c => exact ⟨c, rfl⟩
/-- What is known of a job that runs by place: its task, from when on those before it were busy. -/
structure FpAt (ts : List Tk) (js : List Jb) (p : Po) (i k t0 a t : Nat) : Prop where
  due : p.due = false
  len : k < js.length
  ta : (jobOf js k).ta = (i : Int)
  tm : (jobOf js k).tm = (a : Int)
  le : t0 ≤ a
  lt : a < t
  left : lft ts js p t k
  start : ∀ q, lft ts js p t0 q → ¬ (jobOf js q).ta < (i : Int)
  busy : ∀ u, t0 < u → u ≤ a → ∃ q, lft ts js p u q ∧ (jobOf js q).ta < (i : Int)
  prev : ∀ c, c < js.length → (jobOf js c).ta = (i : Int) → (jobOf js c).tm < (a : Int) → ¬ lft ts js p a c
theorem FpAt.runs (hv : jobsB ts js = true) {i k t0 a t : Nat} (h : FpAt ts js p i k t0 a t) : ∀ u, t0 ≤ u → u < t → ∃ c, chN ts js p u = some c ∧ ((jobOf js c).ta < (i : Int) ∨ c = k) := by
  intro u h1 h2
  by_cases hua : u < a
  · obtain ⟨q, hq, hqi⟩ := h.busy (u + 1) (by omega) (by omega)
    have ho := opn_of_next hv hq
    obtain ⟨c, hc⟩ := ch_ex hv ho
    refine ⟨c, hc, .inl ?_⟩
    have := ch_place hv h.due hc ho
    omega
  · have ho := opn_since hv h.left u (by rw [h.tm]; omega) h2
    obtain ⟨c, hc⟩ := ch_ex hv ho
    refine ⟨c, hc, ?_⟩
    rcases ch_place hv h.due hc ho with e | ⟨e1, e2⟩
    · rw [h.ta] at e; exact .inl e
    · right
      have hoc := (ch_some hv hc).1
      have hcl := (opn_len hv hoc).1
      rw [h.ta] at e1
      rw [h.tm] at e2
      by_cases hlt : (jobOf js c).tm < (a : Int)
      · exfalso
        have hn := h.prev c hcl e1 hlt
        have hn2 := (g_same hv hlt hn u (by omega)).2
        rcases (opn_iff hv).1 hoc with hl | ⟨_, hx, _⟩
        · exact hn2 hl
        · omega
      · -- the same task at the same time: the same job
        rcases Nat.lt_trichotomy c k with hh | hh | hh
        · have := tm_far hv hh h.len (by rw [e1, h.ta])
          have := tk_nums (job_ok hv h.len).2.2.2.2.2.2.2
          rw [h.tm] at *
          omega
        · exact hh
        · have := tm_far hv hh hcl (by rw [e1, h.ta])
          have := tk_nums (job_ok hv hcl).2.2.2.2.2.2.2
          rw [h.tm] at *
          omega
theorem FpAt.some (hv : jobsB ts js = true) {i k t0 a t : Nat} (h : FpAt ts js p i k t0 a t) : ∀ u, t0 < u → u ≤ t → ∃ q, lft ts js p u q := by
  intro u h1 h2
  by_cases hua : u ≤ a
  · obtain ⟨q, hq, _⟩ := h.busy u h1 hua
    exact ⟨q, hq⟩
  · exact ⟨k, lft_since hv h.left (by rw [h.tm]; omega) h2⟩
/-- Before the first time nothing of a job was done. -/
theorem FpAt.zero (hv : jobsB ts js = true) {i k t0 a t : Nat} (h : FpAt ts js p i k t0 a t) : gN ts js p t0 k = 0 := g_zero hv h.len (by rw [h.tm]; have := h.le; omega)
theorem FpAt.before (hv : jobsB ts js = true) {i k t0 a t : Nat} (h : FpAt ts js p i k t0 a t) {q : Nat} (hq : (jobOf js q).ta < (i : Int)) (ht : (jobOf js q).tm < (t0 : Int)) {m : Nat} (hm : t0 ≤ m) : gN ts js p m q - gN ts js p t0 q = 0 := by
  rw [(g_same hv ht (fun hl => h.start q hl hq) m hm).1]; omega
end
end
section
open Go.RowKit
set_option linter.unusedVariables false
section
variable {ts : List Tk} {js : List Jb} {p : Po}
theorem tr_len (hv : jobsB ts js = true) : ∀ n, (runM ts js p n).tr.length = n
  | 0 => rfl
  | n + 1 => by rw [tr_next hv, List.length_append, tr_len hv n]; rfl
end
end
end Go.Proofs.YtgponahmkjohiabGreatDoor
