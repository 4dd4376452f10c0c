/- Texts of this seat in one file: JbA, JbB, JbC, JbD, JbH, JbW, Jb, HiI, HiM, Pcs, JbT, PHas, Insert, Resp, RespT. -/
import Derived.Test.YtflilandcjnpjaaM1
import Derived.Lib.ItoaNum
import Derived.RegionTactic
import Derived.ChangeAlike
import Derived.Laws.CopyRow
import Derived.Laws.Externs
import Derived.Lib.Overlaps
import Derived.Deep.RegionLaw
namespace Go.Proofs.Ytflilandcjnpjaa

section
/- Jobs as plain data: when they are valid, what they need, where one is put. No program in this text. -/
open Go.RowKit
set_option linter.unusedVariables false

/-- A job as plain data. -/
structure Jb where
  ta : Int
  tm : Int
  ne : Int
theorem Jb.eq_of {a b : Jb} (h1 : a.ta = b.ta) (h2 : a.tm = b.tm) (h3 : a.ne = b.ne) : a = b := by
  cases a; cases b; simp_all
def tk0 : Tk := ⟨0, 0, 0, 0, false⟩
def tkOf (ts : List Tk) (z : Int) : Tk := ts.getD z.toNat tk0
def jobB (ts : List Tk) (j : Jb) : Bool := decide (0 ≤ j.ta) && (decide (j.ta < (ts.length : Int)) && (decide (0 ≤ j.tm) && (decide (j.tm ≤ 200) && (decide (1 ≤ j.ne) && decide (j.ne ≤ (tkOf ts j.ta).hi)))))
def befB (a b : Jb) : Bool := decide (a.tm < b.tm) || (decide (a.tm = b.tm) && decide (a.ta < b.ta))
def farB (ts : List Tk) (a b : Jb) : Bool := befB a b && (!decide (a.ta = b.ta) || decide ((tkOf ts b.ta).ev ≤ b.tm - a.tm))
def pairB (ts : List Tk) : List Jb → Bool
  | [] => true
  | j :: js => js.all (farB ts j) && pairB ts js
def jobsB (ts : List Tk) (js : List Jb) : Bool := setB ts && (decide (js.length ≤ 60) && (js.all (jobB ts) && pairB ts js))
/-- Whether the numbers of a job can be written. -/
def wrB (j : Jb) : Bool := decide (0 ≤ j.ta) && (decide (j.ta < 5) && (decide (0 ≤ j.tm) && (decide (j.tm ≤ 200) && (decide (1 ≤ j.ne) && decide (j.ne ≤ 20)))))
def wrsB (js : List Jb) : Bool := decide (js.length ≤ 60) && js.all wrB
/-- When the last job of a task came. -/
def lastAt (js : List Jb) (k : Int) : Int := js.foldl (fun a j => if j.ta = k then j.tm else a) (-20)
def lastL (n : Nat) (js : List Jb) : List Int := (List.range n).map fun (k : Nat) => lastAt js (k : Int)
def dueJ (ts : List Tk) (j : Jb) : Bool × Int := if setB ts && jobB ts j then (true, j.tm + (tkOf ts j.ta).du) else (false, 0)
def sumJ (z : Int) (js : List Jb) : Int := js.foldl (fun a j => if j.ta = z then a + j.ne else a) 0
def needJ (js : List Jb) (z : Int) : Int := if wrsB js then sumJ z js else 0
/-- The place at which a job is put: behind the last one that it does not come before. -/
def putAt (j : Jb) (js : List Jb) : Nat := (js.reverse.dropWhile (befB j)).length
def putL (j : Jb) (js : List Jb) : List Jb := js.take (putAt j js) ++ j :: js.drop (putAt j js)
def putB (ts : List Tk) (js : List Jb) (j : Jb) : Bool := jobsB ts js && jobsB ts (putL j js)
def putV (ts : List Tk) (js : List Jb) (j : Jb) : List Jb := if putB ts js j then putL j js else []

theorem snoc_ind {α : Type} {P : List α → Prop} (h0 : P []) (h1 : ∀ l a, P l → P (l ++ [a])) (l : List α) : P l := by
  have : ∀ m : List α, P m.reverse := fun m => by
    induction m with
    | nil => exact h0
    | cons a m ih => rw [List.reverse_cons]; exact h1 _ _ ih
  have e := this l.reverse
  rwa [List.reverse_reverse] at e
theorem jobB_iff {ts : List Tk} {j : Jb} : jobB ts j = true ↔ 0 ≤ j.ta ∧ j.ta < (ts.length : Int) ∧ 0 ≤ j.tm ∧ j.tm ≤ 200 ∧ 1 ≤ j.ne ∧ j.ne ≤ (tkOf ts j.ta).hi := by unfold jobB; simp
theorem befB_iff {a b : Jb} : befB a b = true ↔ a.tm < b.tm ∨ (a.tm = b.tm ∧ a.ta < b.ta) := by unfold befB; simp
theorem farB_iff {ts : List Tk} {a b : Jb} : farB ts a b = true ↔ (a.tm < b.tm ∨ (a.tm = b.tm ∧ a.ta < b.ta)) ∧ (a.ta = b.ta → (tkOf ts b.ta).ev ≤ b.tm - a.tm) := by
  unfold farB
  rw [Bool.and_eq_true, befB_iff]
  by_cases h : a.ta = b.ta <;> simp [h]
theorem wrB_iff {j : Jb} : wrB j = true ↔ 0 ≤ j.ta ∧ j.ta < 5 ∧ 0 ≤ j.tm ∧ j.tm ≤ 200 ∧ 1 ≤ j.ne ∧ j.ne ≤ 20 := by unfold wrB; simp
theorem bef_trans {a b c : Jb} (h1 : befB a b = true) (h2 : befB b c = true) : befB a c = true := by
  rw [befB_iff] at *; omega
theorem pairB_iff {ts : List Tk} : ∀ {js : List Jb}, pairB ts js = true ↔ js.Pairwise (fun a b => farB ts a b = true)
  | [] => by simp [pairB]
  | j :: js => by rw [pairB, Bool.and_eq_true, List.all_eq_true, pairB_iff, List.pairwise_cons]
theorem pair_snoc {ts : List Tk} {js : List Jb} {j : Jb} : pairB ts (js ++ [j]) = true ↔ pairB ts js = true ∧ ∀ a ∈ js, farB ts a j = true := by
  rw [pairB_iff, pairB_iff, List.pairwise_append]
  simp
theorem lastAt_snoc (js : List Jb) (j : Jb) (k : Int) : lastAt (js ++ [j]) k = if j.ta = k then j.tm else lastAt js k := by unfold lastAt; rw [List.foldl_append]; rfl
theorem lastAt_mem : ∀ (js : List Jb) (k : Int), (∃ j ∈ js, j.ta = k ∧ lastAt js k = j.tm) ∨ ((∀ j ∈ js, ¬ j.ta = k) ∧ lastAt js k = -20) := by
  intro js k
  refine snoc_ind (P := fun js => (∃ j ∈ js, j.ta = k ∧ lastAt js k = j.tm) ∨ ((∀ j ∈ js, ¬ j.ta = k) ∧ lastAt js k = -20)) (.inr ⟨by simp, rfl⟩) (fun js j ih => ?_) js
  · skip
    rw [lastAt_snoc]
    by_cases h : j.ta = k
    · exact .inl ⟨j, by simp, h, by rw [if_pos h]⟩
    · rw [if_neg h]
      rcases ih with ⟨a, ha, h1, h2⟩ | ⟨h1, h2⟩
      · exact .inl ⟨a, by simp [ha], h1, h2⟩
      · exact .inr ⟨fun a ha => by
          rcases List.mem_append.1 ha with ha | ha
          · exact h1 a ha
          · rw [List.mem_singleton.1 ha]; exact h, h2⟩
/-- In jobs that are in order the last of a task came latest. -/
theorem lastAt_ge {ts : List Tk} {js : List Jb} (hp : pairB ts js = true) {a : Jb} (ha : a ∈ js) : a.tm ≤ lastAt js a.ta := by
  revert ha hp
  refine snoc_ind (P := fun js => pairB ts js = true → a ∈ js → a.tm ≤ lastAt js a.ta) (fun _ ha => by simp at ha) (fun js j ih => ?_) js
  · intro hp ha
    obtain ⟨h1, h2⟩ := pair_snoc.1 hp
    rw [lastAt_snoc]
    rcases List.mem_append.1 ha with h | h
    · split
      · have := (farB_iff.1 (h2 a h)).1; omega
      · exact ih h1 h
    · rw [List.mem_singleton.1 h, if_pos rfl]; exact Int.le_refl _
theorem ev_of {ts : List Tk} (hs : setB ts = true) {z : Int} (h0 : 0 ≤ z) (h1 : z < (ts.length : Int)) : ∃ t, ts[z.toNat]? = some t ∧ tkOf ts z = t ∧ t ∈ ts ∧ t.ok = true := by
  have hk : z.toNat < ts.length := by omega
  refine ⟨ts[z.toNat], List.getElem?_eq_getElem hk, ?_, List.getElem_mem _, ?_⟩
  · unfold tkOf; simp [List.getD, List.getElem?_eq_getElem hk]
  · unfold setB at hs
    simp at hs
    exact hs.2 _ (List.getElem_mem _)

/-- Whether the next job fits behind valid ones, as one looks at it: it is a job, comes behind the one before, and far enough behind the last one of its task. -/
def nextB (ts : List Tk) (js : List Jb) (j : Jb) : Bool := jobB ts j && ((js.getLast?.map fun a => befB a j).getD true && decide ((tkOf ts j.ta).ev ≤ j.tm - lastAt js j.ta))
theorem next_iff {ts : List Tk} (hs : setB ts = true) {js : List Jb} {j : Jb} (hp : pairB ts js = true) : (jobB ts j = true ∧ ∀ a ∈ js, farB ts a j = true) ↔ nextB ts js j = true := by
  unfold nextB
  rw [Bool.and_eq_true, Bool.and_eq_true, decide_eq_true_iff]
  constructor
  · rintro ⟨hj, hall⟩
    refine ⟨hj, ?_, ?_⟩
    · rcases js.eq_nil_or_concat with rfl | ⟨l, a, rfl⟩
      · rfl
      · have := hall a (by simp)
        unfold farB at this
        rw [Bool.and_eq_true] at this
        simpa using this.1
    · obtain ⟨b1, b2, b3, _⟩ := jobB_iff.1 hj
      rcases lastAt_mem js j.ta with ⟨a, ha, e1, e2⟩ | ⟨_, e2⟩
      · rw [e2]; exact (farB_iff.1 (hall a ha)).2 e1
      · obtain ⟨t, _, e, _, hok⟩ := ev_of hs b1 b2
        rw [e2, e]
        unfold Tk.ok validB at hok
        simp at hok
        omega
  · rintro ⟨hj, h1, h2⟩
    refine ⟨hj, fun a ha => farB_iff.2 ⟨?_, fun e => ?_⟩⟩
    · rcases js.eq_nil_or_concat with rfl | ⟨l, b, rfl⟩
      · simp at ha
      · have hb : befB b j = true := by simpa using h1
        rcases List.mem_append.1 (by simpa using ha : a ∈ l ++ [b]) with h | h
        · have hp' := hp
          rw [List.concat_eq_append] at hp'
          have := (pair_snoc.1 hp').2 a h
          unfold farB at this
          rw [Bool.and_eq_true] at this
          exact befB_iff.1 (bef_trans this.1 hb)
        · rw [List.mem_singleton.1 h]; exact befB_iff.1 hb
    · have := lastAt_ge hp ha
      rw [e] at this
      omega
/-- Jobs up to a place: one more. -/
theorem jobs_step {ts : List Tk} (hs : setB ts = true) {js : List Jb} {j : Jb} (h : js.all (jobB ts) = true ∧ pairB ts js = true) : ((js ++ [j]).all (jobB ts) = true ∧ pairB ts (js ++ [j]) = true) ↔ nextB ts js j = true := by
  rw [← next_iff hs h.2, List.all_append, Bool.and_eq_true, pair_snoc]
  constructor
  · rintro ⟨⟨_, h2⟩, _, h3⟩
    exact ⟨by simpa using h2, h3⟩
  · rintro ⟨h1, h2⟩
    exact ⟨⟨h.1, by simpa using h1⟩, h.2, h2⟩
/-- What holds of all holds of the first ones. -/
theorem jobs_take {ts : List Tk} {js : List Jb} (k : Nat) (h : js.all (jobB ts) = true ∧ pairB ts js = true) : (js.take k).all (jobB ts) = true ∧ pairB ts (js.take k) = true := by
  refine ⟨?_, pairB_iff.2 ((pairB_iff.1 h.2).sublist (List.take_sublist _ _))⟩
  rw [List.all_eq_true] at *
  exact fun x hx => h.1 x (List.mem_of_mem_take hx)
end

section
/- What the laws of jobs say, of plain data: jobs that are put, parts of jobs, needs. No program in this text. -/
open Go.RowKit
set_option linter.unusedVariables false

theorem bef_asym {a b : Jb} (h : befB a b = true) : befB b a = false := by
  cases hh : befB b a
  · rfl
  · rw [befB_iff] at *; omega
theorem bef_irr (a : Jb) : befB a a = false := by
  cases hh : befB a a
  · rfl
  · rw [befB_iff] at hh; omega
theorem jobs_parts {ts : List Tk} {js : List Jb} : jobsB ts js = true ↔ setB ts = true ∧ js.length ≤ 60 ∧ (js.all (jobB ts) = true ∧ pairB ts js = true) := by unfold jobsB; simp
theorem jobs_set {ts : List Tk} {js : List Jb} (h : jobsB ts js = true) : setB ts = true := (jobs_parts.1 h).1
theorem jobs_len {ts : List Tk} {js : List Jb} (h : jobsB ts js = true) : js.length ≤ 60 := (jobs_parts.1 h).2.1
theorem jobs_job {ts : List Tk} {js : List Jb} (h : jobsB ts js = true) {j : Jb} (hj : j ∈ js) : jobB ts j = true := List.all_eq_true.1 (jobs_parts.1 h).2.2.1 j hj
theorem jobs_pre {ts : List Tk} {js : List Jb} (k : Nat) (h : jobsB ts js = true) : jobsB ts (js.take k) = true :=
  jobs_parts.2 ⟨jobs_set h, by have := jobs_len h; rw [List.length_take]; omega, jobs_take k (jobs_parts.1 h).2.2⟩
theorem jobs_sub {ts : List Tk} {js ks : List Jb} (hs : ks.Sublist js) (h : jobsB ts js = true) : jobsB ts ks = true := by
  obtain ⟨h1, h2, h3, h4⟩ := jobs_parts.1 h
  refine jobs_parts.2 ⟨h1, Nat.le_trans hs.length_le h2, ?_, pairB_iff.2 ((pairB_iff.1 h4).sublist hs)⟩
  rw [List.all_eq_true] at *
  exact fun x hx => h3 x (hs.subset hx)
/-- Two of valid jobs: the later one is not before, and far enough behind if it is of the same task. -/
theorem jobs_two {ts : List Tk} {js : List Jb} (h : jobsB ts js = true) {i k : Nat} {a b : Jb} (ha : js[i]? = some a) (hb : js[k]? = some b) (hik : i < k) : farB ts a b = true := by
  have hp := pairB_iff.1 (jobs_parts.1 h).2.2.2
  obtain ⟨hi, rfl⟩ := List.getElem?_eq_some_iff.1 ha
  obtain ⟨hk, rfl⟩ := List.getElem?_eq_some_iff.1 hb
  exact List.pairwise_iff_getElem.1 hp i k hi hk hik
theorem jobs_wr {ts : List Tk} {j : Jb} (hs : setB ts = true) (h : jobB ts j = true) : wrB j = true := by
  obtain ⟨h1, h2, h3, h4, h5, h6⟩ := jobB_iff.1 h
  obtain ⟨t, _, e, ht, hok⟩ := ev_of hs h1 h2
  have h5' := setB_len hs
  rw [e] at h6
  unfold Tk.ok validB at hok
  simp at hok
  exact wrB_iff.2 ⟨h1, by omega, h3, h4, h5, by omega⟩
theorem jobs_wrs {ts : List Tk} {js : List Jb} (h : jobsB ts js = true) : wrsB js = true := by
  unfold wrsB
  simp only [Bool.and_eq_true, decide_eq_true_iff, List.all_eq_true]
  exact ⟨jobs_len h, fun j hj => jobs_wr (jobs_set h) (jobs_job h hj)⟩

/-- Where a job is put, counted while one looks from the end. -/
theorem putAt_spec {j : Jb} {js : List Jb} : putAt j js ≤ js.length ∧ (∀ a ∈ js.drop (putAt j js), befB j a = true) ∧ (∀ k, putAt j js = k + 1 → ∀ a, js[k]? = some a → befB j a = false) := by
  unfold putAt
  refine snoc_ind (P := fun js => (js.reverse.dropWhile (befB j)).length ≤ js.length ∧ (∀ a ∈ js.drop (js.reverse.dropWhile (befB j)).length, befB j a = true) ∧ (∀ k, (js.reverse.dropWhile (befB j)).length = k + 1 → ∀ a, js[k]? = some a → befB j a = false)) (by simp) (fun l a ih => ?_) js
  rw [List.reverse_append, List.reverse_singleton, List.singleton_append, List.dropWhile_cons]
  obtain ⟨h1, h2, h3⟩ := ih
  cases hb : befB j a
  · simp only [Bool.false_eq_true, if_false, List.length_cons, List.length_reverse, List.length_append]
    refine ⟨Nat.le_refl _, fun x hx => ?_, fun k hk x hx => ?_⟩
    · rw [List.drop_of_length_le (by simp)] at hx; simp at hx
    · have : k = l.length := by omega
      subst this
      simp at hx
      rw [← hx]; exact hb
  · simp only [if_true, List.length_append, List.length_singleton]
    refine ⟨by omega, fun x hx => ?_, fun k hk x hx => ?_⟩
    · rw [List.drop_append_of_le_length h1] at hx
      rcases List.mem_append.1 hx with h | h
      · exact h2 x h
      · rw [List.mem_singleton.1 h]; exact hb
    · rw [List.getElem?_append_left (by omega)] at hx
      exact h3 k hk x hx
theorem putAt_is {j : Jb} {js : List Jb} {k : Nat} (hk : k ≤ js.length) (h1 : ∀ a ∈ js.drop k, befB j a = true) (h2 : ∀ i, k = i + 1 → ∀ a, js[i]? = some a → befB j a = false) : putAt j js = k := by
  obtain ⟨p1, p2, p3⟩ := putAt_spec (j := j) (js := js)
  rcases Nat.lt_trichotomy (putAt j js) k with h | h | h
  · obtain ⟨i, rfl⟩ : ∃ i, k = i + 1 := ⟨k - 1, by omega⟩
    have hi : i < js.length := by omega
    have e := h2 i rfl js[i] (List.getElem?_eq_getElem hi)
    have : js[i] ∈ js.drop (putAt j js) := List.mem_iff_getElem?.2 ⟨i - putAt j js, by rw [List.getElem?_drop, show putAt j js + (i - putAt j js) = i by omega]; exact List.getElem?_eq_getElem hi⟩
    rw [p2 _ this] at e; cases e
  · exact h
  · obtain ⟨i, hi⟩ : ∃ i, putAt j js = i + 1 := ⟨putAt j js - 1, by omega⟩
    have hil : i < js.length := by omega
    have e := p3 i hi js[i] (List.getElem?_eq_getElem hil)
    have : js[i] ∈ js.drop k := List.mem_iff_getElem?.2 ⟨i - k, by rw [List.getElem?_drop, show k + (i - k) = i by omega]; exact List.getElem?_eq_getElem hil⟩
    rw [h1 _ this] at e; cases e
theorem putL_len (j : Jb) (js : List Jb) : (putL j js).length = js.length + 1 := by
  have := (putAt_spec (j := j) (js := js)).1
  unfold putL
  simp
  omega
theorem putL_mem (j : Jb) (js : List Jb) : j ∈ putL j js := by unfold putL; simp
/-- What is put among valid jobs and leaves them valid is there once, and the rest is what was there. -/
theorem put_once {ts : List Tk} {js : List Jb} {j : Jb} (h : jobsB ts (putL j js) = true) : (∀ a ∈ js.take (putAt j js), ¬ a = j) ∧ (∀ a ∈ js.drop (putAt j js), ¬ a = j) := by
  have hp := pairB_iff.1 (jobs_parts.1 h).2.2.2
  unfold putL at hp
  rw [List.pairwise_append] at hp
  obtain ⟨_, h2, h3⟩ := hp
  rw [List.pairwise_cons] at h2
  have irr : ¬ farB ts j j = true := fun e => by
    have := (farB_iff.1 e).1; omega
  exact ⟨fun a ha e => irr (by have := h3 a ha j (by simp); rwa [e] at this), fun a ha e => irr (by have := h2.1 a ha; rwa [e] at this)⟩
/-- A job is not put twice. -/
theorem put_twice {ts : List Tk} {js : List Jb} {j : Jb} (h : j ∈ js) : jobsB ts (putL j js) = false := by
  cases hh : jobsB ts (putL j js)
  · rfl
  · obtain ⟨h1, h2⟩ := put_once hh
    rw [← List.take_append_drop (putAt j js) js] at h
    rcases List.mem_append.1 h with h | h
    · exact absurd rfl (h1 j h)
    · exact absurd rfl (h2 j h)
/-- Valid jobs are their first ones with the last one put among them. -/
theorem put_last {ts : List Tk} {js : List Jb} {j : Jb} (h : jobsB ts (js ++ [j]) = true) : putL j js = js ++ [j] := by
  have hp := (pair_snoc.1 (jobs_parts.1 h).2.2.2).2
  have e : putAt j js = js.length := putAt_is (Nat.le_refl _) (fun a ha => by rw [List.drop_length] at ha; simp at ha) (fun i hi a ha => by
    have hf := hp a (List.mem_of_getElem? ha)
    unfold farB at hf
    rw [Bool.and_eq_true] at hf
    exact bef_asym hf.1)
  unfold putL
  rw [e, List.take_length, List.drop_length]
/-- Two jobs that change places are not valid. -/
theorem turn_bad {ts : List Tk} {a b : Jb} {r : List Jb} (h : jobsB ts (a :: b :: r) = true) : jobsB ts (b :: a :: r) = false := by
  cases hh : jobsB ts (b :: a :: r)
  · rfl
  · have h1 := jobs_two h (i := 0) (k := 1) rfl rfl (by omega)
    have h2 := jobs_two hh (i := 0) (k := 1) rfl rfl (by omega)
    have := (farB_iff.1 h1).1
    have := (farB_iff.1 h2).1
    omega

theorem sumJ_app (z : Int) (xs ys : List Jb) : sumJ z (xs ++ ys) = sumJ z xs + sumJ z ys := by
  have gen : ∀ (l : List Jb) (a : Int), l.foldl (fun a j => if j.ta = z then a + j.ne else a) a = a + l.foldl (fun a j => if j.ta = z then a + j.ne else a) 0 := by
    intro l
    induction l with
    | nil => intro a; simp
    | cons j l ih => intro a; simp only [List.foldl_cons]; rw [ih, ih (if j.ta = z then 0 + j.ne else 0)]; split <;> omega
  unfold sumJ
  rw [List.foldl_append, gen]
theorem sumJ_one (z : Int) (j : Jb) : sumJ z [j] = if j.ta = z then j.ne else 0 := by unfold sumJ; simp
theorem sumJ_cons (z : Int) (j : Jb) (js : List Jb) : sumJ z (j :: js) = (if j.ta = z then j.ne else 0) + sumJ z js := by
  rw [show j :: js = [j] ++ js from rfl, sumJ_app, sumJ_one]
theorem sumJ_put (z : Int) (j : Jb) (js : List Jb) : sumJ z (putL j js) = sumJ z js + if j.ta = z then j.ne else 0 := by
  unfold putL
  rw [sumJ_app, sumJ_cons]
  have := sumJ_app z (js.take (putAt j js)) (js.drop (putAt j js))
  rw [List.take_append_drop] at this
  omega
theorem sumJ_none {z : Int} {js : List Jb} (h : ∀ j ∈ js, ¬ j.ta = z) : sumJ z js = 0 := by
  induction js with
  | nil => rfl
  | cons j js ih => rw [sumJ_cons, if_neg (h j (by simp)), ih fun k hk => h k (by simp [hk])]; rfl
def allJ (js : List Jb) : Int := js.foldl (fun a j => a + j.ne) 0
theorem allJ_snoc (js : List Jb) (j : Jb) : allJ (js ++ [j]) = allJ js + j.ne := by unfold allJ; rw [List.foldl_append]; rfl
/-- Needs of all tasks are those of all jobs. -/
theorem needs_all {js : List Jb} (h : ∀ j ∈ js, wrB j = true) : sumJ 0 js + sumJ 1 js + sumJ 2 js + sumJ 3 js + sumJ 4 js = allJ js ∧ ∀ z, 0 ≤ sumJ z js ∧ sumJ z js ≤ allJ js := by
  revert h
  refine snoc_ind (P := fun js => (∀ j ∈ js, wrB j = true) → sumJ 0 js + sumJ 1 js + sumJ 2 js + sumJ 3 js + sumJ 4 js = allJ js ∧ ∀ z, 0 ≤ sumJ z js ∧ sumJ z js ≤ allJ js) (fun _ => ⟨rfl, fun z => ⟨Int.le_refl _, Int.le_refl _⟩⟩) (fun l j ih h => ?_) js
  obtain ⟨h1, h2⟩ := ih fun k hk => h k (by simp [hk])
  obtain ⟨w1, w2, w3, w4, w5, w6⟩ := wrB_iff.1 (h j (by simp))
  constructor
  · simp only [sumJ_app, sumJ_one, allJ_snoc]
    rcases (by omega : j.ta = 0 ∨ j.ta = 1 ∨ j.ta = 2 ∨ j.ta = 3 ∨ j.ta = 4) with e | e | e | e | e <;> simp [e] <;> omega
  · intro z
    rw [sumJ_app, sumJ_one, allJ_snoc]
    have := h2 z
    split <;> omega
/-- Jobs whose need is more than their low one are of critical tasks. -/
theorem high_crit {ts : List Tk} {j : Jb} (hs : setB ts = true) (h : jobB ts j = true) (hn : (tkOf ts j.ta).lo < j.ne) : (tkOf ts j.ta).cr = true := by
  obtain ⟨h1, h2, h3, h4, h5, h6⟩ := jobB_iff.1 h
  obtain ⟨t, _, e, ht, hok⟩ := ev_of hs h1 h2
  rw [e] at hn h6 ⊢
  cases hc : t.cr
  · unfold Tk.ok validB at hok
    simp [hc] at hok
    omega
  · rfl
theorem wrsB_iff {js : List Jb} : wrsB js = true ↔ js.length ≤ 60 ∧ ∀ j ∈ js, wrB j = true := by unfold wrsB; simp
theorem need_parts {js : List Jb} (k : Nat) (z : Int) (h : wrsB js = true) : needJ (js.take k) z + needJ (js.drop k) z = needJ js z := by
  obtain ⟨h1, h2⟩ := wrsB_iff.1 h
  have ht : wrsB (js.take k) = true := wrsB_iff.2 ⟨by rw [List.length_take]; omega, fun j hj => h2 j (List.mem_of_mem_take hj)⟩
  have hd : wrsB (js.drop k) = true := wrsB_iff.2 ⟨by rw [List.length_drop]; omega, fun j hj => h2 j (List.mem_of_mem_drop hj)⟩
  unfold needJ
  rw [ht, hd, h, if_pos rfl, if_pos rfl, if_pos rfl, ← sumJ_app, List.take_append_drop]
end

section
/- Worst jobs, of plain data: those of one tick, those of all ticks; they are valid, and as many as fit. No program in this text. -/
open Go.RowKit
set_option linter.unusedVariables false

def needOf (h : Bool) (t : Tk) : Int := if h then t.hi else t.lo
/-- The jobs of one tick, of the tasks from a place on. -/
def rowJ (h : Bool) (n : Nat) : Nat → List Tk → List Jb
  | _, [] => []
  | k, t :: ts => (if (n : Int) % t.ev = 0 then [⟨(k : Int), (n : Int), needOf h t⟩] else []) ++ rowJ h n (k + 1) ts
def worstL (h : Bool) (ts : List Tk) : Nat → List Jb
  | 0 => []
  | n + 1 => worstL h ts n ++ rowJ h n 0 ts
def worstB (ts : List Tk) (u : Int) (h : Bool) : Bool := setB ts && (decide (0 ≤ u) && (decide (u ≤ 200) && decide ((worstL h ts u.toNat).length ≤ 60)))
def worstV (ts : List Tk) (u : Int) (h : Bool) : List Jb := if worstB ts u h then worstL h ts u.toNat else []

theorem row_mem {h : Bool} {n : Nat} : ∀ {ts : List Tk} {k : Nat} {j : Jb}, j ∈ rowJ h n k ts → ∃ (i : Nat) (t : Tk), ts[i]? = some t ∧ j = ⟨((k + i : Nat) : Int), (n : Int), needOf h t⟩ ∧ (n : Int) % t.ev = 0
  | [], k, j, hj => by simp [rowJ] at hj
  | t :: ts, k, j, hj => by
    rw [rowJ] at hj
    rcases List.mem_append.1 hj with h1 | h1
    · split at h1
      · rename_i hd
        exact ⟨0, t, rfl, by simpa using h1, hd⟩
      · simp at h1
    · obtain ⟨i, u, hu, e, hd⟩ := row_mem h1
      exact ⟨i + 1, u, by simpa using hu, by rw [e]; simp; omega, hd⟩
theorem row_order {h : Bool} {n : Nat} : ∀ {ts : List Tk} {k : Nat}, (rowJ h n k ts).Pairwise (fun a b => a.tm = b.tm ∧ a.ta < b.ta)
  | [], k => by simp [rowJ]
  | t :: ts, k => by
    rw [rowJ, List.pairwise_append]
    refine ⟨by split <;> simp, row_order, fun a ha b hb => ?_⟩
    split at ha
    · rw [List.mem_singleton.1 ha]
      obtain ⟨i, u, _, e, _⟩ := row_mem hb
      rw [e]
      exact ⟨rfl, by dsimp only; omega⟩
    · simp at ha
theorem worst_mem {h : Bool} {ts : List Tk} : ∀ {n : Nat} {j : Jb}, j ∈ worstL h ts n → ∃ (m i : Nat) (t : Tk), m < n ∧ ts[i]? = some t ∧ j = ⟨(i : Int), (m : Int), needOf h t⟩ ∧ (m : Int) % t.ev = 0
  | 0, j, hj => by simp [worstL] at hj
  | n + 1, j, hj => by
    rw [worstL] at hj
    rcases List.mem_append.1 hj with h1 | h1
    · obtain ⟨m, i, t, hm, r⟩ := worst_mem h1
      exact ⟨m, i, t, by omega, r⟩
    · obtain ⟨i, t, ht, e, hd⟩ := row_mem h1
      exact ⟨n, i, t, by omega, ht, by rw [e]; simp, hd⟩
theorem tk_at {ts : List Tk} {i : Nat} {t : Tk} (h : ts[i]? = some t) : tkOf ts (i : Int) = t := by
  obtain ⟨hi, rfl⟩ := List.getElem?_eq_some_iff.1 h
  unfold tkOf
  simp [List.getD, List.getElem?_eq_getElem hi]
theorem mod_gap {a b e : Int} (he : 0 < e) (ha : a % e = 0) (hb : b % e = 0) (h : a < b) : e ≤ b - a := by
  have h1 : (b - a) % e = 0 := by rw [Int.sub_emod, ha, hb]; simp
  obtain ⟨q, hq⟩ := Int.dvd_of_emod_eq_zero h1
  have hq0 : 0 < q := by
    by_cases h0 : 0 < q
    · exact h0
    · have h0 : q ≤ 0 := by omega
      have : e * q ≤ 0 := Int.mul_nonpos_of_nonneg_of_nonpos (Int.le_of_lt he) h0
      omega
  have := Int.mul_le_mul_of_nonneg_left (show (1 : Int) ≤ q by omega) (Int.le_of_lt he)
  omega
/-- Worst jobs are jobs, in order, and far enough apart. -/
theorem worst_ok {h : Bool} {ts : List Tk} (hs : setB ts = true) : ∀ {n : Nat}, n ≤ 201 → (worstL h ts n).all (jobB ts) = true ∧ pairB ts (worstL h ts n) = true
  | 0, _ => ⟨rfl, rfl⟩
  | n + 1, hn => by
    obtain ⟨h1, h2⟩ := worst_ok hs (n := n) (by omega)
    have hall : ∀ t ∈ ts, t.ok = true := by unfold setB at hs; simp at hs; exact hs.2
    have hrow : ∀ j ∈ rowJ h n 0 ts, jobB ts j = true := fun j hj => by
      obtain ⟨i, t, ht, e, _⟩ := row_mem hj
      rw [Nat.zero_add] at e
      subst e
      have hi := (List.getElem?_eq_some_iff.1 ht).1
      have hok := hall t (List.mem_of_getElem? ht)
      unfold Tk.ok validB at hok
      simp at hok
      refine jobB_iff.2 ⟨by dsimp only; omega, by dsimp only; omega, by dsimp only; omega, by dsimp only; omega, ?_, ?_⟩
      · show 1 ≤ needOf h t; unfold needOf; split <;> omega
      · show needOf h t ≤ (tkOf ts (i : Int)).hi; rw [tk_at ht]; unfold needOf; split <;> omega
    refine ⟨by rw [worstL, List.all_append, h1, Bool.true_and, List.all_eq_true]; exact hrow, pairB_iff.2 ?_⟩
    rw [worstL, List.pairwise_append]
    refine ⟨pairB_iff.1 h2, row_order.imp fun {a b} hab => farB_iff.2 ⟨.inr hab, fun e => by omega⟩, fun a ha b hb => ?_⟩
    obtain ⟨m, i, t, hm, ht, ea, hda⟩ := worst_mem ha
    obtain ⟨k, u, hu, eb, hdb⟩ := row_mem hb
    rw [Nat.zero_add] at eb
    subst ea eb
    refine farB_iff.2 ⟨.inl (by dsimp only; omega), fun e => ?_⟩
    dsimp only at e ⊢
    obtain rfl : i = k := by omega
    rw [ht] at hu
    obtain rfl := Option.some.inj hu
    rw [tk_at ht]
    have hok := hall t (List.mem_of_getElem? ht)
    unfold Tk.ok validB at hok
    simp at hok
    exact mod_gap (by omega) hda hdb (by omega)
theorem worst_jobs {ts : List Tk} {u : Int} {h : Bool} (hw : worstB ts u h = true) : jobsB ts (worstL h ts u.toNat) = true := by
  unfold worstB at hw
  simp at hw
  exact jobs_parts.2 ⟨hw.1, hw.2.2.2, worst_ok hw.1 (by omega)⟩
theorem worst_pre {h : Bool} {ts : List Tk} : ∀ {m n : Nat}, m ≤ n → ∃ r, worstL h ts n = worstL h ts m ++ r
  | m, 0, hm => ⟨[], by rw [show m = 0 by omega]; rfl⟩
  | m, n + 1, hm => by
    by_cases e : m = n + 1
    · exact ⟨[], by rw [e, List.append_nil]⟩
    · obtain ⟨r, hr⟩ := worst_pre (h := h) (ts := ts) (show m ≤ n by omega)
      exact ⟨r ++ rowJ h n 0 ts, by rw [worstL, hr, List.append_assoc]⟩
theorem row_len {h h' : Bool} {n : Nat} : ∀ {ts : List Tk} {k : Nat}, (rowJ h n k ts).map (fun j => (j.ta, j.tm)) = (rowJ h' n k ts).map (fun j => (j.ta, j.tm))
  | [], k => rfl
  | t :: ts, k => by
    rw [rowJ, rowJ, List.map_append, List.map_append, row_len (h := h) (h' := h')]
    congr 1
    split <;> rfl
theorem worst_both {ts : List Tk} : ∀ {n : Nat} (h h' : Bool), (worstL h ts n).map (fun j => (j.ta, j.tm)) = (worstL h' ts n).map (fun j => (j.ta, j.tm))
  | 0, h, h' => rfl
  | n + 1, h, h' => by rw [worstL, worstL, List.map_append, List.map_append, worst_both h h', row_len (h := h) (h' := h')]
theorem ceil_step {n e : Nat} (he : 0 < e) : (n + 1 + e - 1) / e = (n + e - 1) / e + if n % e = 0 then 1 else 0 := by
  have d := Nat.div_add_mod n e
  rw [show n + 1 + e - 1 = n + e by omega, Nat.add_div_right n he]
  split
  · rename_i h0
    have : n + e - 1 = e * (n / e) + (e - 1) := by omega
    rw [this, Nat.mul_add_div he, Nat.div_eq_of_lt (show e - 1 < e by omega)]
  · rename_i h0
    have hl := Nat.mod_lt n he
    have e1 : e * (n / e + 1) = e * (n / e) + e := by rw [Nat.mul_add, Nat.mul_one]
    have : n + e - 1 = e * (n / e + 1) + (n % e - 1) := by omega
    rw [this, Nat.mul_add_div he, Nat.div_eq_of_lt (show n % e - 1 < e by omega)]
def ceilD (n : Nat) (t : Tk) : Nat := (n + t.ev.toNat - 1) / t.ev.toNat
theorem mod_nat {n : Nat} {t : Tk} (h : 0 < t.ev) : ((n : Int) % t.ev = 0) ↔ n % t.ev.toNat = 0 := by
  obtain ⟨e, he⟩ : ∃ e : Nat, t.ev = (e : Int) := ⟨t.ev.toNat, by omega⟩
  rw [he, Int.toNat_natCast]
  omega
theorem row_count {h : Bool} {n : Nat} : ∀ {ts : List Tk} {k : Nat}, (∀ t ∈ ts, 0 < t.ev) → (rowJ h n k ts).length + (ts.map (ceilD n)).sum = (ts.map (ceilD (n + 1))).sum
  | [], k, _ => rfl
  | t :: ts, k, hp => by
    have ih := row_count (h := h) (n := n) (ts := ts) (k := k + 1) fun u hu => hp u (by simp [hu])
    have h0 := hp t (by simp)
    have hc := ceil_step (n := n) (e := t.ev.toNat) (by omega)
    have hm := mod_nat (n := n) h0
    rw [rowJ, List.length_append, List.map_cons, List.map_cons, List.sum_cons, List.sum_cons]
    have e1 : ceilD (n + 1) t = ceilD n t + if n % t.ev.toNat = 0 then 1 else 0 := hc
    rw [e1]
    by_cases hd : n % t.ev.toNat = 0
    · rw [if_pos (hm.2 hd), if_pos hd, List.length_singleton]; omega
    · rw [if_neg (fun x => hd (hm.1 x)), if_neg hd, List.length_nil]; omega
/-- Worst jobs are as many as fit. -/
theorem worst_count {h : Bool} {ts : List Tk} (hp : ∀ t ∈ ts, 0 < t.ev) : ∀ {n : Nat}, (worstL h ts n).length = (ts.map (ceilD n)).sum
  | 0 => by
    rw [worstL, List.length_nil]
    have : ∀ l : List Tk, (∀ t ∈ l, 0 < t.ev) → (l.map (ceilD 0)).sum = 0 := fun l => by
      induction l with
      | nil => intro _; rfl
      | cons t l ih =>
        intro hl
        rw [List.map_cons, List.sum_cons, ih fun u hu => hl u (by simp [hu])]
        have := hl t (by simp)
        unfold ceilD
        rw [Nat.div_eq_of_lt (by omega)]
    exact (this ts hp).symm
  | n + 1 => by rw [worstL, List.length_append, worst_count hp, ← row_count (h := h) (k := 0) hp]; omega
theorem row_need {h : Bool} {n : Nat} : ∀ {ts : List Tk} {k i : Nat} {t : Tk}, ts[i]? = some t → sumJ ((k + i : Nat) : Int) (rowJ h n k ts) = if (n : Int) % t.ev = 0 then needOf h t else 0
  | [], k, i, t, ht => by simp at ht
  | u :: ts, k, 0, t, ht => by
    obtain rfl : u = t := by simpa using ht
    rw [rowJ, sumJ_app]
    have e : sumJ ((k + 0 : Nat) : Int) (rowJ h n (k + 1) ts) = 0 := sumJ_none fun j hj => by
      obtain ⟨i, v, _, e, _⟩ := row_mem hj
      rw [e]; dsimp only; omega
    rw [e]
    split
    · rw [sumJ_one]; simp
    · simp [sumJ]
  | u :: ts, k, i + 1, t, ht => by
    rw [rowJ, sumJ_app]
    have e := row_need (h := h) (n := n) (ts := ts) (k := k + 1) (i := i) (t := t) (by simpa using ht)
    rw [show k + 1 + i = k + (i + 1) by omega] at e
    rw [e]
    have e0 : sumJ ((k + (i + 1) : Nat) : Int) (if (n : Int) % u.ev = 0 then [⟨(k : Int), (n : Int), needOf h u⟩] else []) = 0 := by
      split
      · rw [sumJ_one, if_neg (by dsimp only; omega)]
      · rfl
    rw [e0]; omega
/-- What worst jobs of a task need together. -/
theorem worst_need {h : Bool} {ts : List Tk} {i : Nat} {t : Tk} (ht : ts[i]? = some t) (hp : 0 < t.ev) : ∀ {n : Nat}, sumJ (i : Int) (worstL h ts n) = (ceilD n t : Int) * needOf h t
  | 0 => by
    have : ceilD 0 t = 0 := by unfold ceilD; rw [Nat.div_eq_of_lt (by omega)]
    rw [this, worstL]; simp [sumJ]
  | n + 1 => by
    have e := row_need (h := h) (n := n) (k := 0) ht
    rw [Nat.zero_add] at e
    rw [worstL, sumJ_app, worst_need ht hp, e]
    have hc : ceilD (n + 1) t = ceilD n t + if n % t.ev.toNat = 0 then 1 else 0 := ceil_step (by omega)
    have hm := mod_nat (n := n) hp
    rw [hc]
    by_cases hd : n % t.ev.toNat = 0
    · rw [if_pos (hm.2 hd), if_pos hd, Int.natCast_add, Int.add_mul]; simp
    · rw [if_neg (fun x => hd (hm.1 x)), if_neg hd]; simp
end

section
/- Jobs in order and at a distance, as plain data. No program in this text. -/
open Go.RowKit
set_option linter.unusedVariables false

def ordJ : List Jb → Bool
  | [] => true
  | j :: js => js.all (befB j) && ordJ js
theorem ordJ_iff : ∀ {js : List Jb}, ordJ js = true ↔ js.Pairwise (fun a b => befB a b = true)
  | [] => by simp [ordJ]
  | j :: js => by rw [ordJ, Bool.and_eq_true, List.all_eq_true, ordJ_iff, List.pairwise_cons]
theorem pair_ord {ts : List Tk} {js : List Jb} (h : pairB ts js = true) : ordJ js = true := by
  rw [ordJ_iff]
  refine (pairB_iff.1 h).imp fun {a b} hab => ?_
  unfold farB at hab
  rw [Bool.and_eq_true] at hab
  exact hab.1
theorem ordJ_take {js : List Jb} (k : Nat) (h : ordJ js = true) : ordJ (js.take k) = true :=
  ordJ_iff.2 ((ordJ_iff.1 h).sublist (List.take_sublist _ _))
def lastBef (js : List Jb) (j : Jb) : Bool := (js.getLast?.map fun a => befB a j).getD true
theorem lastBef_nil (j : Jb) : lastBef [] j = true := rfl
theorem lastBef_snoc (js : List Jb) (a j : Jb) : lastBef (js ++ [a]) j = befB a j := by unfold lastBef; simp
theorem lastBef_at {js : List Jb} {k : Nat} {a j : Jb} (h : js[k]? = some a) : lastBef (js.take (k + 1)) j = befB a j := by
  rw [List.take_add_one, h]; exact lastBef_snoc _ _ _
theorem ordJ_snoc {js : List Jb} {j : Jb} (h : ordJ js = true) : ordJ (js ++ [j]) = true ↔ lastBef js j = true := by
  rw [ordJ_iff, List.pairwise_append]
  constructor
  · rintro ⟨_, _, h3⟩
    rcases js.eq_nil_or_concat with rfl | ⟨l, a, rfl⟩
    · rfl
    · rw [List.concat_eq_append, lastBef_snoc]
      exact h3 a (by simp) j (by simp)
  · intro hl
    refine ⟨ordJ_iff.1 h, by simp, fun a ha b hb => ?_⟩
    rw [List.mem_singleton.1 hb]
    rcases js.eq_nil_or_concat with rfl | ⟨l, z, rfl⟩
    · simp at ha
    · rw [List.concat_eq_append] at *
      rw [lastBef_snoc] at hl
      rcases List.mem_append.1 ha with ha | ha
      · exact bef_trans ((List.pairwise_append.1 (ordJ_iff.1 h)).2.2 a ha z (by simp)) hl
      · rw [List.mem_singleton.1 ha]; exact hl
/-- What one looks at while one goes through jobs: each is one, and behind the one before. -/
def seqB (ts : List Tk) (js : List Jb) : Bool := js.all (jobB ts) && ordJ js
theorem seq_parts {ts : List Tk} {js : List Jb} : seqB ts js = true ↔ js.all (jobB ts) = true ∧ ordJ js = true := by unfold seqB; rw [Bool.and_eq_true]
theorem seq_take {ts : List Tk} {js : List Jb} (k : Nat) (h : seqB ts js = true) : seqB ts (js.take k) = true := by
  rw [seq_parts] at *
  refine ⟨?_, ordJ_take k h.2⟩
  rw [List.all_eq_true] at *
  exact fun x hx => h.1 x (List.mem_of_mem_take hx)
theorem seq_step {ts : List Tk} {js : List Jb} {k : Nat} {j : Jb} (hj : js[k]? = some j) (h : seqB ts (js.take k) = true) : seqB ts (js.take (k + 1)) = (jobB ts j && lastBef (js.take k) j) := by
  rw [seq_parts] at h
  rw [List.take_add_one, hj, Option.toList_some, Bool.eq_iff_iff, seq_parts, Bool.and_eq_true, ordJ_snoc h.2, List.all_append, h.1]
  simp
theorem seq_bad {ts : List Tk} {js : List Jb} {k : Nat} {j : Jb} (hj : js[k]? = some j) (h : seqB ts (js.take k) = true) (hn : (jobB ts j && lastBef (js.take k) j) = false) : jobsB ts js = false := by
  cases hx : jobsB ts js
  · rfl
  · obtain ⟨h1, h2, h3, h4⟩ := jobs_parts.1 hx
    have := seq_take (k + 1) (seq_parts.2 ⟨h3, pair_ord h4⟩)
    rw [seq_step hj h, hn] at this
    cases this
/-- The first tick at which the next job of a task may come. -/
def earlAt (ts : List Tk) (js : List Jb) (k : Int) : Int := js.foldl (fun a j => if j.ta = k then j.tm + (tkOf ts k).ev else a) 0
theorem earl_snoc (ts : List Tk) (js : List Jb) (j : Jb) (k : Int) : earlAt ts (js ++ [j]) k = if j.ta = k then j.tm + (tkOf ts k).ev else earlAt ts js k := by unfold earlAt; rw [List.foldl_append]; rfl
theorem earl_last (ts : List Tk) (js : List Jb) (k : Int) : (earlAt ts js k = 0 ∧ lastAt js k = -20) ∨ (earlAt ts js k = lastAt js k + (tkOf ts k).ev ∧ ∃ j ∈ js, lastAt js k = j.tm) := by
  refine snoc_ind (P := fun js => (earlAt ts js k = 0 ∧ lastAt js k = -20) ∨ (earlAt ts js k = lastAt js k + (tkOf ts k).ev ∧ ∃ j ∈ js, lastAt js k = j.tm)) (.inl ⟨rfl, rfl⟩) (fun js j ih => ?_) js
  rw [earl_snoc, lastAt_snoc]
  by_cases h : j.ta = k
  · rw [if_pos h, if_pos h]; exact .inr ⟨rfl, j, by simp, rfl⟩
  · rw [if_neg h, if_neg h]
    rcases ih with ih | ⟨h1, a, ha, h2⟩
    · exact .inl ih
    · exact .inr ⟨h1, a, by simp [ha], h2⟩
theorem earl_ok {ts : List Tk} (hs : setB ts = true) {js : List Jb} {j : Jb} (hj : jobB ts j = true) : ((tkOf ts j.ta).ev ≤ j.tm - lastAt js j.ta) ↔ earlAt ts js j.ta ≤ j.tm := by
  obtain ⟨b1, b2, b3, _⟩ := jobB_iff.1 hj
  obtain ⟨t, _, e, _, hok⟩ := ev_of hs b1 b2
  have hev : 1 ≤ t.ev ∧ t.ev ≤ 20 := by unfold Tk.ok validB at hok; simp at hok; omega
  rcases earl_last ts js j.ta with ⟨h1, h2⟩ | ⟨h1, _⟩ <;> rw [e] at * <;> omega
/-- The numbers of the array stay small. -/
theorem earl_range {ts : List Tk} (hs : setB ts = true) {js : List Jb} (h : js.all (jobB ts) = true) {k : Int} (h0 : 0 ≤ k) (h1 : k < (ts.length : Int)) : 0 ≤ earlAt ts js k ∧ earlAt ts js k ≤ 220 := by
  obtain ⟨t, _, e, _, hok⟩ := ev_of hs h0 h1
  have hev : 1 ≤ t.ev ∧ t.ev ≤ 20 := by unfold Tk.ok validB at hok; simp at hok; omega
  rcases earl_last ts js k with ⟨h2, _⟩ | ⟨h2, j, hj, h3⟩
  · omega
  · have := jobB_iff.1 (List.all_eq_true.1 h j hj)
    rw [e] at h2
    omega
theorem dist_step {ts : List Tk} (hs : setB ts = true) {js : List Jb} {k : Nat} {j : Jb} (hq : seqB ts js = true) (hj : js[k]? = some j) (hp : pairB ts (js.take k) = true) : pairB ts (js.take (k + 1)) = decide (earlAt ts (js.take k) j.ta ≤ j.tm) := by
  obtain ⟨ha, ho⟩ := seq_parts.1 hq
  have hjb : jobB ts j = true := List.all_eq_true.1 ha j (List.mem_of_getElem? hj)
  have hat := (seq_parts.1 (seq_take k hq)).1
  have hbe : lastBef (js.take k) j = true := by
    have := seq_take (k + 1) hq
    rw [seq_step hj (seq_take k hq), Bool.and_eq_true] at this
    exact this.2
  have hstep := jobs_step (j := j) hs ⟨hat, hp⟩
  rw [List.take_add_one, hj, Option.toList_some, Bool.eq_iff_iff, decide_eq_true_iff, ← earl_ok hs hjb]
  constructor
  · intro h
    have h2 := hstep.1 ⟨by rw [List.all_append, hat]; simpa using hjb, h⟩
    unfold nextB at h2
    rw [Bool.and_eq_true, Bool.and_eq_true, decide_eq_true_iff] at h2
    exact h2.2.2
  · intro h
    refine (hstep.2 ?_).2
    unfold nextB
    rw [hjb, Bool.true_and, Bool.and_eq_true, decide_eq_true_iff]
    exact ⟨hbe, h⟩
theorem dist_bad {ts : List Tk} {js : List Jb} (k : Nat) (h : pairB ts (js.take k) = false) : pairB ts js = false := by
  cases hx : pairB ts js
  · rfl
  · rw [pairB_iff.2 ((pairB_iff.1 hx).sublist (List.take_sublist k js))] at h
    cases h
theorem seq_jobs {ts : List Tk} {js : List Jb} (hs : setB ts = true) (hl : js.length ≤ 60) (h : seqB ts js = true) : jobsB ts js = pairB ts js := by
  unfold jobsB
  rw [hs, decide_eq_true hl, (seq_parts.1 h).1]
  simp
/-- The array of the first ticks. -/
def earlV (ts : List Tk) (js : List Jb) : List Value := (List.range 5).map fun (i : Nat) => Value.int .i64 (earlAt ts js (i : Int))
theorem earl_get {ts : List Tk} {js : List Jb} {x : Nat} (h : x < 5) : ((earlV ts js).toArray)[x]? = some (.int .i64 (earlAt ts js (x : Int))) := by simp [earlV, h]
theorem earl_set {ts : List Tk} {js : List Jb} {x : Nat} {j : Jb} {z : Int} (h : x < 5) (hj : j.ta = (x : Int)) (hz : j.tm + (tkOf ts (x : Int)).ev = z) : (earlV ts js).toArray.setIfInBounds x (.int .i64 z) = (earlV ts (js ++ [j])).toArray := by
  subst hz
  unfold earlV
  simp only [List.setIfInBounds_toArray]
  congr 1
  refine List.ext_getElem? fun i => ?_
  rw [List.getElem?_set]
  by_cases hx : x = i
  · subst hx
    simp [h, earl_snoc, hj]
  · have : ¬ j.ta = (i : Int) := by omega
    by_cases hi : i < 5
    · simp [hi, hx, earl_snoc, this]
    · simp [hi, hx]
end

section
/- A heap of jobs, as plain data: swapping, up, down, the least one. No program in this text. -/
open Go.RowKit
set_option linter.unusedVariables false

instance instDecJb : DecidableEq Jb := fun a b => decidable_of_iff (a.ta = b.ta ∧ a.tm = b.tm ∧ a.ne = b.ne) ⟨fun h => Jb.eq_of h.1 h.2.1 h.2.2, fun h => by subst h; exact ⟨rfl, rfl, rfl⟩⟩
def leJ (a b : Jb) : Prop := befB b a = false
theorem leJ_refl (a : Jb) : leJ a a := bef_irr a
theorem leJ_iff {a b : Jb} : leJ a b ↔ a.tm < b.tm ∨ (a.tm = b.tm ∧ a.ta ≤ b.ta) := by
  unfold leJ
  rw [← Bool.not_eq_true, befB_iff]
  omega
theorem leJ_trans {a b c : Jb} (h1 : leJ a b) (h2 : leJ b c) : leJ a c := by
  rw [leJ_iff] at *; omega
theorem leJ_of_bef {a b : Jb} (h : befB a b = true) : leJ a b := bef_asym h
theorem bef_of_le {a b : Jb} (h : leJ a b) (hn : ¬ a.ta = b.ta) : befB a b = true := by
  rw [leJ_iff] at h
  rw [befB_iff]; omega
/-- Two elements exchanged. -/
def swapL (hs : List Jb) (a b : Nat) (x y : Jb) : List Jb := (hs.set a y).set b x
theorem swap_len (hs : List Jb) (a b : Nat) (x y : Jb) : (swapL hs a b x y).length = hs.length := by unfold swapL; simp
theorem swap_at {hs : List Jb} {a b : Nat} {x y : Jb} (ha : a < hs.length) (hb : b < hs.length) (hab : a ≠ b) (i : Nat) :
    (swapL hs a b x y)[i]? = if i = a then some y else if i = b then some x else hs[i]? := by
  unfold swapL
  rw [List.getElem?_set]
  by_cases h1 : b = i
  · subst h1
    rw [if_pos rfl, if_pos (by simpa using hb), if_neg (fun e => hab e.symm), if_pos rfl]
  · rw [if_neg h1, List.getElem?_set]
    by_cases h2 : a = i
    · subst h2
      rw [if_pos rfl, if_pos rfl, if_pos ha]
    · rw [if_neg h2, if_neg (fun e => h2 e.symm), if_neg (fun e => h1 e.symm)]
theorem swap_perm {hs : List Jb} {a b : Nat} {x y : Jb} (ha : hs[a]? = some x) (hb : hs[b]? = some y) : (swapL hs a b x y).Perm hs := by
  obtain ⟨hal, hax⟩ := List.getElem?_eq_some_iff.1 ha
  obtain ⟨hbl, hbx⟩ := List.getElem?_eq_some_iff.1 hb
  rw [List.perm_iff_count]
  intro z
  unfold swapL
  have hx : ∀ i (hi : i < hs.length), hs[i] = z → 0 < hs.count z := fun i hi e => List.count_pos_iff.2 (by rw [← e]; exact List.getElem_mem _)
  rw [List.count_set (by simpa using hbl), List.count_set hal]
  rw [List.getElem_set]
  by_cases hab : a = b
  · subst hab
    have : x = y := by rw [← hax, ← hbx]
    subst this
    simp [hax]
    by_cases hz : x = z
    · have := hx a hal (hax.trans hz); simp [hz]; omega
    · simp [hz]
  · simp only [hab, if_false, hax, hbx, beq_iff_eq]
    by_cases hzx : x = z
    · have h1 := hx a hal (hax.trans hzx)
      by_cases hzy : y = z
      · simp [hzx, hzy]; omega
      · simp [hzx, hzy]; omega
    · by_cases hzy : y = z
      · have h1 := hx b hbl (hbx.trans hzy)
        simp [hzx, hzy]
      · simp [hzx, hzy]
/-- No element goes before the one above it. -/
def heapP (hs : List Jb) : Prop := ∀ i x p, 0 < i → hs[i]? = some x → hs[(i - 1) / 2]? = some p → leJ p x
def UpInv (hs : List Jb) (k : Nat) (x : Jb) : Prop :=
  hs[k]? = some x ∧ (∀ i y p, 0 < i → i ≠ k → hs[i]? = some y → hs[(i - 1) / 2]? = some p → leJ p y) ∧
    (∀ c y p, 0 < c → (c - 1) / 2 = k → 0 < k → hs[c]? = some y → hs[(k - 1) / 2]? = some p → leJ p y)
theorem up_start {hs : List Jb} {x : Jb} (h : heapP hs) : UpInv (hs ++ [x]) hs.length x := by
  refine ⟨by simp, fun i y p hi hk hy hp => ?_, fun c y p hc hck hk hy hp => ?_⟩
  · have hil : i < hs.length := by
      have := (List.getElem?_eq_some_iff.1 hy).1
      simp at this; omega
    rw [List.getElem?_append_left hil] at hy
    rw [List.getElem?_append_left (by omega)] at hp
    exact h i y p hi hy hp
  · have := (List.getElem?_eq_some_iff.1 hy).1
    simp at this; omega
theorem up_done {hs : List Jb} {k : Nat} {x : Jb} (h : UpInv hs k x) (hd : k = 0 ∨ ∀ p, hs[(k - 1) / 2]? = some p → befB x p = false) : heapP hs := by
  intro i y p hi hy hp
  by_cases hk : i = k
  · subst hk
    rcases hd with hd | hd
    · omega
    · rw [h.1] at hy
      injection hy with hy
      subst hy
      exact hd p hp
  · exact h.2.1 i y p hi hk hy hp
theorem up_step {hs : List Jb} {k : Nat} {x p : Jb} (h : UpInv hs k x) (hk : 0 < k) (hp : hs[(k - 1) / 2]? = some p) (hb : befB x p = true) : UpInv (swapL hs k ((k - 1) / 2) x p) ((k - 1) / 2) x := by
  have hkl := (List.getElem?_eq_some_iff.1 h.1).1
  have hpl := (List.getElem?_eq_some_iff.1 hp).1
  have hne : k ≠ (k - 1) / 2 := by omega
  refine ⟨by rw [swap_at hkl hpl hne, if_neg (fun e => hne e.symm), if_pos rfl], fun i y q hi hik hy hq => ?_, fun c y q hc hck hk0 hy hq => ?_⟩
  · rw [swap_at hkl hpl hne] at hy hq
    rw [if_neg hik] at hy
    by_cases h1 : i = k
    · subst h1
      rw [if_pos rfl] at hy
      rw [if_neg (by omega), if_pos rfl] at hq
      injection hy with hy; injection hq with hq
      subst hy hq
      exact leJ_of_bef hb
    · rw [if_neg h1] at hy
      by_cases h2 : (i - 1) / 2 = k
      · rw [if_pos h2] at hq
        injection hq with hq
        subst hq
        exact h.2.2 i y p hi h2 hk hy hp
      · rw [if_neg h2] at hq
        by_cases h3 : (i - 1) / 2 = (k - 1) / 2
        · rw [if_pos h3] at hq
          injection hq with hq
          subst hq
          exact leJ_trans (leJ_of_bef hb) (h.2.1 i y p hi h1 hy (by rw [h3]; exact hp))
        · rw [if_neg h3] at hq
          exact h.2.1 i y q hi h1 hy hq
  · rw [swap_at hkl hpl hne] at hy hq
    rw [if_neg (by omega), if_neg (by omega)] at hq
    have hpq : leJ q p := h.2.1 ((k - 1) / 2) p q hk0 (by omega) hp hq
    by_cases h1 : c = k
    · subst h1
      rw [if_pos rfl] at hy
      injection hy with hy
      subst hy
      exact hpq
    · rw [if_neg h1, if_neg (by omega)] at hy
      exact leJ_trans hpq (h.2.1 c y p hc h1 hy (by rw [hck]; exact hp))
def DownInv (hs : List Jb) (k : Nat) : Prop :=
  (∀ i y p, 0 < i → (i - 1) / 2 ≠ k → hs[i]? = some y → hs[(i - 1) / 2]? = some p → leJ p y) ∧
    (∀ c y p, 0 < c → (c - 1) / 2 = k → 0 < k → hs[c]? = some y → hs[(k - 1) / 2]? = some p → leJ p y)
theorem down_done {hs : List Jb} {k : Nat} {x : Jb} (h : DownInv hs k) (hx : hs[k]? = some x) (h1 : ∀ y, hs[2 * k + 1]? = some y → leJ x y) (h2 : ∀ y, hs[2 * k + 2]? = some y → leJ x y) : heapP hs := by
  intro i y p hi hy hp
  by_cases hk : (i - 1) / 2 = k
  · rw [hk, hx] at hp
    injection hp with hp
    subst hp
    rcases (by omega : i = 2 * k + 1 ∨ i = 2 * k + 2) with e | e
    · exact h1 y (by rw [← e]; exact hy)
    · exact h2 y (by rw [← e]; exact hy)
  · exact h.1 i y p hi hk hy hp
theorem down_step {hs : List Jb} {k f : Nat} {x m : Jb} (h : DownInv hs k) (hx : hs[k]? = some x) (hf : f = 2 * k + 1 ∨ f = 2 * k + 2) (hm : hs[f]? = some m) (h0 : leJ m x) (h1 : ∀ y, hs[2 * k + 1]? = some y → leJ m y) (h2 : ∀ y, hs[2 * k + 2]? = some y → leJ m y) : DownInv (swapL hs k f x m) f := by
  have hkl := (List.getElem?_eq_some_iff.1 hx).1
  have hfl := (List.getElem?_eq_some_iff.1 hm).1
  have hne : k ≠ f := by omega
  refine ⟨fun i y p hi hik hy hp => ?_, fun c y p hc hck hf0 hy hp => ?_⟩
  · rw [swap_at hkl hfl hne] at hy hp
    rw [if_neg hik] at hp
    by_cases e1 : (i - 1) / 2 = k
    · rw [e1] at hp
      simp only [if_true] at hp
      injection hp with hp
      subst hp
      rw [if_neg (by omega)] at hy
      by_cases e2 : i = f
      · rw [if_pos e2] at hy
        injection hy with hy
        subst hy
        exact h0
      · rw [if_neg e2] at hy
        rcases (by omega : i = 2 * k + 1 ∨ i = 2 * k + 2) with e | e
        · exact h1 y (by rw [← e]; exact hy)
        · exact h2 y (by rw [← e]; exact hy)
    · rw [if_neg e1] at hp
      by_cases e2 : i = k
      · subst e2
        rw [if_pos rfl] at hy
        injection hy with hy
        subst hy
        exact h.2 f m p (by omega) (by omega) hi hm hp
      · rw [if_neg e2, if_neg (by omega)] at hy
        exact h.1 i y p hi e1 hy hp
  · rw [swap_at hkl hfl hne] at hy hp
    rw [if_neg (by omega), if_neg (by omega)] at hy
    rw [if_pos (by omega)] at hp
    injection hp with hp
    subst hp
    exact h.1 c y m hc (by omega) hy (by rw [hck]; exact hm)
theorem heap_min {hs : List Jb} {x : Jb} (h : heapP hs) (hx : hs[0]? = some x) : ∀ y ∈ hs, leJ x y := by
  have : ∀ (n i : Nat) (y : Jb), i ≤ n → hs[i]? = some y → leJ x y := by
    intro n
    induction n with
    | zero =>
      intro i y hi hy
      obtain rfl : i = 0 := by omega
      rw [hx] at hy
      injection hy with hy
      subst hy
      exact leJ_refl _
    | succ n ih =>
      intro i y hi hy
      by_cases h0 : i = 0
      · exact ih i y (by omega) hy
      · have hl := (List.getElem?_eq_some_iff.1 hy).1
        obtain ⟨p, hp⟩ : ∃ p, hs[(i - 1) / 2]? = some p := ⟨hs[(i - 1) / 2]'(by omega), List.getElem?_eq_getElem _⟩
        exact leJ_trans (ih ((i - 1) / 2) p (by omega) hp) (h i y p (by omega) hy hp)
  intro y hy
  obtain ⟨i, hi⟩ := List.getElem?_of_mem hy
  exact this i i y (Nat.le_refl _) hi
/-- The first one and the last one exchanged, the last one taken off: in order but for the first one. -/
theorem pop_start {hs : List Jb} {n : Nat} {x y : Jb} (h : heapP hs) (hn : hs.length = n + 1) (hx : hs[0]? = some x) (hy : hs[n]? = some y) : DownInv ((swapL hs 0 n x y).take n) 0 := by
  refine ⟨fun i z p hi hik hz hp => ?_, fun c z p hc hck hk => by omega⟩
  have hil : i < n := by
    have := (List.getElem?_eq_some_iff.1 hz).1
    rw [List.length_take] at this; omega
  rw [List.getElem?_take_of_lt hil] at hz
  rw [List.getElem?_take_of_lt (by omega)] at hp
  rw [swap_at (by omega) (by omega) (by omega)] at hz hp
  rw [if_neg (by omega), if_neg (by omega)] at hz hp
  exact h i z p hi hz hp
theorem take_swap_perm {hs : List Jb} {n : Nat} {x y : Jb} (hn : hs.length = n + 1) (hx : hs[0]? = some x) (hy : hs[n]? = some y) : (x :: (swapL hs 0 n x y).take n).Perm hs := by
  have h1 := swap_perm hx hy
  have h2 : swapL hs 0 n x y = (swapL hs 0 n x y).take n ++ [x] := by
    have hl : (swapL hs 0 n x y).length = n + 1 := by rw [swap_len, hn]
    have hlast : (swapL hs 0 n x y)[n]? = some x := by
      unfold swapL
      rw [List.getElem?_set, if_pos rfl, if_pos (by simp; omega)]
    have := List.take_add_one (l := swapL hs 0 n x y) (i := n)
    rw [hlast, List.take_of_length_le (by omega)] at this
    exact this
  rw [h2] at h1
  exact (List.perm_append_comm (l₁ := [x]) (l₂ := (swapL hs 0 n x y).take n)).trans h1
end

section
/- Worst jobs out of a heap with the next job of each task, as plain data. No program in this text. -/
open Go.RowKit
set_option linter.unusedVariables false

theorem row_in {h : Bool} {n : Nat} : ∀ {ts : List Tk} {k i : Nat} {t : Tk}, ts[i]? = some t → (n : Int) % t.ev = 0 → (⟨((k + i : Nat) : Int), (n : Int), needOf h t⟩ : Jb) ∈ rowJ h n k ts
  | [], k, i, t, ht, hd => by simp at ht
  | u :: ts, k, 0, t, ht, hd => by
    simp at ht
    subst ht
    rw [rowJ, if_pos hd]
    simp
  | u :: ts, k, i + 1, t, ht, hd => by
    rw [rowJ]
    refine List.mem_append.2 (.inr ?_)
    have := row_in (k := k + 1) (i := i) (by simpa using ht) hd (h := h)
    rwa [show k + 1 + i = k + (i + 1) by omega] at this
theorem worst_in {h : Bool} {ts : List Tk} {i : Nat} {t : Tk} {m : Nat} (ht : ts[i]? = some t) (hd : (m : Int) % t.ev = 0) : ∀ {n : Nat}, m < n → (⟨(i : Int), (m : Int), needOf h t⟩ : Jb) ∈ worstL h ts n
  | 0, hm => by omega
  | n + 1, hm => by
    rw [worstL]
    by_cases e : m = n
    · subst e
      have := row_in (h := h) (k := 0) ht hd
      rw [Nat.zero_add] at this
      exact List.mem_append.2 (.inr this)
    · exact List.mem_append.2 (.inl (worst_in ht hd (by omega)))
theorem len_le_of_sub : ∀ {l m : List Jb}, l.Nodup → (∀ x ∈ l, x ∈ m) → l.length ≤ m.length
  | [], m, _, _ => Nat.zero_le _
  | x :: l, m, hn, hs => by
    obtain ⟨h1, h2⟩ := List.nodup_cons.1 hn
    have hx := hs x (by simp)
    have hl := List.length_erase_of_mem hx
    have hp := List.length_pos_of_mem hx
    have := len_le_of_sub (l := l) (m := m.erase x) h2 (fun y hy => (List.mem_erase_of_ne (fun e => h1 (by rw [← e]; exact hy))).2 (hs y (by simp [hy])))
    rw [List.length_cons]
    omega
theorem ordJ_nodup {l : List Jb} (h : ordJ l = true) : l.Nodup :=
  (ordJ_iff.1 h).imp fun {a b} hab e => by rw [e, bef_irr] at hab; cases hab
theorem ordJ_eq : ∀ {a b : List Jb}, ordJ a = true → ordJ b = true → (∀ x, x ∈ a ↔ x ∈ b) → a = b
  | [], b, _, _, h => by
    rcases b with _ | ⟨y, b⟩
    · rfl
    · have := (h y).2 (by simp); simp at this
  | x :: a, [], _, _, h => by have := (h x).1 (by simp); simp at this
  | x :: a, y :: b, ha, hb, h => by
    have ha' := List.pairwise_cons.1 (ordJ_iff.1 ha)
    have hb' := List.pairwise_cons.1 (ordJ_iff.1 hb)
    have hxy : x = y := by
      rcases List.mem_cons.1 ((h x).1 (by simp)) with e | e
      · exact e
      · rcases List.mem_cons.1 ((h y).2 (by simp)) with e2 | e2
        · exact e2.symm
        · have h1 := hb'.1 x e
          have h2 := ha'.1 y e2
          rw [bef_asym h1] at h2; cases h2
    subst hxy
    have hm : ∀ z, z ∈ a ↔ z ∈ b := fun z => by
      constructor
      · intro hz
        rcases List.mem_cons.1 ((h z).1 (by simp [hz])) with e | e
        · have := ha'.1 z hz; rw [e, bef_irr] at this; cases this
        · exact e
      · intro hz
        rcases List.mem_cons.1 ((h z).2 (by simp [hz])) with e | e
        · have := hb'.1 z hz; rw [e, bef_irr] at this; cases this
        · exact e
    rw [ordJ_eq (ordJ_iff.2 ha'.2) (ordJ_iff.2 hb'.2) hm]
/-- A heap holds the next job of each of the first k tasks. -/
structure Nx (ts : List Tk) (h : Bool) (k : Nat) (hs : List Jb) : Prop where
  nd : (hs.map Jb.ta).Nodup
  is_ : ∀ x ∈ hs, ∃ (i : Nat) (t : Tk), i < k ∧ ts[i]? = some t ∧ x.ta = (i : Int) ∧ 0 ≤ x.tm ∧ x.tm ≤ 219 ∧ x.tm % t.ev = 0 ∧ x.ne = needOf h t
  all_ : ∀ i, i < k → ∃ x ∈ hs, x.ta = (i : Int)
theorem nx_nil (ts : List Tk) (h : Bool) : Nx ts h 0 [] := ⟨by simp, by simp, fun i hi => by omega⟩
theorem nx_len {ts : List Tk} {h : Bool} {k : Nat} {hs : List Jb} (hx : Nx ts h k hs) : hs.length = k → True := fun _ => trivial
theorem nx_push {ts : List Tk} {h : Bool} {k : Nat} {hs hs' : List Jb} {t : Tk} (hx : Nx ts h k hs) (ht : ts[k]? = some t) (hp : hs'.Perm (hs ++ [⟨(k : Int), 0, needOf h t⟩])) : Nx ts h (k + 1) hs' := by
  refine ⟨?_, fun x hxm => ?_, fun i hi => ?_⟩
  · rw [(hp.map Jb.ta).nodup_iff, List.map_append, List.nodup_append]
    refine ⟨hx.nd, by simp, fun a ha b hb => ?_⟩
    obtain ⟨x, hxm, rfl⟩ := List.mem_map.1 ha
    obtain ⟨i, _, hi, _, e, _⟩ := hx.is_ x hxm
    simp at hb
    rw [e, hb]
    omega
  · rcases List.mem_append.1 (hp.mem_iff.1 hxm) with hm | hm
    · obtain ⟨i, u, hi, r⟩ := hx.is_ x hm
      exact ⟨i, u, by omega, r⟩
    · rw [List.mem_singleton.1 hm]
      exact ⟨k, t, by omega, ht, rfl, Int.le_refl _, by dsimp only; omega, by simp, rfl⟩
  · by_cases e : i = k
    · subst e
      exact ⟨⟨(i : Int), 0, needOf h t⟩, hp.mem_iff.2 (List.mem_append.2 (.inr (List.mem_singleton.2 rfl))), rfl⟩
    · obtain ⟨x, hxm, hxt⟩ := hx.all_ i (by omega)
      exact ⟨x, hp.mem_iff.2 (by simp [hxm]), hxt⟩
/-- What was taken out of the heap so far: the worst jobs before the next ones. -/
structure Wo (ts : List Tk) (h : Bool) (u : Nat) (hs out : List Jb) : Prop where
  ord : ordJ out = true
  mem : ∀ w, w ∈ out ↔ (w ∈ worstL h ts u ∧ ∀ x ∈ hs, x.ta = w.ta → w.tm < x.tm)
  bef : ∀ w ∈ out, ∀ x ∈ hs, befB w x = true
theorem wo_start {ts : List Tk} {h : Bool} {u : Nat} {hs : List Jb} (hx : Nx ts h ts.length hs) (h0 : ∀ x ∈ hs, x.tm = 0) : Wo ts h u hs [] := by
  refine ⟨rfl, fun w => ⟨fun hw => by simp at hw, fun hw => ?_⟩, fun w hw => by simp at hw⟩
  obtain ⟨m, i, t, _, ht, e, _⟩ := worst_mem hw.1
  obtain ⟨x, hxm, hxt⟩ := hx.all_ i (List.getElem?_eq_some_iff.1 ht).1
  have := hw.2 x hxm (by rw [hxt, e])
  rw [h0 x hxm, e] at this
  dsimp only at this
  omega
/-- One step: the first job of the heap is taken, the next one of its task is put in. -/
theorem wo_step {ts : List Tk} {h : Bool} {u : Nat} (hu : u ≤ 200) (hok : ∀ t ∈ ts, 1 ≤ t.ev ∧ t.ev ≤ 20) {hs hs1 hs2 out : List Jb} {j : Jb} {i : Nat} {t : Tk} (hx : Nx ts h ts.length hs) (hw : Wo ts h u hs out) (hp : (j :: hs1).Perm hs) (hmin : ∀ x ∈ hs, leJ j x)
    (ht : ts[i]? = some t) (hi : j.ta = (i : Int)) (hlt : j.tm < (u : Int)) (hp2 : hs2.Perm (hs1 ++ [⟨j.ta, j.tm + t.ev, j.ne⟩])) : Nx ts h ts.length hs2 ∧ Wo ts h u hs2 (out ++ [j]) := by
  have hjm : j ∈ hs := hp.mem_iff.1 (by simp)
  obtain ⟨i', t', hil, ht', hta, h0, h1, hd, hne⟩ := hx.is_ j hjm
  obtain rfl : i' = i := by omega
  rw [ht] at ht'
  injection ht' with ht'
  subst ht'
  have hev := hok t (List.mem_of_getElem? ht)
  have hnd : (j.ta :: hs1.map Jb.ta).Nodup := by
    have := hx.nd
    rw [← (hp.map Jb.ta).nodup_iff] at this
    simpa using this
  obtain ⟨hn1, hn2⟩ := List.nodup_cons.1 hnd
  have hs1m : ∀ x, x ∈ hs1 → x ∈ hs := fun x hxm => hp.mem_iff.1 (by simp [hxm])
  have hs1n : ∀ x, x ∈ hs1 → ¬ x.ta = j.ta := fun x hxm e => hn1 (by rw [← e]; exact List.mem_map.2 ⟨x, hxm, rfl⟩)
  have hsj : ∀ x, x ∈ hs → x = j ∨ x ∈ hs1 := fun x hxm => by simpa using hp.mem_iff.2 hxm
  have h2m : ∀ x, x ∈ hs2 ↔ x ∈ hs1 ∨ x = ⟨j.ta, j.tm + t.ev, j.ne⟩ := fun x => by rw [hp2.mem_iff]; simp
  have hjW : j ∈ worstL h ts u := by
    have := worst_in (h := h) (m := j.tm.toNat) (n := u) ht (by rw [Int.toNat_of_nonneg h0]; exact hd) (by omega)
    rwa [show (⟨(i' : Int), (j.tm.toNat : Int), needOf h t⟩ : Jb) = j from Jb.eq_of hta.symm (Int.toNat_of_nonneg h0) hne.symm] at this
  refine ⟨⟨?_, fun x hxm => ?_, fun k hk => ?_⟩, ⟨?_, fun w => ?_, fun w hwm x hxm => ?_⟩⟩
  · rw [(hp2.map Jb.ta).nodup_iff, List.map_append, List.nodup_append]
    refine ⟨hn2, by simp, fun a ha b hb => ?_⟩
    obtain ⟨x, hxm, rfl⟩ := List.mem_map.1 ha
    simp at hb
    rw [hb]
    exact hs1n x hxm
  · rcases (h2m x).1 hxm with e | e
    · exact hx.is_ x (hs1m x e)
    · rw [e]
      exact ⟨i', t, hil, ht, hta, by dsimp only; omega, by dsimp only; omega, by dsimp only; rw [Int.add_emod_right]; exact hd, hne⟩
  · obtain ⟨x, hxm, hxt⟩ := hx.all_ k hk
    rcases hsj x hxm with e | e
    · exact ⟨_, (h2m _).2 (.inr rfl), by rw [← hxt, e]⟩
    · exact ⟨x, (h2m x).2 (.inl e), hxt⟩
  · rw [ordJ_iff, List.pairwise_append]
    exact ⟨ordJ_iff.1 hw.ord, by simp, fun a ha b hb => by rw [List.mem_singleton.1 hb]; exact hw.bef a ha j hjm⟩
  · rw [List.mem_append, hw.mem w, List.mem_singleton]
    constructor
    · rintro (⟨hW, hall⟩ | e)
      · refine ⟨hW, fun x hxm hxt => ?_⟩
        rcases (h2m x).1 hxm with e | e
        · exact hall x (hs1m x e) hxt
        · have := hall j hjm (by rw [← hxt, e])
          rw [e]; dsimp only; omega
      · subst e
        refine ⟨hjW, fun x hxm hxt => ?_⟩
        rcases (h2m x).1 hxm with e | e
        · exact absurd hxt (hs1n x e)
        · rw [e]; dsimp only; omega
    · rintro ⟨hW, hall⟩
      by_cases ew : w.ta = j.ta
      · have h3 := hall _ ((h2m _).2 (.inr rfl)) ew.symm
        dsimp only at h3
        obtain ⟨m, k, tk, hm, htk, e, hdk⟩ := worst_mem hW
        have hk : k = i' := by rw [e] at ew; dsimp only at ew; omega
        subst hk
        rw [ht] at htk
        injection htk with htk
        subst htk
        by_cases hlt2 : w.tm < j.tm
        · refine .inl ⟨hW, fun x hxm hxt => ?_⟩
          rcases hsj x hxm with e2 | e2
          · rw [e2]; exact hlt2
          · exact absurd (hxt.trans ew) (hs1n x e2)
        · right
          have hmt : w.tm = (m : Int) := by rw [e]
          have heq : w.tm = j.tm := by
            by_cases h4 : j.tm < w.tm
            · have := mod_gap (e := t.ev) (by omega) hd (by rw [hmt]; exact hdk) h4
              omega
            · omega
          exact Jb.eq_of ew heq (by rw [e, hne])
      · refine .inl ⟨hW, fun x hxm hxt => ?_⟩
        rcases hsj x hxm with e2 | e2
        · exact absurd (by rw [← hxt, e2]) ew
        · exact hall x ((h2m x).2 (.inl e2)) hxt
  · rcases List.mem_append.1 hwm with hwm | hwm
    · rcases (h2m x).1 hxm with e | e
      · exact hw.bef w hwm x (hs1m x e)
      · have hb := befB_iff.1 (hw.bef w hwm j hjm)
        rw [e, befB_iff]
        dsimp only
        omega
    · rw [List.mem_singleton.1 hwm]
      rcases (h2m x).1 hxm with e | e
      · exact bef_of_le (hmin x (hs1m x e)) (fun e2 => hs1n x e e2.symm)
      · rw [e, befB_iff]
        dsimp only
        omega
theorem worst_ord {h : Bool} {ts : List Tk} {u : Nat} (hs : setB ts = true) (hu : u ≤ 200) : ordJ (worstL h ts u) = true := pair_ord (worst_ok hs (by omega)).2
/-- No next job comes before the end: all worst jobs were taken. -/
theorem wo_end {ts : List Tk} {h : Bool} {u : Nat} (hset : setB ts = true) (hu : u ≤ 200) {hs out : List Jb} (hw : Wo ts h u hs out) (hge : ∀ x ∈ hs, (u : Int) ≤ x.tm) : out = worstL h ts u := by
  refine ordJ_eq hw.ord (worst_ord hset hu) fun w => ?_
  rw [hw.mem w]
  constructor
  · exact fun hh => hh.1
  · intro hW
    refine ⟨hW, fun x hxm _ => ?_⟩
    obtain ⟨m, i, t, hm, _, e, _⟩ := worst_mem hW
    have := hge x hxm
    rw [e]; dsimp only; omega
theorem wo_min {hs : List Jb} {j : Jb} {u : Int} (hmin : ∀ x ∈ hs, leJ j x) (hge : u ≤ j.tm) : ∀ x ∈ hs, u ≤ x.tm := fun x hx => by
  have := leJ_iff.1 (hmin x hx); omega
/-- There is one more worst job than were taken. -/
theorem wo_full {ts : List Tk} {h : Bool} {u : Nat} {hs out : List Jb} {j : Jb} (hx : Nx ts h ts.length hs) (hw : Wo ts h u hs out) (hjm : j ∈ hs) (hlt : j.tm < (u : Int)) : out.length < (worstL h ts u).length := by
  obtain ⟨i', t', hil, ht', hta, h0, h1, hd, hne⟩ := hx.is_ j hjm
  have hjW : j ∈ worstL h ts u := by
    have := worst_in (h := h) (m := j.tm.toNat) (n := u) ht' (by rw [Int.toNat_of_nonneg h0]; exact hd) (by omega)
    rwa [show (⟨(i' : Int), (j.tm.toNat : Int), needOf h t'⟩ : Jb) = j from Jb.eq_of hta.symm (Int.toNat_of_nonneg h0) hne.symm] at this
  have hord : ordJ (out ++ [j]) = true := by
    rw [ordJ_iff, List.pairwise_append]
    exact ⟨ordJ_iff.1 hw.ord, by simp, fun a ha b hb => by rw [List.mem_singleton.1 hb]; exact hw.bef a ha j hjm⟩
  have := len_le_of_sub (ordJ_nodup hord) (m := worstL h ts u) (fun x hxm => by
    rcases List.mem_append.1 hxm with e | e
    · exact ((hw.mem x).1 e).1
    · rw [List.mem_singleton.1 e]; exact hjW)
  rw [List.length_append] at this
  simp at this
  omega
theorem nx_bound {ts : List Tk} {h : Bool} {k : Nat} {hs : List Jb} (hx : Nx ts h k hs) (hk : k ≤ 5) : hs.length ≤ 5 := by
  have : ∀ {l : List Int}, l.Nodup → (∀ x ∈ l, 0 ≤ x ∧ x < 5) → l.length ≤ 5 := by
    intro l hn hb
    have hsub : ∀ {l m : List Int}, l.Nodup → (∀ x ∈ l, x ∈ m) → l.length ≤ m.length := by
      intro l
      induction l with
      | nil => intro m _ _; exact Nat.zero_le _
      | cons x l ih =>
        intro m hn hs
        obtain ⟨h1, h2⟩ := List.nodup_cons.1 hn
        have hx := hs x (by simp)
        have hl := List.length_erase_of_mem hx
        have hp := List.length_pos_of_mem hx
        have := ih (m := m.erase x) h2 (fun y hy => (List.mem_erase_of_ne (fun e => h1 (by rw [← e]; exact hy))).2 (hs y (by simp [hy])))
        rw [List.length_cons]
        omega
    exact hsub (m := [0, 1, 2, 3, 4]) hn (fun x hx => by
      obtain ⟨h1, h2⟩ := hb x hx
      rcases (by omega : x = 0 ∨ x = 1 ∨ x = 2 ∨ x = 3 ∨ x = 4) with rfl | rfl | rfl | rfl | rfl <;> simp)
  have h2 := this hx.nd (fun x hxm => by
    obtain ⟨y, hy, rfl⟩ := List.mem_map.1 hxm
    obtain ⟨i, _, hi, _, e, _⟩ := hx.is_ y hy
    omega)
  simpa using h2
end

section
/- Lists of jobs in memory: read, of the call's own. -/
open Go.RowKit
set_option linter.unusedVariables false

def Jb.cells (j : Jb) : List Value := [.int .i64 j.ta, .int .i64 j.tm, .int .i64 j.ne]
theorem info_job : (Try.prog.info? 38).map (fun i => (i.zero, i.size, i.bytes)) = some (some (.agg #[.int .i64 0, .int .i64 0, .int .i64 0]), 3, 24) := by kernel_rfl
/-- At (b, o) lies the job j. -/
structure JbAt (w : World) (b o : Nat) (j : Jb) : Prop where
  c0 : w.cell? ⟨b, o, none⟩ = some (.int .i64 j.ta)
  c1 : w.cell? ⟨b, o + 1, none⟩ = some (.int .i64 j.tm)
  c2 : w.cell? ⟨b, o + 2, none⟩ = some (.int .i64 j.ne)
/-- The slice (A, n) reads as the jobs js; it lies below block B. -/
structure Jbs (w : World) (B : Nat) (A : Option Addr) (n : Nat) (js : List Jb) : Prop where
  len : js.length = n
  at_ : ∀ i j, js[i]? = some j → ∃ b o, A = some ⟨b, o, none⟩ ∧ b < B ∧ JbAt w b (o + i * 3) j
theorem JbAt.keep {w w' : World} {b o : Nat} {j : Jb} (h : JbAt w b o j) (hk : ∀ i, w'.cell? ⟨b, i, none⟩ = w.cell? ⟨b, i, none⟩) : JbAt w' b o j :=
  ⟨(hk _).trans h.c0, (hk _).trans h.c1, (hk _).trans h.c2⟩
theorem Jbs.keep {w w' : World} {B : Nat} {A : Option Addr} {n : Nat} {js : List Jb} (h : Jbs w B A n js) (hk : ∀ b i, b < B → w'.cell? ⟨b, i, none⟩ = w.cell? ⟨b, i, none⟩) : Jbs w' B A n js :=
  ⟨h.len, fun i j hj => by
    obtain ⟨b, o, e, hb, hc⟩ := h.at_ i j hj
    exact ⟨b, o, e, hb, hc.keep fun i => hk b i hb⟩⟩
theorem Jbs.below {w w' : World} {B : Nat} {A : Option Addr} {n : Nat} {js : List Jb} (h : Jbs w B A n js) (hb : Below B w w') : Jbs w' B A n js :=
  h.keep fun b i hbB => hb.cell (p := ⟨b, i, none⟩) hbB
theorem Jbs.more {w : World} {B B' : Nat} {A : Option Addr} {n : Nat} {js : List Jb} (h : Jbs w B A n js) (hB : B ≤ B') : Jbs w B' A n js :=
  ⟨h.len, fun i j hj => by
    obtain ⟨b, o, e, hb, hc⟩ := h.at_ i j hj
    exact ⟨b, o, e, by omega, hc⟩⟩
theorem Jbs.get {w : World} {B b o n : Nat} {js : List Jb} (h : Jbs w B (some ⟨b, o, none⟩) n js) {i : Nat} {j : Jb} (hj : js[i]? = some j) : b < B ∧ JbAt w b (o + i * 3) j := by
  obtain ⟨b', o', e, hb, hc⟩ := h.at_ i j hj
  injection e with e
  injection e with e1 e2
  subst e1 e2
  exact ⟨hb, hc⟩
theorem Jbs.take {w : World} {B : Nat} {A : Option Addr} {n k : Nat} {js : List Jb} (h : Jbs w B A n js) (hk : k ≤ n) : Jbs w B A k (js.take k) :=
  ⟨by rw [List.length_take, h.len]; omega, fun i j hj => h.at_ i j (by
    rw [List.getElem?_take] at hj
    split at hj
    · exact hj
    · cases hj)⟩
theorem Jbs.drop {w : World} {B b o : Nat} {n k m : Nat} {js : List Jb} (h : Jbs w B (some ⟨b, o, none⟩) n js) (hm : m = o + k * 3) : Jbs w B (some ⟨b, m, none⟩) (n - k) (js.drop k) :=
  ⟨by rw [List.length_drop, h.len], fun i j hj => by
    rw [List.getElem?_drop] at hj
    obtain ⟨hb, hc⟩ := h.get hj
    subst hm
    exact ⟨b, _, rfl, hb, by rw [show o + k * 3 + i * 3 = o + (k + i) * 3 by omega]; exact hc⟩⟩
theorem Jbs.nil (w : World) (B : Nat) (A : Option Addr) : Jbs w B A 0 [] := ⟨rfl, fun i j h => by simp at h⟩

/-- The slice value v is the call's own (a block from B on) and holds the jobs js. -/
def OwnJ (w : World) (B : Nat) (v : Value) (js : List Jb) : Prop := w.ownsRow B 38 3 v js.length (js.flatMap Jb.cells)
theorem jcells_length (js : List Jb) : (js.flatMap Jb.cells).length = js.length * 3 := by
  induction js with
  | nil => rfl
  | cons t ts ih => simp [List.flatMap_cons, Jb.cells, ih]; omega
theorem jcells_one (js : List Jb) : ∀ u ∈ js.flatMap Jb.cells, u.oneCell' = true := by
  intro u hu
  simp only [List.mem_flatMap, Jb.cells] at hu
  obtain ⟨t, _, h⟩ := hu
  simp at h
  rcases h with rfl | rfl | rfl <;> rfl
theorem jcells_get (ts : List Jb) : ∀ (i : Nat) (t : Jb), ts[i]? = some t → ∀ (j : Nat), j < 3 → (ts.flatMap Jb.cells)[i * 3 + j]? = t.cells[j]? := by
  induction ts with
  | nil => intro i t h; simp at h
  | cons a ts ih =>
    intro i t h j hj
    cases i with
    | zero =>
      simp at h
      subst h
      rw [List.flatMap_cons, List.getElem?_append_left (by simp [Jb.cells]; omega)]
      simp
    | succ i =>
      rw [List.flatMap_cons, List.getElem?_append_right (by simp [Jb.cells]; omega)]
      have e : (i + 1) * 3 + j - a.cells.length = i * 3 + j := by simp [Jb.cells]; omega
      rw [e]
      exact ih i t (by simpa using h) j hj
theorem OwnJ.reads {w : World} {B : Nat} {A : Option Addr} {n c : Nat} {ts : List Jb} (h : OwnJ w B (.slice A n c) ts) : n = ts.length ∧ Jbs w w.heap.size A n ts := by
  have hn : n = ts.length := by
    rcases h.2 with ⟨e, h0⟩ | ⟨g, cap, cur, e, _⟩
    · injection e; omega
    · injection e
  refine ⟨hn, hn.symm, fun i t ht => ?_⟩
  have hi : i < ts.length := (List.getElem?_eq_some_iff.1 ht).1
  rcases h.2 with ⟨e, h0⟩ | ⟨g, cap, cur, e, _, hg, _⟩
  · omega
  · injection e with e1 e2 e3
    subst e1
    have hlt : g < w.heap.size := by
      rcases Nat.lt_or_ge g w.heap.size with hlt | hge
      · exact hlt
      · rw [Array.getElem?_eq_none hge] at hg; cases hg
    have hc := h.cells (g := g) rfl
    have at_ : ∀ j u, j < 3 → t.cells[j]? = some u → w.cell? ⟨g, i * 3 + j, none⟩ = some u := by
      intro j u hj hu
      have := hc (i * 3 + j) u (by rw [jcells_get ts i t ht j hj]; exact hu)
      have ea : (⟨g, 0, none⟩ : Addr).add (i * 3 + j) = ⟨g, i * 3 + j, none⟩ := by unfold Addr.add; split <;> simp_all
      rwa [ea] at this
    refine ⟨g, 0, rfl, hlt, ?_⟩
    rw [Nat.zero_add]
    exact ⟨at_ 0 _ (by omega) rfl, at_ 1 _ (by omega) rfl, at_ 2 _ (by omega) rfl⟩
theorem OwnJ.kept {w w' : World} {B : Nat} {v : Value} {ts : List Jb} {row : Option Nat} (h : OwnJ w B v ts) (hg : w.grownBy w' row) (hr : ∀ k, row = some k → k < B) : OwnJ w' B v ts := by
  refine World.ownsRow.kept h hg ?_
  rcases he : v.ownBlock with _ | k
  · exact .inl rfl
  · right
    intro e
    have := (World.ownsRow.lt h k he).1
    have := hr k e.symm
    omega
theorem OwnJ.alloc {w : World} {B : Nat} {v : Value} {ts : List Jb} (h : OwnJ w B v ts) (o : Obj) : OwnJ (w.alloc o) B v ts := World.ownsRow.alloc h o
theorem OwnJ.form {w : World} {B : Nat} {v : Value} {ts : List Jb} (h : OwnJ w B v ts) : ∃ A c, v = .slice A ts.length c := by
  rcases h.2 with ⟨e, h0⟩ | ⟨g, cap, cur, e, _⟩
  · exact ⟨none, 0, by rw [e, h0]⟩
  · exact ⟨_, cap, e⟩
theorem OwnJ.le {w : World} {B c : Nat} {A : Option Addr} {zs : List Jb} (h : OwnJ w B (.slice A zs.length c) zs) : zs.length ≤ c := by
  rcases h.2 with ⟨e, h0⟩ | ⟨g, cap, cur, e, _, _, h1, h2, _⟩
  · omega
  · injection e with e1 e2 e3
    subst e3
    exact h1
theorem OwnJ.snoc {w : World} {B : Nat} {v : Value} {ts : List Jb} {t : Jb} (h : w.ownsRow B 38 3 v (ts.length + 1) (ts.flatMap Jb.cells ++ t.cells)) : OwnJ w B v (ts ++ [t]) := by
  unfold OwnJ
  rw [List.flatMap_append, List.length_append]
  simpa using h
theorem OwnJ.nil_ (w : World) (B : Nat) : OwnJ w B (.slice none 0 0) [] := ⟨rfl, .inl ⟨rfl, rfl⟩⟩
theorem OwnJ.empty (w : World) : OwnJ (w.alloc (.cells #[] 38)) w.heap.size (.slice (some ⟨w.heap.size, 0, none⟩) 0 0) [] :=
  ⟨rfl, .inr ⟨w.heap.size, 0, #[], rfl, Nat.le_refl _, heap_alloc_new w _, Nat.le_refl _, Nat.zero_le _, rfl, rfl⟩⟩
theorem OwnJ.below {w w' : World} {B : Nat} {v : Value} {ts : List Jb} (h : OwnJ w B v ts) (hb : Below w.heap.size w w') : OwnJ w' B v ts :=
  h.kept (row := none) ⟨hb.os, hb.tape, hb.output, hb.size, fun k hk _ => hb.block k hk⟩ (fun k e => by cases e)
theorem OwnJ.less {w : World} {B B' : Nat} {v : Value} {ts : List Jb} (h : OwnJ w B v ts) (hB : B' ≤ B) : OwnJ w B' v ts := by
  refine ⟨h.1, ?_⟩
  rcases h.2 with h | ⟨g, cap, cur, e, hb, rest⟩
  · exact .inl h
  · exact .inr ⟨g, cap, cur, e, Nat.le_trans hB hb, rest⟩
theorem cell_new3 (w : World) (t : Jb) (ty : TypeId) : ∀ j u, t.cells[j]? = some u → (w.alloc (.cells #[.int .i64 t.ta, .int .i64 t.tm, .int .i64 t.ne] ty)).cell? ((⟨w.heap.size, 0, none⟩ : Addr).add j) = some u := by
  intro j u hj
  have ea : (⟨w.heap.size, 0, none⟩ : Addr).add j = ⟨w.heap.size, j, none⟩ := by unfold Addr.add; split <;> simp_all
  rw [ea, (Blk.new w ty _).cell j, ← hj]
  simp [Jb.cells]
/-- A list of jobs as the result; a list of jobs and whether there is one. -/
def JsRes (js : List Jb) (w : World) (e : Ending) (w' : World) : Prop :=
  ∃ (A : Option Addr) (c : Nat), e = .returned (.slice A js.length c) ∧ OwnJ w' w.heap.size (.slice A js.length c) js ∧ Below w.heap.size w w'
def JsRes2 (js : List Jb) (b : Bool) (w : World) (e : Ending) (w' : World) : Prop :=
  ∃ (A : Option Addr) (c : Nat), e = .returned (.tuple #[.slice A js.length c, .bool b]) ∧ OwnJ w' w.heap.size (.slice A js.length c) js ∧ Below w.heap.size w w'
def Jb.val (j : Jb) : Value := .agg #[.int .i64 j.ta, .int .i64 j.tm, .int .i64 j.ne]
end

section
/- The places of jobs that need more than their low need, as plain data. -/
open Go.RowKit
set_option linter.unusedVariables false

/-- The places of jobs that need more than their low need. -/
def highI (ts : List Tk) : Nat → List Jb → List Int
  | _, [] => []
  | k, j :: js => (if (tkOf ts j.ta).lo < j.ne then [(k : Int)] else []) ++ highI ts (k + 1) js
def highV (ts : List Tk) (js : List Jb) : List Int := if jobsB ts js then highI ts 0 js else []
theorem high_app (ts : List Tk) : ∀ (xs ys : List Jb) (k : Nat), highI ts k (xs ++ ys) = highI ts k xs ++ highI ts (k + xs.length) ys
  | [], ys, k => by simp [highI]
  | j :: xs, ys, k => by
    rw [List.cons_append, highI, highI, high_app ts xs ys (k + 1), List.append_assoc]
    congr 3
    simp; omega
theorem high_take {ts : List Tk} {js : List Jb} {q : Nat} {j : Jb} (h : js[q]? = some j) : highI ts 0 (js.take (q + 1)) = highI ts 0 (js.take q) ++ if (tkOf ts j.ta).lo < j.ne then [(q : Int)] else [] := by
  have hq := (List.getElem?_eq_some_iff.1 h).1
  rw [List.take_add_one, h, Option.toList_some, high_app]
  congr 1
  rw [List.length_take, Nat.min_eq_left (Nat.le_of_lt hq), Nat.zero_add]
  simp [highI]
theorem high_len (ts : List Tk) : ∀ (js : List Jb) (k : Nat), (highI ts k js).length ≤ js.length
  | [], k => Nat.le_refl _
  | j :: js, k => by
    rw [highI, List.length_append, List.length_cons]
    have := high_len ts js (k + 1)
    split <;> simp <;> omega
theorem cell_new1_at (w : World) (z : Int) (ty : TypeId) (g : Nat) (hg : g = w.heap.size) : ∀ j u, ([Value.int .i64 z])[j]? = some u → (w.alloc (.cells #[.int .i64 z] ty)).cell? ((⟨g, 0, none⟩ : Addr).add j) = some u := by
  subst hg
  intro j u hj
  have ea : (⟨w.heap.size, 0, none⟩ : Addr).add j = ⟨w.heap.size, j, none⟩ := by unfold Addr.add; split <;> simp_all
  rw [ea, (Blk.new w ty _).cell j, ← hj]
  simp
end

section
/- Places of jobs with high needs: which they are, that they ascend. No program in this text. -/
open Go.RowKit
set_option linter.unusedVariables false

theorem high_mem {ts : List Tk} : ∀ {js : List Jb} {k : Nat} {z : Int}, z ∈ highI ts k js → ∃ (i : Nat) (j : Jb), z = ((k + i : Nat) : Int) ∧ js[i]? = some j ∧ (tkOf ts j.ta).lo < j.ne
  | [], k, z, h => by simp [highI] at h
  | j :: js, k, z, h => by
    rw [highI] at h
    rcases List.mem_append.1 h with h | h
    · split at h
      · rename_i hd
        exact ⟨0, j, by simpa using h, rfl, hd⟩
      · simp at h
    · obtain ⟨i, j', e, hj, hd⟩ := high_mem h
      exact ⟨i + 1, j', by rw [e]; omega, by simpa using hj, hd⟩
theorem high_asc {ts : List Tk} : ∀ {js : List Jb} {k : Nat}, (highI ts k js).Pairwise (fun a b => a < b)
  | [], k => by simp [highI]
  | j :: js, k => by
    rw [highI, List.pairwise_append]
    refine ⟨by split <;> simp, high_asc, fun a ha b hb => ?_⟩
    split at ha
    · rw [List.mem_singleton.1 ha]
      obtain ⟨i, _, e, _⟩ := high_mem hb
      omega
    · simp at ha
theorem high_at {ts : List Tk} {js : List Jb} {zs : List Int} (h : highV ts js = zs) {i : Nat} {z : Int} (hz : zs[i]? = some z) : jobsB ts js = true ∧ ∃ (k : Nat) (j : Jb), z = (k : Int) ∧ js[k]? = some j ∧ (tkOf ts j.ta).lo < j.ne := by
  unfold highV at h
  split at h
  · rename_i hb
    refine ⟨hb, ?_⟩
    obtain ⟨k, j, e, hj, hd⟩ := high_mem (k := 0) (z := z) (by rw [h]; exact List.mem_of_getElem? hz)
    exact ⟨k, j, by rw [e, Nat.zero_add], hj, hd⟩
  · rw [← h] at hz; simp at hz
theorem high_lt {ts : List Tk} {js : List Jb} {zs : List Int} (h : highV ts js = zs) {i k : Nat} {a b : Int} (ha : zs[i]? = some a) (hb : zs[k]? = some b) (hik : i < k) : a < b := by
  have hp : zs.Pairwise (fun a b => a < b) := by
    rw [← h]; unfold highV; split
    · exact high_asc
    · simp
  obtain ⟨hi, rfl⟩ := List.getElem?_eq_some_iff.1 ha
  obtain ⟨hk, rfl⟩ := List.getElem?_eq_some_iff.1 hb
  exact List.pairwise_iff_getElem.1 hp i k hi hk hik
theorem highV_len {ts : List Tk} {js : List Jb} : (highV ts js).length ≤ js.length := by
  unfold highV; split
  · exact high_len ts js 0
  · simp
end

section
/- The pieces of a text between bytes, as plain data. -/
/-- The pieces of a text between the bytes c. -/
def pieces (c : UInt8) : List UInt8 → List (List UInt8)
  | [] => [[]]
  | b :: r => if b = c then [] :: pieces c r else match pieces c r with | p :: ps => (b :: p) :: ps | [] => [[b]]
def glue (a : List UInt8) : List (List UInt8) → List (List UInt8)
  | p :: ps => (a ++ p) :: ps
  | [] => [a]

theorem pieces_ne (c : UInt8) (l : List UInt8) : pieces c l ≠ [] := by
  cases l with
  | nil => simp [pieces]
  | cons b r =>
    unfold pieces
    split
    · simp
    · split <;> simp
theorem glue_nil (c : UInt8) (l : List UInt8) : glue [] (pieces c l) = pieces c l := by
  have h := pieces_ne c l
  cases hp : pieces c l with
  | nil => exact absurd hp h
  | cons p ps => simp [glue]
theorem glue_hit {c b : UInt8} {r a : List UInt8} (h : b = c) : glue a (pieces c (b :: r)) = a :: pieces c r := by
  rw [pieces, if_pos h]
  simp [glue]
theorem glue_miss {c b : UInt8} {r a : List UInt8} (h : ¬ b = c) : glue a (pieces c (b :: r)) = glue (a ++ [b]) (pieces c r) := by
  rw [pieces, if_neg h]
  have hn := pieces_ne c r
  cases hp : pieces c r with
  | nil => exact absurd hp hn
  | cons p ps => simp [glue]

theorem pieces_miss {c : UInt8} : ∀ {a : List UInt8}, c ∉ a → pieces c a = [a]
  | [], _ => rfl
  | b :: r, h => by
    have h1 : ¬ b = c := fun e => h (by simp [e])
    rw [pieces, if_neg h1, pieces_miss (fun e => h (List.mem_cons_of_mem _ e))]
theorem pieces_hit {c : UInt8} (s : List UInt8) : ∀ {a : List UInt8}, c ∉ a → pieces c (a ++ c :: s) = a :: pieces c s
  | [], _ => by rw [List.nil_append, pieces, if_pos rfl]
  | b :: r, h => by
    have h1 : ¬ b = c := fun e => h (by simp [e])
    rw [List.cons_append, pieces, if_neg h1, pieces_hit s (fun e => h (List.mem_cons_of_mem _ e))]

theorem pieces_len (c : UInt8) : ∀ (l : List UInt8), ∀ p ∈ pieces c l, p.length ≤ l.length
  | [], p, h => by simp [pieces] at h; simp [h]
  | b :: r, p, h => by
    have ih := pieces_len c r
    unfold pieces at h
    split at h
    · rcases List.mem_cons.1 h with rfl | h
      · simp
      · have := ih p h; simp; omega
    · split at h
      · rename_i q qs hq
        rcases List.mem_cons.1 h with rfl | h
        · have := ih q (by rw [hq]; simp); simp; omega
        · have := ih p (by rw [hq]; exact List.mem_cons_of_mem _ h); simp; omega
      · simp at h; subst h; simp
theorem pieces_count (c : UInt8) : ∀ (l : List UInt8), (pieces c l).length ≤ l.length + 1
  | [] => by simp [pieces]
  | b :: r => by
    have ih := pieces_count c r
    unfold pieces
    split
    · simp; omega
    · split
      · rename_i q qs hq; rw [hq] at ih; simp at ih ⊢; omega
      · simp

def joinC (c : UInt8) : List (List UInt8) → List UInt8
  | [] => []
  | [p] => p
  | p :: q :: r => p ++ c :: joinC c (q :: r)
theorem joinC_pieces (c : UInt8) : ∀ l : List UInt8, joinC c (pieces c l) = l
  | [] => rfl
  | b :: r => by
    have ih := joinC_pieces c r
    have hn := pieces_ne c r
    unfold pieces
    split
    · rename_i hb
      cases hp : pieces c r with
      | nil => exact absurd hp hn
      | cons p ps =>
        rw [hp] at ih
        show [] ++ c :: joinC c (p :: ps) = b :: r
        rw [ih, hb]; rfl
    · cases hp : pieces c r with
      | nil => exact absurd hp hn
      | cons p ps =>
        rw [hp] at ih
        cases ps with
        | nil => show b :: p = b :: r; rw [← ih]; rfl
        | cons q ps => show (b :: p) ++ c :: joinC c (q :: ps) = b :: r; rw [← ih]; rfl
end

section
/- The text of jobs, as plain data: how it is written, that it is read back. No program in this text. -/
open Go.RowKit
set_option linter.unusedVariables false

def valJ (l : List UInt8) : Nat := l.foldl (fun n b => n * 10 + (b.toNat - 48)) 0
/-- The numeral of a number up to 999. -/
def dec3 (n : Nat) : List UInt8 := if n < 10 then [UInt8.ofNat (48 + n)] else if n < 100 then [UInt8.ofNat (48 + n / 10), UInt8.ofNat (48 + n % 10)] else [UInt8.ofNat (48 + n / 100), UInt8.ofNat (48 + n / 10 % 10), UInt8.ofNat (48 + n % 10)]
theorem dec_3 {n : Nat} (h : n < 1000) : Lib.decDigits n = dec3 n := by
  unfold dec3
  by_cases h1 : n < 10
  · rw [Lib.decDigits_one h1, if_pos h1]
  · rw [if_neg h1]
    by_cases h2 : n < 100
    · rw [Lib.decDigits_two h1 h2, if_pos h2]
    · rw [if_neg h2, Lib.decDigits, dif_neg h1, Lib.decDigits_two (by omega) (by omega), Nat.div_div_eq_div_mul]
      rfl
def digB (b : UInt8) : Bool := decide (48 ≤ b.toNat) && decide (b.toNat ≤ 57)
theorem dec3_fin : ∀ n : Fin 201, valJ (dec3 n.val) = n.val ∧ (dec3 n.val).length ≤ 3 ∧ dec3 n.val ≠ [] ∧ (dec3 n.val).all digB = true ∧ (dec3 n.val).head? ≠ some 45 ∧ ((dec3 n.val).head? ≠ some 48 ∨ (dec3 n.val).length = 1) := by decide +kernel
/-- The numeral of a number from 0 to 200. -/
def decJ (z : Int) : List UInt8 := Lib.decDigits z.toNat
structure IsNum (l : List UInt8) (z : Int) : Prop where
  val : (valJ l : Int) = z
  len : l.length ≤ 3
  ne : l ≠ []
  dig : ∀ b ∈ l, 48 ≤ b.toNat ∧ b.toNat ≤ 57
  h45 : l.head? ≠ some 45
  h48 : l.head? ≠ some 48 ∨ l.length = 1
theorem isNum {z : Int} (h0 : 0 ≤ z) (h1 : z ≤ 200) : IsNum (decJ z) z := by
  unfold decJ
  rw [dec_3 (by omega)]
  obtain ⟨a, b, c, d, e, f⟩ := dec3_fin ⟨z.toNat, by omega⟩
  refine ⟨by simp only at a; rw [a]; omega, b, c, fun x hx => ?_, e, f⟩
  have := List.all_eq_true.1 d x hx
  simpa [digB] using this
theorem num_not {z : Int} (h0 : 0 ≤ z) (h1 : z ≤ 200) {c : UInt8} (hc : c.toNat < 48 ∨ 57 < c.toNat) : c ∉ decJ z := fun h => by
  have := (isNum h0 h1).dig c h
  omega

def textJ (j : Jb) : List UInt8 := decJ j.ta ++ 64 :: (decJ j.tm ++ 58 :: decJ j.ne)
def textJs (js : List Jb) : List UInt8 := joinC 32 (js.map textJ)
def fmtJ (js : List Jb) : List UInt8 := if wrsB js then textJs js else []
/-- A job read from its text. -/
def rdJ (l : List UInt8) : Jb :=
  match pieces 64 l with
  | [a, r] => match pieces 58 r with
    | [b, c] => ⟨valJ a, valJ b, valJ c⟩
    | _ => ⟨-1, 0, 0⟩
  | _ => ⟨-1, 0, 0⟩
def parsedJ (l : List UInt8) : List Jb := (pieces 32 l).map rdJ
def okJ (l : List UInt8) : Bool := decide (l = []) || (wrsB (parsedJ l) && decide (textJs (parsedJ l) = l))
def jsOf (l : List UInt8) : List Jb := if okJ l then (if l = [] then [] else parsedJ l) else []

theorem wr_nums {j : Jb} (h : wrB j = true) : (0 ≤ j.ta ∧ j.ta ≤ 200) ∧ (0 ≤ j.tm ∧ j.tm ≤ 200) ∧ (0 ≤ j.ne ∧ j.ne ≤ 200) := by
  have := wrB_iff.1 h; omega
theorem text_at {j : Jb} (h : wrB j = true) : pieces 64 (textJ j) = [decJ j.ta, decJ j.tm ++ 58 :: decJ j.ne] ∧ pieces 58 (decJ j.tm ++ 58 :: decJ j.ne) = [decJ j.tm, decJ j.ne] := by
  obtain ⟨⟨a1, a2⟩, ⟨b1, b2⟩, c1, c2⟩ := wr_nums h
  constructor
  · unfold textJ
    rw [pieces_hit _ (num_not a1 a2 (by decide)), pieces_miss]
    intro hh
    rcases List.mem_append.1 hh with h1 | h1
    · exact num_not b1 b2 (by decide) h1
    · rcases List.mem_cons.1 h1 with h2 | h2
      · exact absurd h2 (by decide)
      · exact num_not c1 c2 (by decide) h2
  · rw [pieces_hit _ (num_not b1 b2 (by decide)), pieces_miss (num_not c1 c2 (by decide))]
theorem rd_text {j : Jb} (h : wrB j = true) : rdJ (textJ j) = j := by
  obtain ⟨e1, e2⟩ := text_at h
  obtain ⟨⟨a1, a2⟩, ⟨b1, b2⟩, c1, c2⟩ := wr_nums h
  unfold rdJ
  rw [e1]
  simp only
  rw [e2]
  exact Jb.eq_of (isNum a1 a2).val (isNum b1 b2).val (isNum c1 c2).val
theorem text_space {j : Jb} (h : wrB j = true) : (32 : UInt8) ∉ textJ j := fun hh => by
  obtain ⟨⟨a1, a2⟩, ⟨b1, b2⟩, c1, c2⟩ := wr_nums h
  unfold textJ at hh
  rcases List.mem_append.1 hh with h1 | h1
  · exact num_not a1 a2 (by decide) h1
  · rcases List.mem_cons.1 h1 with h2 | h2
    · exact absurd h2 (by decide)
    · rcases List.mem_append.1 h2 with h3 | h3
      · exact num_not b1 b2 (by decide) h3
      · rcases List.mem_cons.1 h3 with h4 | h4
        · exact absurd h4 (by decide)
        · exact num_not c1 c2 (by decide) h4
theorem text_ne (j : Jb) : textJ j ≠ [] := by unfold textJ; simp
theorem pieces_join {c : UInt8} : ∀ {ps : List (List UInt8)}, ps ≠ [] → (∀ p ∈ ps, c ∉ p) → pieces c (joinC c ps) = ps
  | [], h, _ => absurd rfl h
  | [p], _, h => pieces_miss (h p (by simp))
  | p :: q :: r, _, h => by
    show pieces c (p ++ c :: joinC c (q :: r)) = _
    rw [pieces_hit _ (h p (by simp)), pieces_join (by simp) (fun x hx => h x (List.mem_cons_of_mem _ hx))]
theorem textJs_ne {js : List Jb} (h : js ≠ []) : textJs js ≠ [] := by
  rcases js with _ | ⟨j, _ | ⟨k, r⟩⟩
  · exact absurd rfl h
  · exact text_ne j
  · show textJ j ++ 32 :: joinC 32 _ ≠ []
    simp
theorem pieces_text {js : List Jb} (hn : js ≠ []) (h : wrsB js = true) : pieces 32 (textJs js) = js.map textJ := by
  refine pieces_join (by simpa using hn) fun p hp => ?_
  obtain ⟨j, hj, rfl⟩ := List.mem_map.1 hp
  exact text_space ((wrsB_iff.1 h).2 j hj)
theorem parsed_text {js : List Jb} (hn : js ≠ []) (h : wrsB js = true) : parsedJ (textJs js) = js := by
  unfold parsedJ
  rw [pieces_text hn h, List.map_map]
  have : ∀ l : List Jb, (∀ j ∈ l, wrB j = true) → l.map (rdJ ∘ textJ) = l := fun l => by
    induction l with
    | nil => intro _; rfl
    | cons j l ih => intro hl; rw [List.map_cons, ih fun k hk => hl k (by simp [hk])]; exact congrArg (· :: l) (rd_text (hl j (by simp)))
  exact this js (wrsB_iff.1 h).2
/-- Jobs are read back from their text. -/
theorem ok_text {js : List Jb} (h : wrsB js = true) : okJ (textJs js) = true ∧ jsOf (textJs js) = js := by
  by_cases hn : js = []
  · subst hn; exact ⟨rfl, rfl⟩
  · have e := parsed_text hn h
    have ok : okJ (textJs js) = true := by unfold okJ; rw [e, h]; simp
    refine ⟨ok, ?_⟩
    unfold jsOf
    rw [ok, if_pos rfl, if_neg (textJs_ne hn), e]
/-- A text that is read is the text of what is read. -/
theorem text_ok {l : List UInt8} (h : okJ l = true) : wrsB (jsOf l) = true ∧ textJs (jsOf l) = l := by
  unfold jsOf
  rw [h, if_pos rfl]
  split
  · rename_i e; rw [e]; exact ⟨rfl, rfl⟩
  · rename_i e
    unfold okJ at h
    simp [e] at h
    exact h
theorem js_no {l : List UInt8} (h : okJ l = false) : jsOf l = [] := by unfold jsOf; rw [h]; rfl
/-- What fits a text is what is read of it. -/
theorem ok_of {l : List UInt8} {js : List Jb} (h : wrsB js = true) (e : textJs js = l) : okJ l = true ∧ jsOf l = js := by rw [← e]; exact ok_text h
theorem text_len (j : Jb) (h : wrB j = true) : (textJ j).length ≤ 11 := by
  obtain ⟨⟨a1, a2⟩, ⟨b1, b2⟩, c1, c2⟩ := wr_nums h
  have := (isNum a1 a2).len
  have := (isNum b1 b2).len
  have := (isNum c1 c2).len
  unfold textJ
  simp
  omega
theorem joinC_snoc (c : UInt8) (p : List UInt8) : ∀ {ps : List (List UInt8)}, ps ≠ [] → joinC c (ps ++ [p]) = joinC c ps ++ c :: p
  | [], h => absurd rfl h
  | [q], _ => rfl
  | q :: r :: ps, _ => by
    show q ++ c :: joinC c ((r :: ps) ++ [p]) = (q ++ c :: joinC c (r :: ps)) ++ c :: p
    rw [joinC_snoc c p (by simp)]
    simp
theorem textJs_snoc {js : List Jb} (j : Jb) (h : js ≠ []) : textJs (js ++ [j]) = textJs js ++ 32 :: textJ j := by
  unfold textJs
  rw [List.map_append]
  exact joinC_snoc 32 _ (by simpa using h)
theorem textJs_one (j : Jb) : textJs [j] = textJ j := rfl
theorem textJs_len {js : List Jb} : (∀ j ∈ js, wrB j = true) → (textJs js).length ≤ 12 * js.length := by
  refine snoc_ind (P := fun js => (∀ j ∈ js, wrB j = true) → (textJs js).length ≤ 12 * js.length) (fun _ => Nat.le_refl _) (fun l j ih h => ?_) js
  have hj := text_len j (h j (by simp))
  have hl := ih fun k hk => h k (by simp [hk])
  by_cases hn : l = []
  · subst hn; show (textJ j).length ≤ 12 * 1; omega
  · rw [textJs_snoc j hn]; simp; omega
def colons (l : List UInt8) : Nat := l.countP fun b => b == 58
theorem colons_not {l : List UInt8} (h : (58 : UInt8) ∉ l) : colons l = 0 := by
  unfold colons
  rw [List.countP_eq_zero]
  intro b hb e
  rw [show b = 58 by simpa using e] at hb
  exact h hb
theorem colons_app (a b : List UInt8) : colons (a ++ b) = colons a + colons b := List.countP_append
theorem colons_text {j : Jb} (h : wrB j = true) : colons (textJ j) = 1 := by
  obtain ⟨⟨a1, a2⟩, ⟨b1, b2⟩, c1, c2⟩ := wr_nums h
  unfold textJ
  rw [colons_app, show (64 : UInt8) :: (decJ j.tm ++ 58 :: decJ j.ne) = [64] ++ (decJ j.tm ++ ([58] ++ decJ j.ne)) from rfl, colons_app, colons_app, colons_app, colons_not (num_not a1 a2 (by decide)), colons_not (num_not b1 b2 (by decide)), colons_not (num_not c1 c2 (by decide))]
  rfl
/-- The text of jobs has a colon for each of them. -/
theorem colons_all {js : List Jb} : (∀ j ∈ js, wrB j = true) → colons (textJs js) = js.length := by
  refine snoc_ind (P := fun js => (∀ j ∈ js, wrB j = true) → colons (textJs js) = js.length) (fun _ => rfl) (fun l j ih h => ?_) js
  have hj := colons_text (h j (by simp))
  by_cases hn : l = []
  · subst hn; exact hj
  · rw [textJs_snoc j hn, show (32 : UInt8) :: textJ j = [32] ++ textJ j from rfl, colons_app, colons_app, ih fun k hk => h k (by simp [hk]), hj, List.length_append]
    rfl
end

section
/- Contract of the program's hasTask. Nothing that was there is written. -/
open Go.RowKit
set_option linter.unusedVariables false

set_option maxHeartbeats 1000000 in
theorem iHas5_is (w : World) (A : Option Addr) (n c : Nat) (ts : List Tk) (a : Int) (h : Tks w w.heap.size A n ts) (hn : n ≤ 1048576) (b : Bool) (hb : (setB ts && (decide (0 ≤ a) && decide (a < (n : Int)))) = b) :
    Calls Try.prog 70 #[.slice A n c, .int .i64 a] w fun e w' => e = .returned (.bool b) ∧ Below w.heap.size w w' := by
  have H := Lib.hid h
  clear h
  cases hs : setB ts
  · subst hb
    go_enter Try.func70, Try.ntmps70
    go_wp2_with (go_at_call 41; refine (iSetValid_any _ A n c ts H.out hn).mono ?_; rintro e w2 ⟨rfl, hb2⟩)
    go_ret
    exact ⟨by simp [hs], hb2⟩
  rw [hs, Bool.true_and] at hb
  by_cases h0 : 0 ≤ a
  · by_cases h1 : a < (n : Int)
    · rw [decide_eq_true h0, decide_eq_true h1] at hb
      subst hb
      go_enter Try.func70, Try.ntmps70
      go_wp2_with (go_at_call 41; refine (iSetValid_any _ A n c ts H.out hn).mono ?_; rintro e w2 ⟨rfl, hb2⟩)
      go_ret
      exact ⟨by simp [*], hb2⟩
    · rw [decide_eq_true h0, decide_eq_false h1] at hb
      subst hb
      go_enter Try.func70, Try.ntmps70
      go_wp2_with (go_at_call 41; refine (iSetValid_any _ A n c ts H.out hn).mono ?_; rintro e w2 ⟨rfl, hb2⟩)
      go_ret
      exact ⟨by simp [*], hb2⟩
  · rw [decide_eq_false h0] at hb
    subst hb
    go_enter Try.func70, Try.ntmps70
    go_wp2_with (go_at_call 41; refine (iSetValid_any _ A n c ts H.out hn).mono ?_; rintro e w2 ⟨rfl, hb2⟩)
    go_ret
    exact ⟨by simp [*], hb2⟩
end

section
/- Contract of slices.Insert at a list of tasks with room for one more: the task comes at its place, the row stays where it is. -/
open Go.RowKit

/-- copy at elements of k cells, into a row that is known whole. -/
theorem run_copy_k {P : Program} (w : World) (dT sT ty elem : TypeId) (k g o dLen dCap : Nat) (a : Addr) (sLen sCap m : Nat) (cur : Array Value) (t : TypeId) (cs : List Value)
    (hu : P.underlying dT = some (.slice elem)) (hs : (P.info? elem).map (·.size) = some k)
    (hg : w.heap[g]? = some (.cells cur t (0, 0))) (hm : m = Nat.min sLen dLen) (hn : cs.length = m * k)
    (hsrc : ∀ j v, cs[j]? = some v → w.cell? (a.add j) = some v) (hfit : o + cs.length ≤ cur.size) (h1 : ∀ v ∈ cs, v.oneCell' = true) :
    (Builtin.copy_ #[dT, sT] ty #[.slice (some ⟨g, o, none⟩) dLen dCap, .slice (some a) sLen sCap]).run P w =
      .ok (goInt m) (w.setRow g (cur.toList.take o ++ cs ++ cur.toList.drop (o + cs.length)).toArray) := by
  have hl := run_loadCells_list (P := P) w a cs hsrc
  have hst := run_storeCells_at P g o t cs 0 cur w hg (by simpa using hfit) h1
  cases hq : P.info? elem with
  | none => simp [hq] at hs
  | some i =>
    have hi : i.size = k := by simpa [hq] using hs
    rw [hn] at hl
    simp [Builtin.copy_, run_underlying hu, Builtin.lenOf, Builtin.firstCells, sizeOf, typeInfo, hq, hi, ← hm, hl, hst]

theorem wpList_copy_run {P : Program} (w : World) {ops : Array Oper} {rest : List Oper} {o : Oper} {a : Act} {Q : Exit → Act → World → Prop} (hgd : o.guard = none) (d s : Operand) (t t' : TypeId)
    (ho : o.op = .call { callee := .builtin .copy, args := #[d, s], argTypes := #[t, t'] }) (v u : Value) (hd : a.eval d = v) (hs : a.eval s = u) {v' : Value} {w' : World}
    (hr : (Builtin.copy_ #[t, t'] o.type #[v, u]).run P w = .ok v' w') (h : wpList P ops Q rest (a.put o.dst v') w') : wpList P ops Q (o :: rest) a w :=
  wpList_plain hgd fun _ hK => by
    unfold Oper.wp execOp
    simp only [ho, resolve, invoke, builtin, Sem.run_bind, Sem.run_pure, Result.andThen_ok, List.map_toArray, List.map_cons, List.map_nil, hd, hs, hr]
    exact hK _ _ h

theorem step_copy_run {P : Program} {ops : Array Oper} {o : Oper} {a : Act} {w : World} {K : Act → World → Prop} {Q : Exit → Act → World → Prop} {E : Prop}
    (hg : o.guard = none) (d x : Operand) (dT sT : TypeId) (hop : o.op = Op.call { callee := Callee.builtin Builtin.copy, args := #[d, x], argTypes := #[dT, sT] })
    (v u : Value) (hd : a.eval d = v) (hx : a.eval x = u) {v' : Value} {w' : World} (hr : (Builtin.copy_ #[dT, sT] o.type #[v, u]).run P w = .ok v' w') (hK : K (a.put o.dst v') w') :
    if Region.wanted o (yielded ops a.tmps) = true then Oper.wp P o a w K Q else E := by
  have hw : Region.wanted o (yielded ops a.tmps) = true := by simp [Region.wanted, hg]
  rw [if_pos hw]
  unfold Oper.wp
  simp [execOp, hop, resolve, invoke, builtin, hd, hx, hr, Result.andThen]
  exact hK

def InsRes (g N B : Nat) (us : List Tk) (w : World) (e : Ending) (w' : World) : Prop :=
  e = .returned (.slice (some ⟨g, 0, none⟩) us.length N) ∧ Own w' B (.slice (some ⟨g, 0, none⟩) us.length N) us ∧ w.grownBy w' (some g)

theorem own_block {w : World} {B g n N : Nat} {ts : List Tk} (h : Own w B (.slice (some ⟨g, 0, none⟩) n N) ts) :
    n = ts.length ∧ B ≤ g ∧ ∃ cur, w.heap[g]? = some (.cells cur 31 (0, 0)) ∧ n ≤ N ∧ N ≤ maxLen ∧ cur.size = N * 5 ∧ cur.toList.take (n * 5) = ts.flatMap Tk.cells := by
  have hn := h.reads.1
  rcases h.2 with ⟨e, h0⟩ | ⟨g', cap, cur, e, hb, hg, h1, h2, h3, h4⟩
  · cases e
  · injection e with e1 e2 e3
    injection e1 with e1
    injection e1 with e1
    subst e1 e3
    exact ⟨hn, hb, cur, hg, by omega, h2, h3, by rw [hn]; exact h4⟩

theorem own_of_block {w : World} {B g N : Nat} {ts : List Tk} {cur : Array Value} (hb : B ≤ g) (hg : w.heap[g]? = some (.cells cur 31 (0, 0))) (hn : ts.length ≤ N) (hN : N ≤ maxLen) (hs : cur.size = N * 5)
    (ht : cur.toList.take (ts.length * 5) = ts.flatMap Tk.cells) : Own w B (.slice (some ⟨g, 0, none⟩) ts.length N) ts :=
  ⟨cells_length ts, .inr ⟨g, N, cur, rfl, hb, hg, hn, hN, hs, ht⟩⟩

theorem gb_setRow (w : World) (g : Nat) (cs : Array Value) : w.grownBy (w.setRow g cs) (some g) :=
  ⟨rfl, rfl, rfl, by simp, fun k _ hne => setRow_other w g k cs (fun e => hne (by rw [e]))⟩

theorem drop_cells (ts : List Tk) : ∀ i, (ts.flatMap Tk.cells).drop (i * 5) = (ts.drop i).flatMap Tk.cells := by
  induction ts with
  | nil => intro i; simp
  | cons t ts ih =>
    intro i
    cases i with
    | zero => simp
    | succ i =>
      have e : (i + 1) * 5 = t.cells.length + i * 5 := by simp [Tk.cells]; omega
      rw [List.flatMap_cons, e, List.drop_append, List.drop_succ_cons]
      simp [ih]
theorem take_cells (ts : List Tk) : ∀ i, (ts.flatMap Tk.cells).take (i * 5) = (ts.take i).flatMap Tk.cells := by
  induction ts with
  | nil => intro i; simp
  | cons t ts ih =>
    intro i
    cases i with
    | zero => simp
    | succ i =>
      have e : (i + 1) * 5 = t.cells.length + i * 5 := by simp [Tk.cells]; omega
      rw [List.flatMap_cons, e, List.take_append, List.take_succ_cons]
      simp [ih]
      exact List.take_of_length_le (by omega)

/-- The row behind the two copies. -/
theorem ins_row {L X Y : List Value} {a b n : Nat} (hX : L.take n = X) (hn : n ≤ L.length) (ha : a ≤ n) (hY : Y.length = b) (hfit : n + b ≤ L.length) :
    ((((L.take (a + b) ++ X.drop a ++ L.drop (a + b + (X.drop a).length)).take a) ++ Y ++ ((L.take (a + b) ++ X.drop a ++ L.drop (a + b + (X.drop a).length)).drop (a + Y.length))).take (n + b)) = X.take a ++ Y ++ X.drop a := by
  have hXl : X.length = n := by rw [← hX, List.length_take]; omega
  have hdl : (X.drop a).length = n - a := by rw [List.length_drop, hXl]
  have e1 : (L.take (a + b) ++ X.drop a ++ L.drop (a + b + (X.drop a).length)).take a = X.take a := by
    rw [List.append_assoc, List.take_append_of_le_length (by rw [List.length_take]; omega), List.take_take, ← hX, List.take_take]
    congr 1
    omega
  have e2 : (L.take (a + b) ++ X.drop a ++ L.drop (a + b + (X.drop a).length)).drop (a + Y.length) = X.drop a ++ L.drop (a + b + (X.drop a).length) := by
    rw [hY, List.append_assoc, List.drop_append_of_le_length (by rw [List.length_take]; omega), List.drop_eq_nil_of_le (by rw [List.length_take]; omega), List.nil_append]
  rw [e1, e2, ← List.append_assoc, List.take_append_of_le_length (by simp only [List.length_append, List.length_take, hdl, hXl]; omega), List.take_of_length_le (by simp only [List.length_append, List.length_take, hdl, hXl]; omega)]

theorem info_size : (Try.prog.info? 31).map (·.size) = some 5 := by kernel_rfl
theorem sizeOf_task (w : World) : (Go.sizeOf 31).run Try.prog w = .ok 5 w := by
  obtain ⟨i0, hi, hz0, hz1, hz2⟩ := info_parts info_task
  simp [Go.sizeOf, typeInfo, hi, hz1]

theorem own_row {w : World} {B n : Nat} {v : Value} {ts : List Tk} (h : Own w B v ts) (hn : n = ts.length) : w.ownsRow B 31 5 v n (ts.flatMap Tk.cells) := by subst hn; exact h
end

section
/- Least windows that are enough: what a need that only grows with the window asks (no program text). -/
set_option linter.unusedVariables false

/-- How many jobs come within a window, times what each needs. -/
def demN (n e w : Nat) : Nat := (w + e - 1) / e * n
theorem dem_mono (n e : Nat) {v w : Nat} (h : v ≤ w) : demN n e v ≤ demN n e w :=
  Nat.mul_le_mul_right n (Nat.div_le_div_right (by omega))
theorem dem_need {n m : Nat} (e w : Nat) (h : n ≤ m) : demN n e w ≤ demN m e w := Nat.mul_le_mul_left _ h
theorem dem_zero (n : Nat) {e : Nat} (he : 1 ≤ e) : demN n e 0 = 0 := by
  unfold demN
  rw [Nat.div_eq_of_lt (by omega), Nat.zero_mul]
theorem dem_more (n : Nat) {e : Nat} (he : 1 ≤ e) (w : Nat) : demN n e (w + e) = demN n e w + n := by
  unfold demN
  have h : w + e + e - 1 = w + e - 1 + e := by omega
  rw [h, Nat.add_div_right _ (by omega), Nat.succ_mul]
theorem dem_one (n : Nat) {e : Nat} (he : 1 ≤ e) : demN n e 1 = n := by
  unfold demN
  have h : 1 + e - 1 = e := by omega
  rw [h, Nat.div_self (by omega), Nat.one_mul]
theorem dem_every (n : Nat) {e : Nat} (he : 1 ≤ e) : demN n e e = n := by
  have := dem_more n he 0
  rw [Nat.zero_add, dem_zero n he, Nat.zero_add] at this
  exact this
theorem dem_past (n : Nat) {e : Nat} (he : 1 ≤ e) : demN n e (e + 1) = 2 * n := by
  rw [Nat.add_comm, dem_more n he 1, dem_one n he, Nat.two_mul]
theorem dem_pos {n e : Nat} (hn : 1 ≤ n) (he : 1 ≤ e) {w : Nat} (hw : 1 ≤ w) : n ≤ demN n e w := by
  have := dem_mono n e hw
  rwa [dem_one n he] at this
theorem dem_eq_zero {n e : Nat} (hn : 1 ≤ n) (he : 1 ≤ e) {w : Nat} : demN n e w = 0 ↔ w = 0 := by
  constructor
  · intro h
    rcases Nat.eq_zero_or_pos w with h0 | h0
    · exact h0
    · have := dem_pos hn he h0
      omega
  · rintro rfl
    exact dem_zero n he
theorem dem_add (n : Nat) {e : Nat} (he : 1 ≤ e) (v w : Nat) : demN n e (v + w) ≤ demN n e v + demN n e w := by
  unfold demN
  rw [← Nat.add_mul]
  refine Nat.mul_le_mul_right n ?_
  have h1 := Nat.div_add_mod (v + e - 1) e
  have h2 := Nat.div_add_mod (w + e - 1) e
  have m1 := Nat.mod_lt (v + e - 1) (show e > 0 by omega)
  have m2 := Nat.mod_lt (w + e - 1) (show e > 0 by omega)
  refine Nat.le_of_lt_succ ((Nat.div_lt_iff_lt_mul (by omega)).2 ?_)
  generalize hx : (v + e - 1) / e = x at *
  generalize hy : (w + e - 1) / e = y at *
  have e3 : (x + y).succ * e = e * x + e * y + e := by rw [Nat.succ_mul, Nat.add_mul, Nat.mul_comm x, Nat.mul_comm y]
  rw [e3]
  omega
/-- A window's worth at least. -/
theorem dem_ge (n : Nat) {e : Nat} (he : 1 ≤ e) (w : Nat) : w * n ≤ demN n e w * e := by
  unfold demN
  have h1 := Nat.div_add_mod (w + e - 1) e
  have m1 := Nat.mod_lt (w + e - 1) (show e > 0 by omega)
  generalize (w + e - 1) / e = x at *
  have h2 : w ≤ e * x := by omega
  calc w * n ≤ e * x * n := Nat.mul_le_mul_right n h2
    _ = x * n * e := by ac_rfl

/-- No window from lo on and below w is enough. -/
def NoneBelow (F : Nat → Nat) (lo w : Nat) : Prop := lo ≤ w ∧ ∀ v, lo ≤ v → v < w → v < F v
/-- The least window from lo to hi that is enough. -/
def leastN (F : Nat → Nat) (lo hi : Nat) : Option Nat := (List.range (hi + 1)).find? fun w => decide (lo ≤ w) && decide (F w ≤ w)
theorem find_range {p : Nat → Bool} {n w : Nat} : (List.range n).find? p = some w ↔ w < n ∧ p w = true ∧ ∀ v, v < w → p v = false := by
  rw [List.find?_range_eq_some]
  simp
  constructor
  · rintro ⟨a, b, c⟩; exact ⟨b, a, c⟩
  · rintro ⟨a, b, c⟩; exact ⟨b, a, c⟩
theorem least_some {F : Nat → Nat} {lo hi w : Nat} : leastN F lo hi = some w ↔ lo ≤ w ∧ w ≤ hi ∧ F w ≤ w ∧ ∀ v, lo ≤ v → v < w → v < F v := by
  unfold leastN
  rw [find_range]
  constructor
  · rintro ⟨h1, h2, h3⟩
    rw [Bool.and_eq_true, decide_eq_true_iff, decide_eq_true_iff] at h2
    refine ⟨h2.1, by omega, h2.2, fun v hv hw => ?_⟩
    have := h3 v hw
    rw [decide_eq_true hv, Bool.true_and, decide_eq_false_iff_not] at this
    omega
  · rintro ⟨h1, h2, h3, h4⟩
    refine ⟨by omega, by rw [decide_eq_true h1, decide_eq_true h3]; rfl, fun v hv => ?_⟩
    by_cases hl : lo ≤ v
    · have := h4 v hl hv
      rw [decide_eq_false (show ¬ F v ≤ v by omega), Bool.and_false]
    · rw [decide_eq_false hl, Bool.false_and]
theorem least_none {F : Nat → Nat} {lo hi : Nat} : leastN F lo hi = none ↔ ∀ v, lo ≤ v → v ≤ hi → v < F v := by
  unfold leastN
  rw [List.find?_eq_none]
  constructor
  · intro h v h1 h2
    have := h v (List.mem_range.2 (by omega))
    rw [Bool.and_eq_true, decide_eq_true_iff, decide_eq_true_iff] at this
    have h3 : ¬ F v ≤ v := fun h3 => this ⟨h1, h3⟩
    omega
  · intro h v hv
    have hv := List.mem_range.1 hv
    rw [Bool.and_eq_true, decide_eq_true_iff, decide_eq_true_iff]
    rintro ⟨h1, h2⟩
    have := h v h1 (by omega)
    omega

theorem none_start (F : Nat → Nat) (lo : Nat) : NoneBelow F lo lo := ⟨Nat.le_refl _, fun v h1 h2 => by omega⟩
/-- At a window below which none is enough the need is no less than the window. -/
theorem none_le {F : Nat → Nat} {lo : Nat} (hm : ∀ v w, v ≤ w → F v ≤ F w) (hF : ∀ w, lo ≤ w → lo ≤ F w) {w : Nat} (h : NoneBelow F lo w) : w ≤ F w := by
  rcases Nat.lt_or_ge (F w) w with hlt | hge
  · have h1 := h.2 (F w) (hF w h.1) hlt
    have h2 := hm (F w) w (Nat.le_of_lt hlt)
    omega
  · exact hge
/-- One round: the need of a window below which none is enough is again such a window. -/
theorem none_step {F : Nat → Nat} {lo : Nat} (hm : ∀ v w, v ≤ w → F v ≤ F w) (hF : ∀ w, lo ≤ w → lo ≤ F w) {w : Nat} (h : NoneBelow F lo w) : NoneBelow F lo (F w) := by
  refine ⟨hF w h.1, fun v h1 h2 => ?_⟩
  rcases Nat.lt_or_ge v w with hv | hv
  · exact h.2 v h1 hv
  · exact Nat.lt_of_lt_of_le h2 (hm w v hv)
theorem least_hit {F : Nat → Nat} {lo hi w : Nat} (h : NoneBelow F lo w) (hw : w ≤ hi) (he : F w = w) : leastN F lo hi = some w :=
  least_some.2 ⟨h.1, hw, by omega, h.2⟩
theorem least_past {F : Nat → Nat} {lo hi w : Nat} (h : NoneBelow F lo w) (hw : hi < w) : leastN F lo hi = none :=
  least_none.2 fun v h1 h2 => h.2 v h1 (by omega)
/-- What is enough first is just enough. -/
theorem least_fix {F : Nat → Nat} {lo hi w : Nat} (hm : ∀ v w, v ≤ w → F v ≤ F w) (hF : ∀ w, lo ≤ w → lo ≤ F w) (h : leastN F lo hi = some w) : F w = w := by
  obtain ⟨h1, _, h3, h4⟩ := least_some.1 h
  have := none_le hm hF ⟨h1, h4⟩
  omega
/-- A need that is less at every window is met no later. -/
theorem least_less {F G : Nat → Nat} {lo lo' hi hi' w : Nat} (hG : ∀ v, lo ≤ v → v ≤ w → G v ≤ F v) (hl : lo' ≤ lo) (hh : hi ≤ hi') (h : leastN F lo hi = some w) : ∃ v, leastN G lo' hi' = some v ∧ v ≤ w := by
  obtain ⟨h1, h2, h3, _⟩ := least_some.1 h
  cases hg : leastN G lo' hi' with
  | none =>
    have := least_none.1 hg w (by omega) (by omega)
    have := hG w h1 (Nat.le_refl w)
    omega
  | some v =>
    refine ⟨v, rfl, ?_⟩
    obtain ⟨g1, g2, g3, g4⟩ := least_some.1 hg
    rcases Nat.lt_or_ge w v with hlt | hge
    · have := g4 w (by omega) hlt
      have := hG w h1 (Nat.le_refl w)
      omega
    · exact hge

/-- Needs that come in a list of (need, distance). -/
def sumD (ks : List (Nat × Nat)) (w : Nat) : Nat := (ks.map fun k => demN k.1 k.2 w).sum
theorem sumD_nil (w : Nat) : sumD [] w = 0 := rfl
theorem sumD_cons (k : Nat × Nat) (ks : List (Nat × Nat)) (w : Nat) : sumD (k :: ks) w = demN k.1 k.2 w + sumD ks w := rfl
theorem sumD_app (xs ys : List (Nat × Nat)) (w : Nat) : sumD (xs ++ ys) w = sumD xs w + sumD ys w := by
  unfold sumD
  rw [List.map_append, List.sum_append]
theorem sumD_snoc (ks : List (Nat × Nat)) (k : Nat × Nat) (w : Nat) : sumD (ks ++ [k]) w = sumD ks w + demN k.1 k.2 w := by
  rw [sumD_app, sumD_cons, sumD_nil, Nat.add_zero]
theorem sumD_mono : ∀ (ks : List (Nat × Nat)) {v w : Nat}, v ≤ w → sumD ks v ≤ sumD ks w
  | [], _, _, _ => Nat.le_refl _
  | k :: ks, v, w, h => by
    rw [sumD_cons, sumD_cons]
    exact Nat.add_le_add (dem_mono _ _ h) (sumD_mono ks h)
theorem sumD_perm {xs ys : List (Nat × Nat)} (h : xs.Perm ys) (w : Nat) : sumD xs w = sumD ys w := (h.map _).sum_nat
theorem sumD_sub {xs ys : List (Nat × Nat)} (h : xs.Sublist ys) (w : Nat) : sumD xs w ≤ sumD ys w := by
  induction h with
  | slnil => exact Nat.le_refl _
  | cons a _ ih => rw [sumD_cons]; omega
  | cons_cons a _ ih => rw [sumD_cons, sumD_cons]; omega
/-- What a list needs in no window. -/
theorem sumD_zero : ∀ {ks : List (Nat × Nat)}, (∀ k ∈ ks, 1 ≤ k.2) → sumD ks 0 = 0
  | [], _ => rfl
  | k :: ks, h => by
    rw [sumD_cons, dem_zero _ (h k (by simp)), sumD_zero fun x hx => h x (by simp [hx])]
theorem sumD_pos {ks : List (Nat × Nat)} (hn : ks ≠ []) (h : ∀ k ∈ ks, 1 ≤ k.1 ∧ 1 ≤ k.2) {w : Nat} (hw : 1 ≤ w) : 1 ≤ sumD ks w := by
  cases ks with
  | nil => exact absurd rfl hn
  | cons k ks =>
    rw [sumD_cons]
    obtain ⟨h1, h2⟩ := h k (by simp)
    have := dem_pos h1 h2 hw
    omega
end

section
/- Responses of tasks as plain data: demands of lists of tasks, the least windows, what holds (no program text). -/
set_option linter.unusedVariables false

def dmd (t : Tk) (w : Nat) (h : Bool) : Nat := demN (if h then t.hi.toNat else t.lo.toNat) t.ev.toNat w
def dLow (ts : List Tk) (w : Nat) : Nat := (ts.map fun t => dmd t w false).sum
/-- What a task needs around a switch that comes within the window l. -/
def dmS (l w : Nat) (t : Tk) : Nat := if t.cr then dmd t w true else dmd t l false
def dSwi (ts : List Tk) (l w : Nat) : Nat := (ts.map (dmS l w)).sum

theorem ok_parts {t : Tk} (h : t.ok = true) : 1 ≤ t.lo ∧ t.lo ≤ t.hi ∧ t.hi ≤ t.du ∧ t.du ≤ t.ev ∧ t.ev ≤ 20 ∧ (t.cr = false → t.lo = t.hi) := by
  unfold Tk.ok validB at h
  simp only [Bool.and_eq_true, decide_eq_true_iff, Bool.or_eq_true, beq_iff_eq] at h
  refine ⟨h.1, h.2.1, h.2.2.1, h.2.2.2.1, h.2.2.2.2.1, fun hc => ?_⟩
  rcases h.2.2.2.2.2 with h | h
  · rw [h] at hc; cases hc
  · exact h
theorem set_ok {ts : List Tk} (h : setB ts = true) {t : Tk} (ht : t ∈ ts) : t.ok = true := by
  unfold setB at h
  rw [Bool.and_eq_true] at h
  exact List.all_eq_true.1 h.2 t ht
theorem get_mem {ts : List Tk} {k : Nat} {t : Tk} (h : ts[k]? = some t) : t ∈ ts := List.mem_of_getElem? h
theorem set_of {ts : List Tk} (hl : ts.length ≤ 5) (h : ∀ t ∈ ts, t.ok = true) : setB ts = true := by
  unfold setB
  rw [Bool.and_eq_true, decide_eq_true_iff]
  exact ⟨hl, List.all_eq_true.2 h⟩
theorem set_sub {xs ys : List Tk} (h : setB ys = true) (hs : xs.Sublist ys) : setB xs = true :=
  set_of (Nat.le_trans hs.length_le (setB_len h)) fun t ht => set_ok h (hs.subset ht)
theorem set_take {ts : List Tk} (h : setB ts = true) (k : Nat) : setB (ts.take k) = true := set_sub h (List.take_sublist k ts)
theorem set_drop {ts : List Tk} (h : setB ts = true) (k : Nat) : setB (ts.drop k) = true := set_sub h (List.drop_sublist k ts)

theorem dmd_mono (t : Tk) (h : Bool) {v w : Nat} (hv : v ≤ w) : dmd t v h ≤ dmd t w h := dem_mono _ _ hv
theorem dmd_bound {t : Tk} (ht : t.ok = true) (w : Nat) (h : Bool) : dmd t w h ≤ 20 * (w + 20) := by
  obtain ⟨h1, h2, h3, h4, h5, _⟩ := ok_parts ht
  unfold dmd demN
  have a : (w + t.ev.toNat - 1) / t.ev.toNat ≤ w + 20 := Nat.le_trans (Nat.div_le_self _ _) (by omega)
  have b : (if h then t.hi.toNat else t.lo.toNat) ≤ 20 := by split <;> omega
  calc _ ≤ (w + 20) * 20 := Nat.mul_le_mul a b
    _ = 20 * (w + 20) := Nat.mul_comm _ _
theorem dmd_low {t : Tk} (ht : t.ok = true) (w : Nat) (h : Bool) : dmd t w false ≤ dmd t w h := by
  obtain ⟨h1, h2, _⟩ := ok_parts ht
  refine dem_need _ _ ?_
  cases h
  · exact Nat.le_refl _
  · show t.lo.toNat ≤ t.hi.toNat
    omega
theorem take_snoc {ts : List Tk} {k : Nat} {t : Tk} (h : ts[k]? = some t) : ts.take (k + 1) = ts.take k ++ [t] := by
  rw [List.take_add_one, h]; rfl
theorem sum_snoc (f : Tk → Nat) {ts : List Tk} {k : Nat} {t : Tk} (h : ts[k]? = some t) : ((ts.take (k + 1)).map f).sum = ((ts.take k).map f).sum + f t := by
  rw [take_snoc h]; simp
theorem dLow_take {ts : List Tk} {k : Nat} {t : Tk} (h : ts[k]? = some t) (w : Nat) : dLow (ts.take (k + 1)) w = dLow (ts.take k) w + dmd t w false := sum_snoc _ h
theorem dSwi_take {ts : List Tk} {k : Nat} {t : Tk} (h : ts[k]? = some t) (l w : Nat) : dSwi (ts.take (k + 1)) l w = dSwi (ts.take k) l w + dmS l w t := sum_snoc _ h
theorem sum_le {f g : Tk → Nat} : ∀ {ts : List Tk}, (∀ t ∈ ts, f t ≤ g t) → (ts.map f).sum ≤ (ts.map g).sum
  | [], _ => Nat.le_refl _
  | t :: ts, h => by
    simp only [List.map_cons, List.sum_cons]
    have h1 := h t (by simp)
    have h2 := sum_le (ts := ts) fun x hx => h x (by simp [hx])
    omega
theorem sum_sub (f : Tk → Nat) {xs ys : List Tk} (h : xs.Sublist ys) : (xs.map f).sum ≤ (ys.map f).sum := by
  induction h with
  | slnil => exact Nat.le_refl _
  | cons a _ ih => simp only [List.map_cons, List.sum_cons]; omega
  | cons_cons a _ ih => simp only [List.map_cons, List.sum_cons]; omega
theorem tsum_bound {f : Tk → Nat} {b : Nat} : ∀ {ts : List Tk}, (∀ t ∈ ts, f t ≤ b) → (ts.map f).sum ≤ ts.length * b
  | [], _ => by simp
  | t :: ts, h => by
    simp only [List.map_cons, List.sum_cons, List.length_cons]
    have h1 := h t (by simp)
    have h2 := tsum_bound (ts := ts) fun x hx => h x (by simp [hx])
    rw [Nat.succ_mul]
    omega
theorem dLow_mono (ts : List Tk) {v w : Nat} (h : v ≤ w) : dLow ts v ≤ dLow ts w := sum_le fun t _ => dmd_mono t false h
theorem dSwi_mono (ts : List Tk) (l : Nat) {v w : Nat} (h : v ≤ w) : dSwi ts l v ≤ dSwi ts l w := sum_le fun t _ => by
  unfold dmS; split
  · exact dmd_mono t true h
  · exact Nat.le_refl _
theorem dLow_bound {ts : List Tk} (h : setB ts = true) (w : Nat) : dLow ts w ≤ 100 * (w + 20) := by
  have h1 := tsum_bound (f := fun t => dmd t w false) fun t ht => dmd_bound (set_ok h ht) w false
  have h2 := setB_len h
  have h3 : ts.length * (20 * (w + 20)) ≤ 5 * (20 * (w + 20)) := Nat.mul_le_mul_right _ h2
  unfold dLow
  omega
theorem dmS_bound {t : Tk} (ht : t.ok = true) (l w : Nat) : dmS l w t ≤ 20 * (l + w + 20) := by
  unfold dmS; split
  · have := dmd_bound ht w true; omega
  · have := dmd_bound ht l false; omega
theorem dSwi_bound {ts : List Tk} (h : setB ts = true) (l w : Nat) : dSwi ts l w ≤ 100 * (l + w + 20) := by
  have h1 := tsum_bound (f := dmS l w) fun t ht => dmS_bound (set_ok h ht) l w
  have h2 := setB_len h
  have h3 : ts.length * (20 * (l + w + 20)) ≤ 5 * (20 * (l + w + 20)) := Nat.mul_le_mul_right _ h2
  unfold dSwi
  omega

/-- The longest response of a task that needs n, is due in d, and comes behind xs. -/
def respOf (xs : List Tk) (n d : Nat) : Option Nat := leastN (fun w => n + dLow xs w) n d
def swiOf (xs : List Tk) (l n d : Nat) : Option Nat := leastN (fun w => n + dSwi xs l w) n d
def rLow (ts : List Tk) (k : Nat) : Option Nat :=
  if setB ts then match ts[k]? with
    | some t => respOf (ts.take k) t.lo.toNat t.du.toNat
    | none => none
  else none
def rSwi (ts : List Tk) (k : Nat) : Option Nat :=
  match rLow ts k, ts[k]? with
  | some l, some t => if t.cr then swiOf (ts.take k) l t.hi.toNat t.du.toNat else none
  | _, _ => none
def rHigh (ts : List Tk) (k : Nat) : Option Nat :=
  match ts[k]? with
  | some t => if setB ts && t.cr then rLow (critL ts) (critL (ts.take k)).length else none
  | none => none
def bothAt (ts : List Tk) (k : Nat) : Bool :=
  match ts[k]? with
  | some t => if t.cr then (rSwi ts k).isSome else (rLow ts k).isSome
  | none => false
def hLow (ts : List Tk) : Bool := setB ts && (List.range ts.length).all fun k => (rLow ts k).isSome
def hBoth (ts : List Tk) : Bool := setB ts && (List.range ts.length).all (bothAt ts)
def fBad (ts : List Tk) : Option Nat := if setB ts then (List.range ts.length).find? fun k => !bothAt ts k else none
def bLow (ts : List Tk) : Option Nat := if setB ts && !ts.isEmpty then leastN (dLow ts) 1 (ts.foldl (fun m t => Nat.lcm m t.ev.toNat) 1) else none

theorem resp_mono (xs : List Tk) (n : Nat) : ∀ v w, v ≤ w → n + dLow xs v ≤ n + dLow xs w := fun v w h => Nat.add_le_add_left (dLow_mono xs h) n
theorem swi_mono (xs : List Tk) (l n : Nat) : ∀ v w, v ≤ w → n + dSwi xs l v ≤ n + dSwi xs l w := fun v w h => Nat.add_le_add_left (dSwi_mono xs l h) n
theorem rLow_bad {ts : List Tk} (k : Nat) (h : setB ts = false) : rLow ts k = none := by unfold rLow; rw [h]; rfl
theorem rLow_past {ts : List Tk} {k : Nat} (h : ts[k]? = none) : rLow ts k = none := by unfold rLow; rw [h]; split <;> rfl
theorem rLow_at {ts : List Tk} {k : Nat} {t : Tk} (hs : setB ts = true) (h : ts[k]? = some t) : rLow ts k = respOf (ts.take k) t.lo.toNat t.du.toNat := by
  unfold rLow; rw [hs, h]; rfl
theorem rSwi_none {ts : List Tk} {k : Nat} (h : rLow ts k = none) : rSwi ts k = none := by unfold rSwi; rw [h]
theorem rSwi_not {ts : List Tk} {k : Nat} {t : Tk} (h : ts[k]? = some t) (hc : t.cr = false) : rSwi ts k = none := by
  unfold rSwi; rw [h]; cases rLow ts k
  · rfl
  · simp [hc]
theorem rSwi_at {ts : List Tk} {k l : Nat} {t : Tk} (hl : rLow ts k = some l) (h : ts[k]? = some t) (hc : t.cr = true) : rSwi ts k = swiOf (ts.take k) l t.hi.toNat t.du.toNat := by
  unfold rSwi; rw [hl, h]; simp [hc]
theorem rHigh_past {ts : List Tk} {k : Nat} (h : ts[k]? = none) : rHigh ts k = none := by unfold rHigh; rw [h]
theorem rHigh_bad {ts : List Tk} (k : Nat) (h : setB ts = false) : rHigh ts k = none := by unfold rHigh; rw [h]; split <;> rfl
theorem rHigh_not {ts : List Tk} {k : Nat} {t : Tk} (h : ts[k]? = some t) (hc : t.cr = false) : rHigh ts k = none := by unfold rHigh; rw [h]; simp [hc]
theorem rHigh_at {ts : List Tk} {k : Nat} {t : Tk} (hs : setB ts = true) (h : ts[k]? = some t) (hc : t.cr = true) : rHigh ts k = rLow (critL ts) (critL (ts.take k)).length := by
  unfold rHigh; rw [h]; simp [hc, hs]
theorem both_cr {ts : List Tk} {k : Nat} {t : Tk} (h : ts[k]? = some t) (hc : t.cr = true) : bothAt ts k = (rSwi ts k).isSome := by unfold bothAt; rw [h]; simp [hc]
theorem both_no {ts : List Tk} {k : Nat} {t : Tk} (h : ts[k]? = some t) (hc : t.cr = false) : bothAt ts k = (rLow ts k).isSome := by unfold bothAt; rw [h]; simp [hc]
/-- Both modes hold for a task: low needs do. -/
theorem both_low {ts : List Tk} {k : Nat} (h : bothAt ts k = true) : (rLow ts k).isSome = true := by
  unfold bothAt at h
  cases ht : ts[k]? with
  | none => rw [ht] at h; cases h
  | some t =>
    rw [ht] at h
    simp only at h
    cases hl : rLow ts k with
    | some l => rfl
    | none =>
      rw [rSwi_none hl, hl] at h
      split at h <;> cases h
theorem some_of {o : Option Nat} (h : o.isSome = true) : ∃ n, o = some n := Option.isSome_iff_exists.1 h

theorem all_range {p : Nat → Bool} {n : Nat} : (List.range n).all p = true ↔ ∀ k, k < n → p k = true := by
  rw [List.all_eq_true]
  exact ⟨fun h k hk => h k (List.mem_range.2 hk), fun h k hk => h k (List.mem_range.1 hk)⟩
theorem fBad_some {ts : List Tk} {k : Nat} (hs : setB ts = true) (hk : k < ts.length) (hb : bothAt ts k = false) (ha : ∀ j, j < k → bothAt ts j = true) : fBad ts = some k := by
  unfold fBad
  rw [if_pos hs, find_range]
  exact ⟨hk, by rw [hb]; rfl, fun v hv => by rw [ha v hv]; rfl⟩
theorem fBad_none {ts : List Tk} (hs : setB ts = true) (ha : ∀ j, j < ts.length → bothAt ts j = true) : fBad ts = none := by
  unfold fBad
  rw [if_pos hs, List.find?_eq_none]
  intro k hk
  rw [ha k (List.mem_range.1 hk)]
  simp
theorem fBad_bad {ts : List Tk} (hs : setB ts = false) : fBad ts = none := by unfold fBad; rw [hs]; rfl
theorem hBoth_bad {ts : List Tk} (hs : setB ts = false) : hBoth ts = false := by unfold hBoth; rw [hs]; rfl
theorem hLow_bad {ts : List Tk} (hs : setB ts = false) : hLow ts = false := by unfold hLow; rw [hs]; rfl
theorem hBoth_iff {ts : List Tk} : hBoth ts = true ↔ setB ts = true ∧ ∀ k, k < ts.length → bothAt ts k = true := by
  unfold hBoth; rw [Bool.and_eq_true, all_range]
theorem hLow_iff {ts : List Tk} : hLow ts = true ↔ setB ts = true ∧ ∀ k, k < ts.length → (rLow ts k).isSome = true := by
  unfold hLow; rw [Bool.and_eq_true, all_range]
theorem hBoth_no {ts : List Tk} {k : Nat} (hk : k < ts.length) (hb : bothAt ts k = false) : hBoth ts = false := by
  cases h : hBoth ts
  · rfl
  · have := (hBoth_iff.1 h).2 k hk
    rw [hb] at this; cases this
theorem hLow_no {ts : List Tk} {k : Nat} (hk : k < ts.length) (hb : rLow ts k = none) : hLow ts = false := by
  cases h : hLow ts
  · rfl
  · have := (hLow_iff.1 h).2 k hk
    rw [hb] at this; cases this
theorem hBoth_fBad {ts : List Tk} (hs : setB ts = true) : hBoth ts = (fBad ts).isNone := by
  cases h : fBad ts with
  | none =>
    refine hBoth_iff.2 ⟨hs, fun k hk => ?_⟩
    unfold fBad at h
    rw [if_pos hs, List.find?_eq_none] at h
    have := h k (List.mem_range.2 hk)
    cases hb : bothAt ts k
    · rw [hb] at this; exact absurd rfl this
    · rfl
  | some k =>
    unfold fBad at h
    rw [if_pos hs, find_range] at h
    obtain ⟨h1, h2, _⟩ := h
    refine hBoth_no h1 ?_
    cases hb : bothAt ts k
    · rfl
    · rw [hb] at h2; cases h2
theorem fBad_at {ts : List Tk} {k : Nat} (h : fBad ts = some k) : setB ts = true ∧ k < ts.length ∧ bothAt ts k = false ∧ ∀ j, j < k → bothAt ts j = true := by
  unfold fBad at h
  cases hs : setB ts with
  | false => rw [hs] at h; cases h
  | true =>
    rw [if_pos hs, find_range] at h
    obtain ⟨h1, h2, h3⟩ := h
    refine ⟨rfl, h1, ?_, fun j hj => ?_⟩
    · cases hb : bothAt ts k
      · rfl
      · rw [hb] at h2; cases h2
    · have := h3 j hj
      cases hb : bothAt ts j
      · rw [hb] at this; cases this
      · rfl
end

end Go.Proofs.Ytflilandcjnpjaa
