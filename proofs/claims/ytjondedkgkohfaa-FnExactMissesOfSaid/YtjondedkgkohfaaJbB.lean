/- What the laws of jobs say, of plain data: jobs that are put, parts of jobs, needs. No program in this text. -/
import Derived.Test.YtjondedkgkohfaaJbA
namespace Go.Proofs.Ytjondedkgkohfaa
open Go.RowKit
set_option linter.unusedVariables false

theorem bef_asym {a b : Jb} (h : befB a b = true) : befB b a = false := by
  cases hh : befB b a
  · rfl
  · rw [befB_iff] at *; omega
theorem bef_irr (a : Jb) : befB a a = false := by
  cases hh : befB a a
  · rfl
  · rw [befB_iff] at hh; omega
theorem jobs_parts {ts : List Tk} {js : List Jb} : jobsB ts js = true ↔ setB ts = true ∧ js.length ≤ 60 ∧ (js.all (jobB ts) = true ∧ pairB ts js = true) := by unfold jobsB; simp
theorem jobs_set {ts : List Tk} {js : List Jb} (h : jobsB ts js = true) : setB ts = true := (jobs_parts.1 h).1
theorem jobs_len {ts : List Tk} {js : List Jb} (h : jobsB ts js = true) : js.length ≤ 60 := (jobs_parts.1 h).2.1
theorem jobs_job {ts : List Tk} {js : List Jb} (h : jobsB ts js = true) {j : Jb} (hj : j ∈ js) : jobB ts j = true := List.all_eq_true.1 (jobs_parts.1 h).2.2.1 j hj
theorem jobs_pre {ts : List Tk} {js : List Jb} (k : Nat) (h : jobsB ts js = true) : jobsB ts (js.take k) = true :=
  jobs_parts.2 ⟨jobs_set h, by have := jobs_len h; rw [List.length_take]; omega, jobs_take k (jobs_parts.1 h).2.2⟩
theorem jobs_sub {ts : List Tk} {js ks : List Jb} (hs : ks.Sublist js) (h : jobsB ts js = true) : jobsB ts ks = true := by
  obtain ⟨h1, h2, h3, h4⟩ := jobs_parts.1 h
  refine jobs_parts.2 ⟨h1, Nat.le_trans hs.length_le h2, ?_, pairB_iff.2 ((pairB_iff.1 h4).sublist hs)⟩
  rw [List.all_eq_true] at *
  exact fun x hx => h3 x (hs.subset hx)
/-- Two of valid jobs: the later one is not before, and far enough behind if it is of the same task. -/
theorem jobs_two {ts : List Tk} {js : List Jb} (h : jobsB ts js = true) {i k : Nat} {a b : Jb} (ha : js[i]? = some a) (hb : js[k]? = some b) (hik : i < k) : farB ts a b = true := by
  have hp := pairB_iff.1 (jobs_parts.1 h).2.2.2
  obtain ⟨hi, rfl⟩ := List.getElem?_eq_some_iff.1 ha
  obtain ⟨hk, rfl⟩ := List.getElem?_eq_some_iff.1 hb
  exact List.pairwise_iff_getElem.1 hp i k hi hk hik
theorem jobs_wr {ts : List Tk} {j : Jb} (hs : setB ts = true) (h : jobB ts j = true) : wrB j = true := by
  obtain ⟨h1, h2, h3, h4, h5, h6⟩ := jobB_iff.1 h
  obtain ⟨t, _, e, ht, hok⟩ := ev_of hs h1 h2
  have h5' := setB_len hs
  rw [e] at h6
  unfold Tk.ok validB at hok
  simp at hok
  exact wrB_iff.2 ⟨h1, by omega, h3, h4, h5, by omega⟩
theorem jobs_wrs {ts : List Tk} {js : List Jb} (h : jobsB ts js = true) : wrsB js = true := by
  unfold wrsB
  simp only [Bool.and_eq_true, decide_eq_true_iff, List.all_eq_true]
  exact ⟨jobs_len h, fun j hj => jobs_wr (jobs_set h) (jobs_job h hj)⟩

/-- Where a job is put, counted while one looks from the end. -/
theorem putAt_spec {j : Jb} {js : List Jb} : putAt j js ≤ js.length ∧ (∀ a ∈ js.drop (putAt j js), befB j a = true) ∧ (∀ k, putAt j js = k + 1 → ∀ a, js[k]? = some a → befB j a = false) := by
  unfold putAt
  refine snoc_ind (P := fun js => (js.reverse.dropWhile (befB j)).length ≤ js.length ∧ (∀ a ∈ js.drop (js.reverse.dropWhile (befB j)).length, befB j a = true) ∧ (∀ k, (js.reverse.dropWhile (befB j)).length = k + 1 → ∀ a, js[k]? = some a → befB j a = false)) (by simp) (fun l a ih => ?_) js
  rw [List.reverse_append, List.reverse_singleton, List.singleton_append, List.dropWhile_cons]
  obtain ⟨h1, h2, h3⟩ := ih
  cases hb : befB j a
  · simp only [Bool.false_eq_true, if_false, List.length_cons, List.length_reverse, List.length_append]
    refine ⟨Nat.le_refl _, fun x hx => ?_, fun k hk x hx => ?_⟩
    · rw [List.drop_of_length_le (by simp)] at hx; simp at hx
    · have : k = l.length := by omega
      subst this
      simp at hx
      rw [← hx]; exact hb
  · simp only [if_true, List.length_append, List.length_singleton]
    refine ⟨by omega, fun x hx => ?_, fun k hk x hx => ?_⟩
    · rw [List.drop_append_of_le_length h1] at hx
      rcases List.mem_append.1 hx with h | h
      · exact h2 x h
      · rw [List.mem_singleton.1 h]; exact hb
    · rw [List.getElem?_append_left (by omega)] at hx
      exact h3 k hk x hx
theorem putAt_is {j : Jb} {js : List Jb} {k : Nat} (hk : k ≤ js.length) (h1 : ∀ a ∈ js.drop k, befB j a = true) (h2 : ∀ i, k = i + 1 → ∀ a, js[i]? = some a → befB j a = false) : putAt j js = k := by
  obtain ⟨p1, p2, p3⟩ := putAt_spec (j := j) (js := js)
  rcases Nat.lt_trichotomy (putAt j js) k with h | h | h
  · obtain ⟨i, rfl⟩ : ∃ i, k = i + 1 := ⟨k - 1, by omega⟩
    have hi : i < js.length := by omega
    have e := h2 i rfl js[i] (List.getElem?_eq_getElem hi)
    have : js[i] ∈ js.drop (putAt j js) := List.mem_iff_getElem?.2 ⟨i - putAt j js, by rw [List.getElem?_drop, show putAt j js + (i - putAt j js) = i by omega]; exact List.getElem?_eq_getElem hi⟩
    rw [p2 _ this] at e; cases e
  · exact h
  · obtain ⟨i, hi⟩ : ∃ i, putAt j js = i + 1 := ⟨putAt j js - 1, by omega⟩
    have hil : i < js.length := by omega
    have e := p3 i hi js[i] (List.getElem?_eq_getElem hil)
    have : js[i] ∈ js.drop k := List.mem_iff_getElem?.2 ⟨i - k, by rw [List.getElem?_drop, show k + (i - k) = i by omega]; exact List.getElem?_eq_getElem hil⟩
    rw [h1 _ this] at e; cases e
theorem putL_len (j : Jb) (js : List Jb) : (putL j js).length = js.length + 1 := by
  have := (putAt_spec (j := j) (js := js)).1
  unfold putL
  simp
  omega
theorem putL_mem (j : Jb) (js : List Jb) : j ∈ putL j js := by unfold putL; simp
/-- What is put among valid jobs and leaves them valid is there once, and the rest is what was there. -/
theorem put_once {ts : List Tk} {js : List Jb} {j : Jb} (h : jobsB ts (putL j js) = true) : (∀ a ∈ js.take (putAt j js), ¬ a = j) ∧ (∀ a ∈ js.drop (putAt j js), ¬ a = j) := by
  have hp := pairB_iff.1 (jobs_parts.1 h).2.2.2
  unfold putL at hp
  rw [List.pairwise_append] at hp
  obtain ⟨_, h2, h3⟩ := hp
  rw [List.pairwise_cons] at h2
  have irr : ¬ farB ts j j = true := fun e => by
    have := (farB_iff.1 e).1; omega
  exact ⟨fun a ha e => irr (by have := h3 a ha j (by simp); rwa [e] at this), fun a ha e => irr (by have := h2.1 a ha; rwa [e] at this)⟩
/-- A job is not put twice. -/
theorem put_twice {ts : List Tk} {js : List Jb} {j : Jb} (h : j ∈ js) : jobsB ts (putL j js) = false := by
  cases hh : jobsB ts (putL j js)
  · rfl
  · obtain ⟨h1, h2⟩ := put_once hh
    rw [← List.take_append_drop (putAt j js) js] at h
    rcases List.mem_append.1 h with h | h
    · exact absurd rfl (h1 j h)
    · exact absurd rfl (h2 j h)
/-- Valid jobs are their first ones with the last one put among them. -/
theorem put_last {ts : List Tk} {js : List Jb} {j : Jb} (h : jobsB ts (js ++ [j]) = true) : putL j js = js ++ [j] := by
  have hp := (pair_snoc.1 (jobs_parts.1 h).2.2.2).2
  have e : putAt j js = js.length := putAt_is (Nat.le_refl _) (fun a ha => by rw [List.drop_length] at ha; simp at ha) (fun i hi a ha => by
    have hf := hp a (List.mem_of_getElem? ha)
    unfold farB at hf
    rw [Bool.and_eq_true] at hf
    exact bef_asym hf.1)
  unfold putL
  rw [e, List.take_length, List.drop_length]
/-- Two jobs that change places are not valid. -/
theorem turn_bad {ts : List Tk} {a b : Jb} {r : List Jb} (h : jobsB ts (a :: b :: r) = true) : jobsB ts (b :: a :: r) = false := by
  cases hh : jobsB ts (b :: a :: r)
  · rfl
  · have h1 := jobs_two h (i := 0) (k := 1) rfl rfl (by omega)
    have h2 := jobs_two hh (i := 0) (k := 1) rfl rfl (by omega)
    have := (farB_iff.1 h1).1
    have := (farB_iff.1 h2).1
    omega

theorem sumJ_app (z : Int) (xs ys : List Jb) : sumJ z (xs ++ ys) = sumJ z xs + sumJ z ys := by
  have gen : ∀ (l : List Jb) (a : Int), l.foldl (fun a j => if j.ta = z then a + j.ne else a) a = a + l.foldl (fun a j => if j.ta = z then a + j.ne else a) 0 := by
    intro l
    induction l with
    | nil => intro a; simp
    | cons j l ih => intro a; simp only [List.foldl_cons]; rw [ih, ih (if j.ta = z then 0 + j.ne else 0)]; split <;> omega
  unfold sumJ
  rw [List.foldl_append, gen]
theorem sumJ_one (z : Int) (j : Jb) : sumJ z [j] = if j.ta = z then j.ne else 0 := by unfold sumJ; simp
theorem sumJ_cons (z : Int) (j : Jb) (js : List Jb) : sumJ z (j :: js) = (if j.ta = z then j.ne else 0) + sumJ z js := by
  rw [show j :: js = [j] ++ js from rfl, sumJ_app, sumJ_one]
theorem sumJ_put (z : Int) (j : Jb) (js : List Jb) : sumJ z (putL j js) = sumJ z js + if j.ta = z then j.ne else 0 := by
  unfold putL
  rw [sumJ_app, sumJ_cons]
  have := sumJ_app z (js.take (putAt j js)) (js.drop (putAt j js))
  rw [List.take_append_drop] at this
  omega
theorem sumJ_none {z : Int} {js : List Jb} (h : ∀ j ∈ js, ¬ j.ta = z) : sumJ z js = 0 := by
  induction js with
  | nil => rfl
  | cons j js ih => rw [sumJ_cons, if_neg (h j (by simp)), ih fun k hk => h k (by simp [hk])]; rfl
def allJ (js : List Jb) : Int := js.foldl (fun a j => a + j.ne) 0
theorem allJ_snoc (js : List Jb) (j : Jb) : allJ (js ++ [j]) = allJ js + j.ne := by unfold allJ; rw [List.foldl_append]; rfl
/-- Needs of all tasks are those of all jobs. -/
theorem needs_all {js : List Jb} (h : ∀ j ∈ js, wrB j = true) : sumJ 0 js + sumJ 1 js + sumJ 2 js + sumJ 3 js + sumJ 4 js = allJ js ∧ ∀ z, 0 ≤ sumJ z js ∧ sumJ z js ≤ allJ js := by
  revert h
  refine snoc_ind (P := fun js => (∀ j ∈ js, wrB j = true) → sumJ 0 js + sumJ 1 js + sumJ 2 js + sumJ 3 js + sumJ 4 js = allJ js ∧ ∀ z, 0 ≤ sumJ z js ∧ sumJ z js ≤ allJ js) (fun _ => ⟨rfl, fun z => ⟨Int.le_refl _, Int.le_refl _⟩⟩) (fun l j ih h => ?_) js
  obtain ⟨h1, h2⟩ := ih fun k hk => h k (by simp [hk])
  obtain ⟨w1, w2, w3, w4, w5, w6⟩ := wrB_iff.1 (h j (by simp))
  constructor
  · simp only [sumJ_app, sumJ_one, allJ_snoc]
    rcases (by omega : j.ta = 0 ∨ j.ta = 1 ∨ j.ta = 2 ∨ j.ta = 3 ∨ j.ta = 4) with e | e | e | e | e <;> simp [e] <;> omega
  · intro z
    rw [sumJ_app, sumJ_one, allJ_snoc]
    have := h2 z
    split <;> omega
/-- Jobs whose need is more than their low one are of critical tasks. -/
theorem high_crit {ts : List Tk} {j : Jb} (hs : setB ts = true) (h : jobB ts j = true) (hn : (tkOf ts j.ta).lo < j.ne) : (tkOf ts j.ta).cr = true := by
  obtain ⟨h1, h2, h3, h4, h5, h6⟩ := jobB_iff.1 h
  obtain ⟨t, _, e, ht, hok⟩ := ev_of hs h1 h2
  rw [e] at hn h6 ⊢
  cases hc : t.cr
  · unfold Tk.ok validB at hok
    simp [hc] at hok
    omega
  · rfl
theorem wrsB_iff {js : List Jb} : wrsB js = true ↔ js.length ≤ 60 ∧ ∀ j ∈ js, wrB j = true := by unfold wrsB; simp
theorem need_parts {js : List Jb} (k : Nat) (z : Int) (h : wrsB js = true) : needJ (js.take k) z + needJ (js.drop k) z = needJ js z := by
  obtain ⟨h1, h2⟩ := wrsB_iff.1 h
  have ht : wrsB (js.take k) = true := wrsB_iff.2 ⟨by rw [List.length_take]; omega, fun j hj => h2 j (List.mem_of_mem_take hj)⟩
  have hd : wrsB (js.drop k) = true := wrsB_iff.2 ⟨by rw [List.length_drop]; omega, fun j hj => h2 j (List.mem_of_mem_drop hj)⟩
  unfold needJ
  rw [ht, hd, h, if_pos rfl, if_pos rfl, if_pos rfl, ← sumJ_app, List.take_append_drop]

end Go.Proofs.Ytjondedkgkohfaa
