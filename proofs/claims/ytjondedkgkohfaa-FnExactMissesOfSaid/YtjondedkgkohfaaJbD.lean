/- Jobs in order and at a distance, as plain data. No program in this text. -/
import Derived.Test.YtjondedkgkohfaaJbB
namespace Go.Proofs.Ytjondedkgkohfaa
open Go.RowKit
set_option linter.unusedVariables false

def ordJ : List Jb → Bool
  | [] => true
  | j :: js => js.all (befB j) && ordJ js
theorem ordJ_iff : ∀ {js : List Jb}, ordJ js = true ↔ js.Pairwise (fun a b => befB a b = true)
  | [] => by simp [ordJ]
  | j :: js => by rw [ordJ, Bool.and_eq_true, List.all_eq_true, ordJ_iff, List.pairwise_cons]
theorem pair_ord {ts : List Tk} {js : List Jb} (h : pairB ts js = true) : ordJ js = true := by
  rw [ordJ_iff]
  refine (pairB_iff.1 h).imp fun {a b} hab => ?_
  unfold farB at hab
  rw [Bool.and_eq_true] at hab
  exact hab.1
theorem ordJ_take {js : List Jb} (k : Nat) (h : ordJ js = true) : ordJ (js.take k) = true :=
  ordJ_iff.2 ((ordJ_iff.1 h).sublist (List.take_sublist _ _))
def lastBef (js : List Jb) (j : Jb) : Bool := (js.getLast?.map fun a => befB a j).getD true
theorem lastBef_nil (j : Jb) : lastBef [] j = true := rfl
theorem lastBef_snoc (js : List Jb) (a j : Jb) : lastBef (js ++ [a]) j = befB a j := by unfold lastBef; simp
theorem lastBef_at {js : List Jb} {k : Nat} {a j : Jb} (h : js[k]? = some a) : lastBef (js.take (k + 1)) j = befB a j := by
  rw [List.take_add_one, h]; exact lastBef_snoc _ _ _
theorem ordJ_snoc {js : List Jb} {j : Jb} (h : ordJ js = true) : ordJ (js ++ [j]) = true ↔ lastBef js j = true := by
  rw [ordJ_iff, List.pairwise_append]
  constructor
  · rintro ⟨_, _, h3⟩
    rcases js.eq_nil_or_concat with rfl | ⟨l, a, rfl⟩
    · rfl
    · rw [List.concat_eq_append, lastBef_snoc]
      exact h3 a (by simp) j (by simp)
  · intro hl
    refine ⟨ordJ_iff.1 h, by simp, fun a ha b hb => ?_⟩
    rw [List.mem_singleton.1 hb]
    rcases js.eq_nil_or_concat with rfl | ⟨l, z, rfl⟩
    · simp at ha
    · rw [List.concat_eq_append] at *
      rw [lastBef_snoc] at hl
      rcases List.mem_append.1 ha with ha | ha
      · exact bef_trans ((List.pairwise_append.1 (ordJ_iff.1 h)).2.2 a ha z (by simp)) hl
      · rw [List.mem_singleton.1 ha]; exact hl
/-- What one looks at while one goes through jobs: each is one, and behind the one before. -/
def seqB (ts : List Tk) (js : List Jb) : Bool := js.all (jobB ts) && ordJ js
theorem seq_parts {ts : List Tk} {js : List Jb} : seqB ts js = true ↔ js.all (jobB ts) = true ∧ ordJ js = true := by unfold seqB; rw [Bool.and_eq_true]
theorem seq_take {ts : List Tk} {js : List Jb} (k : Nat) (h : seqB ts js = true) : seqB ts (js.take k) = true := by
  rw [seq_parts] at *
  refine ⟨?_, ordJ_take k h.2⟩
  rw [List.all_eq_true] at *
  exact fun x hx => h.1 x (List.mem_of_mem_take hx)
theorem seq_step {ts : List Tk} {js : List Jb} {k : Nat} {j : Jb} (hj : js[k]? = some j) (h : seqB ts (js.take k) = true) : seqB ts (js.take (k + 1)) = (jobB ts j && lastBef (js.take k) j) := by
  rw [seq_parts] at h
  rw [List.take_add_one, hj, Option.toList_some, Bool.eq_iff_iff, seq_parts, Bool.and_eq_true, ordJ_snoc h.2, List.all_append, h.1]
  simp
theorem seq_bad {ts : List Tk} {js : List Jb} {k : Nat} {j : Jb} (hj : js[k]? = some j) (h : seqB ts (js.take k) = true) (hn : (jobB ts j && lastBef (js.take k) j) = false) : jobsB ts js = false := by
  cases hx : jobsB ts js
  · rfl
  · obtain ⟨h1, h2, h3, h4⟩ := jobs_parts.1 hx
    have := seq_take (k + 1) (seq_parts.2 ⟨h3, pair_ord h4⟩)
    rw [seq_step hj h, hn] at this
    cases this
/-- The first tick at which the next job of a task may come. -/
def earlAt (ts : List Tk) (js : List Jb) (k : Int) : Int := js.foldl (fun a j => if j.ta = k then j.tm + (tkOf ts k).ev else a) 0
theorem earl_snoc (ts : List Tk) (js : List Jb) (j : Jb) (k : Int) : earlAt ts (js ++ [j]) k = if j.ta = k then j.tm + (tkOf ts k).ev else earlAt ts js k := by unfold earlAt; rw [List.foldl_append]; rfl
theorem earl_last (ts : List Tk) (js : List Jb) (k : Int) : (earlAt ts js k = 0 ∧ lastAt js k = -20) ∨ (earlAt ts js k = lastAt js k + (tkOf ts k).ev ∧ ∃ j ∈ js, lastAt js k = j.tm) := by
  refine snoc_ind (P := fun js => (earlAt ts js k = 0 ∧ lastAt js k = -20) ∨ (earlAt ts js k = lastAt js k + (tkOf ts k).ev ∧ ∃ j ∈ js, lastAt js k = j.tm)) (.inl ⟨rfl, rfl⟩) (fun js j ih => ?_) js
  rw [earl_snoc, lastAt_snoc]
  by_cases h : j.ta = k
  · rw [if_pos h, if_pos h]; exact .inr ⟨rfl, j, by simp, rfl⟩
  · rw [if_neg h, if_neg h]
    rcases ih with ih | ⟨h1, a, ha, h2⟩
    · exact .inl ih
    · exact .inr ⟨h1, a, by simp [ha], h2⟩
theorem earl_ok {ts : List Tk} (hs : setB ts = true) {js : List Jb} {j : Jb} (hj : jobB ts j = true) : ((tkOf ts j.ta).ev ≤ j.tm - lastAt js j.ta) ↔ earlAt ts js j.ta ≤ j.tm := by
  obtain ⟨b1, b2, b3, _⟩ := jobB_iff.1 hj
  obtain ⟨t, _, e, _, hok⟩ := ev_of hs b1 b2
  have hev : 1 ≤ t.ev ∧ t.ev ≤ 20 := by unfold Tk.ok validB at hok; simp at hok; omega
  rcases earl_last ts js j.ta with ⟨h1, h2⟩ | ⟨h1, _⟩ <;> rw [e] at * <;> omega
/-- The numbers of the array stay small. -/
theorem earl_range {ts : List Tk} (hs : setB ts = true) {js : List Jb} (h : js.all (jobB ts) = true) {k : Int} (h0 : 0 ≤ k) (h1 : k < (ts.length : Int)) : 0 ≤ earlAt ts js k ∧ earlAt ts js k ≤ 220 := by
  obtain ⟨t, _, e, _, hok⟩ := ev_of hs h0 h1
  have hev : 1 ≤ t.ev ∧ t.ev ≤ 20 := by unfold Tk.ok validB at hok; simp at hok; omega
  rcases earl_last ts js k with ⟨h2, _⟩ | ⟨h2, j, hj, h3⟩
  · omega
  · have := jobB_iff.1 (List.all_eq_true.1 h j hj)
    rw [e] at h2
    omega
theorem dist_step {ts : List Tk} (hs : setB ts = true) {js : List Jb} {k : Nat} {j : Jb} (hq : seqB ts js = true) (hj : js[k]? = some j) (hp : pairB ts (js.take k) = true) : pairB ts (js.take (k + 1)) = decide (earlAt ts (js.take k) j.ta ≤ j.tm) := by
  obtain ⟨ha, ho⟩ := seq_parts.1 hq
  have hjb : jobB ts j = true := List.all_eq_true.1 ha j (List.mem_of_getElem? hj)
  have hat := (seq_parts.1 (seq_take k hq)).1
  have hbe : lastBef (js.take k) j = true := by
    have := seq_take (k + 1) hq
    rw [seq_step hj (seq_take k hq), Bool.and_eq_true] at this
    exact this.2
  have hstep := jobs_step (j := j) hs ⟨hat, hp⟩
  rw [List.take_add_one, hj, Option.toList_some, Bool.eq_iff_iff, decide_eq_true_iff, ← earl_ok hs hjb]
  constructor
  · intro h
    have h2 := hstep.1 ⟨by rw [List.all_append, hat]; simpa using hjb, h⟩
    unfold nextB at h2
    rw [Bool.and_eq_true, Bool.and_eq_true, decide_eq_true_iff] at h2
    exact h2.2.2
  · intro h
    refine (hstep.2 ?_).2
    unfold nextB
    rw [hjb, Bool.true_and, Bool.and_eq_true, decide_eq_true_iff]
    exact ⟨hbe, h⟩
theorem dist_bad {ts : List Tk} {js : List Jb} (k : Nat) (h : pairB ts (js.take k) = false) : pairB ts js = false := by
  cases hx : pairB ts js
  · rfl
  · rw [pairB_iff.2 ((pairB_iff.1 hx).sublist (List.take_sublist k js))] at h
    cases h
theorem seq_jobs {ts : List Tk} {js : List Jb} (hs : setB ts = true) (hl : js.length ≤ 60) (h : seqB ts js = true) : jobsB ts js = pairB ts js := by
  unfold jobsB
  rw [hs, decide_eq_true hl, (seq_parts.1 h).1]
  simp
/-- The array of the first ticks. -/
def earlV (ts : List Tk) (js : List Jb) : List Value := (List.range 5).map fun (i : Nat) => Value.int .i64 (earlAt ts js (i : Int))
theorem earl_get {ts : List Tk} {js : List Jb} {x : Nat} (h : x < 5) : ((earlV ts js).toArray)[x]? = some (.int .i64 (earlAt ts js (x : Int))) := by simp [earlV, h]
theorem earl_set {ts : List Tk} {js : List Jb} {x : Nat} {j : Jb} {z : Int} (h : x < 5) (hj : j.ta = (x : Int)) (hz : j.tm + (tkOf ts (x : Int)).ev = z) : (earlV ts js).toArray.setIfInBounds x (.int .i64 z) = (earlV ts (js ++ [j])).toArray := by
  subst hz
  unfold earlV
  simp only [List.setIfInBounds_toArray]
  congr 1
  refine List.ext_getElem? fun i => ?_
  rw [List.getElem?_set]
  by_cases hx : x = i
  · subst hx
    simp [h, earl_snoc, hj]
  · have : ¬ j.ta = (i : Int) := by omega
    by_cases hi : i < 5
    · simp [hi, hx, earl_snoc, this]
    · simp [hi, hx]

end Go.Proofs.Ytjondedkgkohfaa
