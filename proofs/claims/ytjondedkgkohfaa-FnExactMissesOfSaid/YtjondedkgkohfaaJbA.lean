/- Jobs as plain data: when they are valid, what they need, where one is put. No program in this text. -/
import Derived.Test.YtjondedkgkohfaaOwn
namespace Go.Proofs.Ytjondedkgkohfaa
open Go.RowKit
set_option linter.unusedVariables false

/-- A job as plain data. -/
structure Jb where
  ta : Int
  tm : Int
  ne : Int
theorem Jb.eq_of {a b : Jb} (h1 : a.ta = b.ta) (h2 : a.tm = b.tm) (h3 : a.ne = b.ne) : a = b := by
  cases a; cases b; simp_all
def tk0 : Tk := ⟨0, 0, 0, 0, false⟩
def tkOf (ts : List Tk) (z : Int) : Tk := ts.getD z.toNat tk0
def jobB (ts : List Tk) (j : Jb) : Bool := decide (0 ≤ j.ta) && (decide (j.ta < (ts.length : Int)) && (decide (0 ≤ j.tm) && (decide (j.tm ≤ 200) && (decide (1 ≤ j.ne) && decide (j.ne ≤ (tkOf ts j.ta).hi)))))
def befB (a b : Jb) : Bool := decide (a.tm < b.tm) || (decide (a.tm = b.tm) && decide (a.ta < b.ta))
def farB (ts : List Tk) (a b : Jb) : Bool := befB a b && (!decide (a.ta = b.ta) || decide ((tkOf ts b.ta).ev ≤ b.tm - a.tm))
def pairB (ts : List Tk) : List Jb → Bool
  | [] => true
  | j :: js => js.all (farB ts j) && pairB ts js
def jobsB (ts : List Tk) (js : List Jb) : Bool := setB ts && (decide (js.length ≤ 60) && (js.all (jobB ts) && pairB ts js))
/-- Whether the numbers of a job can be written. -/
def wrB (j : Jb) : Bool := decide (0 ≤ j.ta) && (decide (j.ta < 5) && (decide (0 ≤ j.tm) && (decide (j.tm ≤ 200) && (decide (1 ≤ j.ne) && decide (j.ne ≤ 20)))))
def wrsB (js : List Jb) : Bool := decide (js.length ≤ 60) && js.all wrB
/-- When the last job of a task came. -/
def lastAt (js : List Jb) (k : Int) : Int := js.foldl (fun a j => if j.ta = k then j.tm else a) (-20)
def lastL (n : Nat) (js : List Jb) : List Int := (List.range n).map fun (k : Nat) => lastAt js (k : Int)
def dueJ (ts : List Tk) (j : Jb) : Bool × Int := if setB ts && jobB ts j then (true, j.tm + (tkOf ts j.ta).du) else (false, 0)
def sumJ (z : Int) (js : List Jb) : Int := js.foldl (fun a j => if j.ta = z then a + j.ne else a) 0
def needJ (js : List Jb) (z : Int) : Int := if wrsB js then sumJ z js else 0
/-- The place at which a job is put: behind the last one that it does not come before. -/
def putAt (j : Jb) (js : List Jb) : Nat := (js.reverse.dropWhile (befB j)).length
def putL (j : Jb) (js : List Jb) : List Jb := js.take (putAt j js) ++ j :: js.drop (putAt j js)
def putB (ts : List Tk) (js : List Jb) (j : Jb) : Bool := jobsB ts js && jobsB ts (putL j js)
def putV (ts : List Tk) (js : List Jb) (j : Jb) : List Jb := if putB ts js j then putL j js else []

theorem snoc_ind {α : Type} {P : List α → Prop} (h0 : P []) (h1 : ∀ l a, P l → P (l ++ [a])) (l : List α) : P l := by
  have : ∀ m : List α, P m.reverse := fun m => by
    induction m with
    | nil => exact h0
    | cons a m ih => rw [List.reverse_cons]; exact h1 _ _ ih
  have e := this l.reverse
  rwa [List.reverse_reverse] at e
theorem jobB_iff {ts : List Tk} {j : Jb} : jobB ts j = true ↔ 0 ≤ j.ta ∧ j.ta < (ts.length : Int) ∧ 0 ≤ j.tm ∧ j.tm ≤ 200 ∧ 1 ≤ j.ne ∧ j.ne ≤ (tkOf ts j.ta).hi := by unfold jobB; simp
theorem befB_iff {a b : Jb} : befB a b = true ↔ a.tm < b.tm ∨ (a.tm = b.tm ∧ a.ta < b.ta) := by unfold befB; simp
theorem farB_iff {ts : List Tk} {a b : Jb} : farB ts a b = true ↔ (a.tm < b.tm ∨ (a.tm = b.tm ∧ a.ta < b.ta)) ∧ (a.ta = b.ta → (tkOf ts b.ta).ev ≤ b.tm - a.tm) := by
  unfold farB
  rw [Bool.and_eq_true, befB_iff]
  by_cases h : a.ta = b.ta <;> simp [h]
theorem wrB_iff {j : Jb} : wrB j = true ↔ 0 ≤ j.ta ∧ j.ta < 5 ∧ 0 ≤ j.tm ∧ j.tm ≤ 200 ∧ 1 ≤ j.ne ∧ j.ne ≤ 20 := by unfold wrB; simp
theorem bef_trans {a b c : Jb} (h1 : befB a b = true) (h2 : befB b c = true) : befB a c = true := by
  rw [befB_iff] at *; omega
theorem pairB_iff {ts : List Tk} : ∀ {js : List Jb}, pairB ts js = true ↔ js.Pairwise (fun a b => farB ts a b = true)
  | [] => by simp [pairB]
  | j :: js => by rw [pairB, Bool.and_eq_true, List.all_eq_true, pairB_iff, List.pairwise_cons]
theorem pair_snoc {ts : List Tk} {js : List Jb} {j : Jb} : pairB ts (js ++ [j]) = true ↔ pairB ts js = true ∧ ∀ a ∈ js, farB ts a j = true := by
  rw [pairB_iff, pairB_iff, List.pairwise_append]
  simp
theorem lastAt_snoc (js : List Jb) (j : Jb) (k : Int) : lastAt (js ++ [j]) k = if j.ta = k then j.tm else lastAt js k := by unfold lastAt; rw [List.foldl_append]; rfl
theorem lastAt_mem : ∀ (js : List Jb) (k : Int), (∃ j ∈ js, j.ta = k ∧ lastAt js k = j.tm) ∨ ((∀ j ∈ js, ¬ j.ta = k) ∧ lastAt js k = -20) := by
  intro js k
  refine snoc_ind (P := fun js => (∃ j ∈ js, j.ta = k ∧ lastAt js k = j.tm) ∨ ((∀ j ∈ js, ¬ j.ta = k) ∧ lastAt js k = -20)) (.inr ⟨by simp, rfl⟩) (fun js j ih => ?_) js
  · skip
    rw [lastAt_snoc]
    by_cases h : j.ta = k
    · exact .inl ⟨j, by simp, h, by rw [if_pos h]⟩
    · rw [if_neg h]
      rcases ih with ⟨a, ha, h1, h2⟩ | ⟨h1, h2⟩
      · exact .inl ⟨a, by simp [ha], h1, h2⟩
      · exact .inr ⟨fun a ha => by
          rcases List.mem_append.1 ha with ha | ha
          · exact h1 a ha
          · rw [List.mem_singleton.1 ha]; exact h, h2⟩
/-- In jobs that are in order the last of a task came latest. -/
theorem lastAt_ge {ts : List Tk} {js : List Jb} (hp : pairB ts js = true) {a : Jb} (ha : a ∈ js) : a.tm ≤ lastAt js a.ta := by
  revert ha hp
  refine snoc_ind (P := fun js => pairB ts js = true → a ∈ js → a.tm ≤ lastAt js a.ta) (fun _ ha => by simp at ha) (fun js j ih => ?_) js
  · intro hp ha
    obtain ⟨h1, h2⟩ := pair_snoc.1 hp
    rw [lastAt_snoc]
    rcases List.mem_append.1 ha with h | h
    · split
      · have := (farB_iff.1 (h2 a h)).1; omega
      · exact ih h1 h
    · rw [List.mem_singleton.1 h, if_pos rfl]; exact Int.le_refl _
theorem ev_of {ts : List Tk} (hs : setB ts = true) {z : Int} (h0 : 0 ≤ z) (h1 : z < (ts.length : Int)) : ∃ t, ts[z.toNat]? = some t ∧ tkOf ts z = t ∧ t ∈ ts ∧ t.ok = true := by
  have hk : z.toNat < ts.length := by omega
  refine ⟨ts[z.toNat], List.getElem?_eq_getElem hk, ?_, List.getElem_mem _, ?_⟩
  · unfold tkOf; simp [List.getD, List.getElem?_eq_getElem hk]
  · unfold setB at hs
    simp at hs
    exact hs.2 _ (List.getElem_mem _)

/-- Whether the next job fits behind valid ones, as one looks at it: it is a job, comes behind the one before, and far enough behind the last one of its task. -/
def nextB (ts : List Tk) (js : List Jb) (j : Jb) : Bool := jobB ts j && ((js.getLast?.map fun a => befB a j).getD true && decide ((tkOf ts j.ta).ev ≤ j.tm - lastAt js j.ta))
theorem next_iff {ts : List Tk} (hs : setB ts = true) {js : List Jb} {j : Jb} (hp : pairB ts js = true) : (jobB ts j = true ∧ ∀ a ∈ js, farB ts a j = true) ↔ nextB ts js j = true := by
  unfold nextB
  rw [Bool.and_eq_true, Bool.and_eq_true, decide_eq_true_iff]
  constructor
  · rintro ⟨hj, hall⟩
    refine ⟨hj, ?_, ?_⟩
    · rcases js.eq_nil_or_concat with rfl | ⟨l, a, rfl⟩
      · rfl
      · have := hall a (by simp)
        unfold farB at this
        rw [Bool.and_eq_true] at this
        simpa using this.1
    · obtain ⟨b1, b2, b3, _⟩ := jobB_iff.1 hj
      rcases lastAt_mem js j.ta with ⟨a, ha, e1, e2⟩ | ⟨_, e2⟩
      · rw [e2]; exact (farB_iff.1 (hall a ha)).2 e1
      · obtain ⟨t, _, e, _, hok⟩ := ev_of hs b1 b2
        rw [e2, e]
        unfold Tk.ok validB at hok
        simp at hok
        omega
  · rintro ⟨hj, h1, h2⟩
    refine ⟨hj, fun a ha => farB_iff.2 ⟨?_, fun e => ?_⟩⟩
    · rcases js.eq_nil_or_concat with rfl | ⟨l, b, rfl⟩
      · simp at ha
      · have hb : befB b j = true := by simpa using h1
        rcases List.mem_append.1 (by simpa using ha : a ∈ l ++ [b]) with h | h
        · have hp' := hp
          rw [List.concat_eq_append] at hp'
          have := (pair_snoc.1 hp').2 a h
          unfold farB at this
          rw [Bool.and_eq_true] at this
          exact befB_iff.1 (bef_trans this.1 hb)
        · rw [List.mem_singleton.1 h]; exact befB_iff.1 hb
    · have := lastAt_ge hp ha
      rw [e] at this
      omega
/-- Jobs up to a place: one more. -/
theorem jobs_step {ts : List Tk} (hs : setB ts = true) {js : List Jb} {j : Jb} (h : js.all (jobB ts) = true ∧ pairB ts js = true) : ((js ++ [j]).all (jobB ts) = true ∧ pairB ts (js ++ [j]) = true) ↔ nextB ts js j = true := by
  rw [← next_iff hs h.2, List.all_append, Bool.and_eq_true, pair_snoc]
  constructor
  · rintro ⟨⟨_, h2⟩, _, h3⟩
    exact ⟨by simpa using h2, h3⟩
  · rintro ⟨h1, h2⟩
    exact ⟨⟨h.1, by simpa using h1⟩, h.2, h2⟩
/-- What holds of all holds of the first ones. -/
theorem jobs_take {ts : List Tk} {js : List Jb} (k : Nat) (h : js.all (jobB ts) = true ∧ pairB ts js = true) : (js.take k).all (jobB ts) = true ∧ pairB ts (js.take k) = true := by
  refine ⟨?_, pairB_iff.2 ((pairB_iff.1 h.2).sublist (List.take_sublist _ _))⟩
  rw [List.all_eq_true] at *
  exact fun x hx => h.1 x (List.mem_of_mem_take hx)

end Go.Proofs.Ytjondedkgkohfaa
