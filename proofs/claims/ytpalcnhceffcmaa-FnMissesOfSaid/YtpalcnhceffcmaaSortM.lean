/- Facts of sorting by insertion: it keeps the tasks, it orders them, it is stable, and it leaves what is sorted. -/
import Derived.Test.YtpalcnhceffcmaaNI
import Derived.Test.YtpalcnhceffcmaaLawHyper
namespace Go.Proofs.Ytpalcnhceffcmaa
open Go.RowKit

theorem bef_spec (t u : Tk) : t.bef u = true ↔ t.du < u.du ∨ t.du = u.du ∧ t.ev < u.ev := by
  unfold Tk.bef beforeB
  split
  · rename_i h; simp [h]
  · rename_i h; simp [h]
theorem bef_no (t u : Tk) : t.bef u = false ↔ u.du < t.du ∨ u.du = t.du ∧ u.ev ≤ t.ev := by
  rw [← Bool.not_eq_true, bef_spec]
  omega
theorem tbef_asym {t u : Tk} (h : t.bef u = true) : u.bef t = false := by
  rw [bef_spec] at h; rw [bef_no]; omega
theorem tbef_trans {a u t : Tk} (h1 : u.bef a = false) (h2 : t.bef u = false) : t.bef a = false := by
  rw [bef_no] at *; omega

theorem posB_drop (t : Tk) (out : List Tk) : ∀ p j u, posB t out p ≤ j → j < p → out[j]? = some u → t.bef u = true
  | 0, j, u, _, h, _ => absurd h (Nat.not_lt_zero _)
  | p + 1, j, u, h1, h2, hu => by
    unfold posB at h1
    split at h1
    · rename_i u' hu'
      split at h1
      · rename_i hb
        rcases Nat.lt_or_ge j p with h | h
        · exact posB_drop t out p j u h1 h hu
        · have : j = p := by omega
          subst this
          rw [hu] at hu'
          injection hu' with e
          subst e
          exact hb
      · omega
    · omega
theorem posB_stop (t : Tk) (out : List Tk) : ∀ p q, posB t out p = q + 1 → p ≤ out.length → ∃ u, out[q]? = some u ∧ t.bef u = false
  | 0, q, h, _ => by cases h
  | p + 1, q, h, hp => by
    unfold posB at h
    split at h
    · rename_i u hu
      split at h
      · exact posB_stop t out p q h (by omega)
      · rename_i hb
        have : q = p := by omega
        subst this
        exact ⟨u, hu, by simpa using hb⟩
    · rename_i hn
      rw [List.getElem?_eq_none_iff] at hn
      omega

theorem insB_perm (t : Tk) (out : List Tk) : (insB t out).Perm (t :: out) := by
  unfold insB
  refine List.perm_middle.trans ?_
  rw [List.take_append_drop]
theorem foldl_perm (ts : List Tk) : ∀ out : List Tk, (ts.foldl (fun out t => insB t out) out).Perm (out ++ ts) := by
  induction ts with
  | nil => intro out; simp
  | cons t ts ih =>
    intro out
    rw [List.foldl_cons]
    refine (ih _).trans ?_
    refine ((insB_perm t out).append_right ts).trans ?_
    rw [List.cons_append]
    exact List.perm_middle.symm
theorem sortL_perm (ts : List Tk) : (sortL ts).Perm ts := by simpa [sortL] using foldl_perm ts []

/-- A list in which no task goes before an earlier one. -/
def Srt (l : List Tk) : Prop := l.Pairwise fun a b => b.bef a = false

theorem mem_drop_pos {t u : Tk} {out : List Tk} (h : u ∈ out.drop (posB t out out.length)) : t.bef u = true := by
  obtain ⟨j, hj⟩ := List.mem_iff_getElem?.1 h
  rw [List.getElem?_drop] at hj
  have hl := (List.getElem?_eq_some_iff.1 hj).1
  exact posB_drop t out out.length _ u (by omega) hl hj
theorem mem_take_pos {t a : Tk} {out : List Tk} (hs : Srt out) (h : a ∈ out.take (posB t out out.length)) : t.bef a = false := by
  rcases hq : posB t out out.length with _ | q
  · rw [hq] at h; simp at h
  · obtain ⟨u, hu, hb⟩ := posB_stop t out out.length q hq (Nat.le_refl _)
    rw [hq] at h
    obtain ⟨j, hj⟩ := List.mem_iff_getElem?.1 h
    have hjl := (List.getElem?_eq_some_iff.1 hj).1
    rw [List.length_take] at hjl
    rw [List.getElem?_take] at hj
    rw [if_pos (by omega)] at hj
    rcases Nat.lt_or_ge j q with h' | h'
    · have hql := (List.getElem?_eq_some_iff.1 hu).1
      have := List.pairwise_iff_getElem.1 hs j q (by omega) hql h'
      obtain ⟨_, e1⟩ := List.getElem?_eq_some_iff.1 hj
      obtain ⟨_, e2⟩ := List.getElem?_eq_some_iff.1 hu
      rw [e1, e2] at this
      exact tbef_trans this hb
    · have : j = q := by omega
      subst this
      rw [hu] at hj
      injection hj with e
      subst e
      exact hb
theorem insB_srt {t : Tk} {out : List Tk} (hs : Srt out) : Srt (insB t out) := by
  have hs' : Srt (out.take (posB t out out.length) ++ out.drop (posB t out out.length)) := by rw [List.take_append_drop]; exact hs
  unfold Srt at hs'
  rw [List.pairwise_append] at hs'
  unfold insB Srt
  rw [List.pairwise_append, List.pairwise_cons]
  refine ⟨hs'.1, ⟨fun u hu => tbef_asym (mem_drop_pos hu), hs'.2.1⟩, fun a ha b hb => ?_⟩
  rcases List.mem_cons.1 hb with rfl | hb
  · exact mem_take_pos hs ha
  · exact hs'.2.2 a ha b hb
theorem foldl_srt (ts : List Tk) : ∀ out : List Tk, Srt out → Srt (ts.foldl (fun out t => insB t out) out) := by
  induction ts with
  | nil => intro out h; exact h
  | cons t ts ih => intro out h; rw [List.foldl_cons]; exact ih _ (insB_srt h)
theorem sortL_srt (ts : List Tk) : Srt (sortL ts) := foldl_srt ts [] List.Pairwise.nil

theorem insB_last {t : Tk} {out : List Tk} (h : ∀ u ∈ out, t.bef u = false) : insB t out = out ++ [t] := by
  have : posB t out out.length = out.length := by
    rcases hl : out.length with _ | n
    · rfl
    · unfold posB
      have hu : out[n]? = some (out[n]'(by omega)) := List.getElem?_eq_getElem _
      rw [hu]
      simp [h _ (List.mem_of_getElem? hu)]
  unfold insB
  rw [this]
  simp
theorem foldl_same (l : List Tk) : ∀ out : List Tk, Srt (out ++ l) → l.foldl (fun out t => insB t out) out = out ++ l := by
  induction l with
  | nil => intro out _; simp
  | cons t l ih =>
    intro out h
    rw [List.foldl_cons]
    have h1 := h
    unfold Srt at h1
    rw [List.pairwise_append] at h1
    rw [insB_last (fun u hu => h1.2.2 u hu t (by simp))]
    rw [ih _ (by simpa using h)]
    simp
theorem sortL_same {l : List Tk} (h : Srt l) : sortL l = l := by simpa [sortL] using foldl_same l [] (by simpa using h)

theorem setB_perm {a b : List Tk} (h : a.Perm b) : setB a = setB b := by
  have : ∀ {a b : List Tk}, a.Perm b → setB a = true → setB b = true := by
    intro a b h ha
    unfold setB at *
    simp at ha ⊢
    exact ⟨by rw [← h.length_eq]; exact ha.1, fun t ht => ha.2 t (h.mem_iff.2 ht)⟩
  rcases ha : setB a with _ | _
  · rcases hb : setB b with _ | _
    · rfl
    · rw [this h.symm hb] at ha; cases ha
  · rw [this h ha]
theorem lcmL_perm {a b : List Tk} (h : a.Perm b) : lcmL a = lcmL b :=
  Nat.dvd_antisymm (lcmL_least fun _ ht => lcmL_dvd (h.mem_iff.1 ht)) (lcmL_least fun _ ht => lcmL_dvd (h.mem_iff.2 ht))
theorem hyper_perm {a b : List Tk} (h : a.Perm b) : hyperOf a = hyperOf b := by
  unfold hyperOf; rw [setB_perm h, lcmL_perm h]

/-- What the sorted list has, where the list is a set. -/
theorem sort_facts {ts us : List Tk} (hs : setB ts = true) (hu : us = sortOf ts) : us.length = ts.length ∧ us = sortOf us ∧ hyperOf us = hyperOf ts ∧ Srt us ∧ setB us = true ∧ us = sortL ts := by
  have e : us = sortL ts := by rw [hu]; simp [sortOf, hs]
  have hp : us.Perm ts := by rw [e]; exact sortL_perm ts
  have hr : Srt us := by rw [e]; exact sortL_srt ts
  have hsu : setB us = true := by rw [setB_perm hp]; exact hs
  exact ⟨hp.length_eq, by unfold sortOf; rw [hsu]; simp [sortL_same hr], hyper_perm hp, hr, hsu, e⟩

theorem sortOf_len (ts : List Tk) : (sortOf ts).length ≤ ts.length := by
  unfold sortOf
  split
  · rw [sortL_len]; exact Nat.le_refl _
  · simp

/-- Whether a task has the deadline and the period of another one. -/
def keyB (du ev : Int) (t : Tk) : Bool := decide (t.du = du) && decide (t.ev = ev)
theorem insB_key (du ev : Int) (t : Tk) (out : List Tk) : (insB t out).filter (keyB du ev) = out.filter (keyB du ev) ++ [t].filter (keyB du ev) := by
  have h0 : out.filter (keyB du ev) = (out.take (posB t out out.length)).filter (keyB du ev) ++ (out.drop (posB t out out.length)).filter (keyB du ev) := by
    rw [← List.filter_append, List.take_append_drop]
  rw [h0]
  unfold insB
  rw [List.filter_append]
  by_cases hk : keyB du ev t = true
  · have hd : (out.drop (posB t out out.length)).filter (keyB du ev) = [] := by
      rw [List.filter_eq_nil_iff]
      intro u hu hk2
      have hb := mem_drop_pos hu
      rw [bef_spec] at hb
      unfold keyB at hk hk2
      simp at hk hk2
      omega
    rw [List.filter_cons, hd]
    simp [hk]
  · simp [hk]
theorem foldl_key (du ev : Int) (ts : List Tk) : ∀ out : List Tk, (ts.foldl (fun out t => insB t out) out).filter (keyB du ev) = out.filter (keyB du ev) ++ ts.filter (keyB du ev) := by
  induction ts with
  | nil => intro out; simp
  | cons t ts ih =>
    intro out
    rw [List.foldl_cons, ih, insB_key, List.append_assoc]
    congr 1
    rw [← List.filter_append]
    rfl
theorem sortL_key (du ev : Int) (ts : List Tk) : (sortL ts).filter (keyB du ev) = ts.filter (keyB du ev) := by simpa [sortL] using foldl_key du ev ts []
theorem key_take {du ev : Int} {l : List Tk} {k : Nat} {t : Tk} (h : l[k]? = some t) : (l.take (k + 1)).filter (keyB du ev) = (l.take k).filter (keyB du ev) ++ (if keyB du ev t then [t] else []) := by
  obtain ⟨hk, rfl⟩ := List.getElem?_eq_some_iff.1 h
  rw [List.take_succ_eq_append_getElem hk, List.filter_append, List.filter_cons]
  rfl

theorem crit_sort {ts : List Tk} : (critOf (sortOf ts)).length = (critOf ts).length := by
  cases hs : setB ts
  · simp [critOf, sortOf, hs, critL]
  · obtain ⟨_, _, _, _, h5, h6⟩ := sort_facts hs rfl
    unfold critOf
    rw [h5, hs, h6]
    simp only [if_true]
    unfold critL
    rw [List.length_map, List.length_map]
    exact ((sortL_perm ts).filter _).length_eq

theorem sSortDue_is (w : World) (A : Option Addr) (n c : Nat) (ts us : List Tk) (hu : us = sortOf ts) (h : Tks w w.heap.size A n ts) (hn : n ≤ 1048576) :
    Calls Try.prog 56 #[.slice A n c] w (LsRes us w) := by subst hu; exact sSortDue_any w A n c ts h hn

end Go.Proofs.Ytpalcnhceffcmaa
