import Derived.Test.YtgponahmkjohiabGreatDoorT2McR
namespace Go.Proofs.YtgponahmkjohiabGreatDoor
open Go.RowKit
set_option linter.unusedVariables false
def addM (js : List Jb) (now : Int) : Nat → Mc → Mc
  | 0, s => s
  | f + 1, s => if (jobOf js s.nx).tm = now then addM js now f { s with wk := s.wk ++ [(s.nx, 0)], nx := s.nx + 1 } else s
def dropM (ts : List Tk) (js : List Jb) (s : Mc) : Mc := if s.hi then { s with en := dropE ts js s.en s.wk, wk := s.wk.filter (fun p => (tkJ ts js p.1).cr) } else s
section
variable {ts : List Tk} {js : List Jb} {now : Int}
theorem dropE_snoc (en : List Int) (wk : List (Nat × Int)) (q : Nat × Int) : dropE ts js en (wk ++ [q]) = if (tkJ ts js q.1).cr then dropE ts js en wk else (dropE ts js en wk).set q.1 (-2) := by
  unfold dropE
  rw [List.foldl_append]
  rfl
theorem dropE_crit : ∀ (wk : List (Nat × Int)) (en : List Int), (∀ q, q ∈ wk → (tkJ ts js q.1).cr = true) → dropE ts js en wk = en
  | [], en, _ => rfl
  | q :: wk, en, h => by
    have h1 := dropE_crit wk en (fun r hr => h r (by simp [hr]))
    unfold dropE at h1 ⊢
    rw [List.foldl_cons, if_pos (h q (by simp))]
    exact h1
theorem drop_one (s : Mc) : oneM ts js (dropM ts js s) = dropM ts js { s with wk := s.wk ++ [(s.nx, 0)], nx := s.nx + 1 } := by
  obtain ⟨en, tr, sw, hi, wk, nx⟩ := s
  cases hi
  · rfl
  · unfold dropM oneM
    dsimp only
    rw [if_pos rfl, if_pos rfl]
    dsimp only
    rw [dropE_snoc, List.filter_append]
    cases hc : (tkJ ts js nx).cr
    · simp [hc]
    · simp [hc]
theorem come_drop : ∀ (f : Nat) (s : Mc), comeM ts js now f (dropM ts js s) = dropM ts js (addM js now f s)
  | 0, s => rfl
  | f + 1, s => by
    have e : (dropM ts js s).nx = s.nx := by unfold dropM; split <;> rfl
    unfold comeM addM
    rw [e]
    by_cases h : (jobOf js s.nx).tm = now
    · rw [if_pos h, if_pos h, drop_one, come_drop f]
    · rw [if_neg h, if_neg h]
theorem drop_self {s : Mc} (h : s.hi = true → ∀ q, q ∈ s.wk → (tkJ ts js q.1).cr = true) : dropM ts js s = s := by
  unfold dropM
  cases hh : s.hi
  · rfl
  · rw [if_pos rfl, dropE_crit _ _ (h hh), List.filter_eq_self.2 (h hh)]
    obtain ⟨en, tr, sw, hi, wk, nx⟩ := s
    dsimp only at hh
    subst hh
    rfl
theorem open_add {n : Int} {g : Nat → Int} {s : Mc} (h : InvM ts js n g s) : openM ts js now s = dropM ts js (addM js now (js.length - s.nx) (lowM s)) := by
  unfold openM
  rw [← come_drop, drop_self (low_inv h).crit]
theorem add_stop {s : Mc} : ∀ f, (s.nx < js.length → (jobOf js s.nx).tm ≠ now) → f ≤ js.length - s.nx → addM js now f s = s
  | 0, _, _ => rfl
  | f + 1, h, hf => by unfold addM; rw [if_neg (h (by omega))]
theorem add_step {s : Mc} (hn : s.nx < js.length) (h : (jobOf js s.nx).tm = now) : addM js now (js.length - s.nx) s = addM js now (js.length - (s.nx + 1)) { s with wk := s.wk ++ [(s.nx, 0)], nx := s.nx + 1 } := by
  rw [show js.length - s.nx = js.length - (s.nx + 1) + 1 by omega]
  conv => lhs; unfold addM
  rw [if_pos h]
theorem sw_drop (now : Int) (s : Mc) : swM ts js now s = dropM ts js { s with hi := true, sw := s.sw ++ [now] } := by
  unfold swM dropM
  rw [if_pos rfl]
/-- The places that are left, in order, below those to come. -/
def LeftOk (s : Mc) (len : Nat) : Prop := (s.wk.map Prod.fst).Pairwise (· < ·) ∧ (∀ q, q ∈ s.wk → q.1 < s.nx) ∧ s.nx ≤ len
theorem left_add {s : Mc} {len : Nat} (h : LeftOk s len) (hn : s.nx < len) : LeftOk { s with wk := s.wk ++ [(s.nx, 0)], nx := s.nx + 1 } len := by
  obtain ⟨h1, h2, h3⟩ := h
  refine ⟨?_, ?_, hn⟩
  · show ((s.wk ++ [(s.nx, (0 : Int))]).map Prod.fst).Pairwise (· < ·)
    rw [List.map_append, List.pairwise_append]
    refine ⟨h1, by simp, fun a ha b hb => ?_⟩
    simp at hb
    subst hb
    rw [List.mem_map] at ha
    obtain ⟨q, hq, rfl⟩ := ha
    exact h2 q hq
  · intro q hq
    show q.1 < s.nx + 1
    have hq' : q ∈ s.wk ++ [(s.nx, (0 : Int))] := hq
    rw [List.mem_append, List.mem_singleton] at hq'
    rcases hq' with hq | rfl
    · have := h2 q hq; omega
    · dsimp only; omega
theorem asc_len : ∀ (l : List Nat) (a b : Nat), l.Pairwise (· < ·) → (∀ x, x ∈ l → a ≤ x ∧ x < b) → a ≤ b → l.length ≤ b - a
  | [], a, b, _, _, _ => by simp
  | x :: l, a, b, hp, hm, hab => by
    have hx := hm x (by simp)
    have h2 := asc_len l (x + 1) b (List.pairwise_cons.1 hp).2 (fun y hy => ⟨(List.pairwise_cons.1 hp).1 y hy, (hm y (by simp [hy])).2⟩) (by omega)
    rw [List.length_cons]; omega
theorem left_len {s : Mc} {len : Nat} (h : LeftOk s len) : s.wk.length ≤ s.nx := by
  have := asc_len (s.wk.map Prod.fst) 0 s.nx h.1 (fun x hx => by
    rw [List.mem_map] at hx
    obtain ⟨q, hq, rfl⟩ := hx
    exact ⟨Nat.zero_le _, h.2.1 q hq⟩) (Nat.zero_le _)
  rw [List.length_map] at this
  omega
theorem inv_left {n : Int} {g : Nat → Int} {s : Mc} (h : InvM ts js n g s) : LeftOk s js.length := ⟨h.srt, fun q hq => (h.wk q hq).1, h.nx⟩
/-- Whoever is taken out by his place. -/
theorem erase_filter : ∀ {wk : List (Nat × Int)} {b k : Nat} {d : Int}, (wk.map Prod.fst).Pairwise (· < ·) → wk[b]? = some (k, d) → wk.filter (fun q => !decide ((q.1 : Int) = (k : Int))) = wk.eraseIdx b
  | [], b, k, d, _, h => by simp at h
  | q :: wk, 0, k, d, hp, h => by
    simp at h
    subst h
    rw [List.map_cons, List.pairwise_cons] at hp
    rw [List.filter_cons, if_neg (by simp), List.eraseIdx_cons_zero]
    refine List.filter_eq_self.2 fun r hr => ?_
    have := hp.1 r.1 (List.mem_map.2 ⟨r, hr, rfl⟩)
    dsimp only at this
    simp only [Bool.not_eq_true', decide_eq_false_iff_not]
    omega
  | q :: wk, b + 1, k, d, hp, h => by
    rw [List.map_cons, List.pairwise_cons] at hp
    have h' : wk[b]? = some (k, d) := by simpa using h
    have := hp.1 k (List.mem_map.2 ⟨(k, d), List.mem_of_getElem? h', rfl⟩)
    rw [List.filter_cons, if_pos (by simp only [Bool.not_eq_true', decide_eq_false_iff_not]; omega), List.eraseIdx_cons_succ, erase_filter hp.2 h']
theorem best_at {lt : Nat → Nat → Bool} {ks : List Nat} (hs : ∀ a, lt a a = false) {j : Nat} {r : Bool} (h : lt (ks.getD j 0) (ks.getD (bestTo lt ks (j - 1)) 0) = r) : ks.getD (bestTo lt ks j) 0 = if r then ks.getD j 0 else ks.getD (bestTo lt ks (j - 1)) 0 := by
  cases j with
  | zero =>
    have e : bestTo lt ks 0 = 0 := rfl
    rw [show 0 - 1 = 0 from rfl, e] at h
    rw [hs] at h
    subst h
    rfl
  | succ j =>
    rw [show j + 1 - 1 = j from rfl] at h ⊢
    conv => lhs; unfold bestTo
    cases r
    · rw [if_neg (by rw [h]; decide)]; rfl
    · rw [if_pos h]; rfl
end
end Go.Proofs.YtgponahmkjohiabGreatDoor
