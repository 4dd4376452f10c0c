/- A heap of jobs, as plain data: swapping, up, down, the least one. No program in this text. -/
import Derived.Test.YtjondedkgkohfaaJbD
namespace Go.Proofs.Ytjondedkgkohfaa
open Go.RowKit
set_option linter.unusedVariables false

instance instDecJb : DecidableEq Jb := fun a b => decidable_of_iff (a.ta = b.ta ∧ a.tm = b.tm ∧ a.ne = b.ne) ⟨fun h => Jb.eq_of h.1 h.2.1 h.2.2, fun h => by subst h; exact ⟨rfl, rfl, rfl⟩⟩
def leJ (a b : Jb) : Prop := befB b a = false
theorem leJ_refl (a : Jb) : leJ a a := bef_irr a
theorem leJ_iff {a b : Jb} : leJ a b ↔ a.tm < b.tm ∨ (a.tm = b.tm ∧ a.ta ≤ b.ta) := by
  unfold leJ
  rw [← Bool.not_eq_true, befB_iff]
  omega
theorem leJ_trans {a b c : Jb} (h1 : leJ a b) (h2 : leJ b c) : leJ a c := by
  rw [leJ_iff] at *; omega
theorem leJ_of_bef {a b : Jb} (h : befB a b = true) : leJ a b := bef_asym h
theorem bef_of_le {a b : Jb} (h : leJ a b) (hn : ¬ a.ta = b.ta) : befB a b = true := by
  rw [leJ_iff] at h
  rw [befB_iff]; omega
/-- Two elements exchanged. -/
def swapL (hs : List Jb) (a b : Nat) (x y : Jb) : List Jb := (hs.set a y).set b x
theorem swap_len (hs : List Jb) (a b : Nat) (x y : Jb) : (swapL hs a b x y).length = hs.length := by unfold swapL; simp
theorem swap_at {hs : List Jb} {a b : Nat} {x y : Jb} (ha : a < hs.length) (hb : b < hs.length) (hab : a ≠ b) (i : Nat) :
    (swapL hs a b x y)[i]? = if i = a then some y else if i = b then some x else hs[i]? := by
  unfold swapL
  rw [List.getElem?_set]
  by_cases h1 : b = i
  · subst h1
    rw [if_pos rfl, if_pos (by simpa using hb), if_neg (fun e => hab e.symm), if_pos rfl]
  · rw [if_neg h1, List.getElem?_set]
    by_cases h2 : a = i
    · subst h2
      rw [if_pos rfl, if_pos rfl, if_pos ha]
    · rw [if_neg h2, if_neg (fun e => h2 e.symm), if_neg (fun e => h1 e.symm)]
theorem swap_perm {hs : List Jb} {a b : Nat} {x y : Jb} (ha : hs[a]? = some x) (hb : hs[b]? = some y) : (swapL hs a b x y).Perm hs := by
  obtain ⟨hal, hax⟩ := List.getElem?_eq_some_iff.1 ha
  obtain ⟨hbl, hbx⟩ := List.getElem?_eq_some_iff.1 hb
  rw [List.perm_iff_count]
  intro z
  unfold swapL
  have hx : ∀ i (hi : i < hs.length), hs[i] = z → 0 < hs.count z := fun i hi e => List.count_pos_iff.2 (by rw [← e]; exact List.getElem_mem _)
  rw [List.count_set (by simpa using hbl), List.count_set hal]
  rw [List.getElem_set]
  by_cases hab : a = b
  · subst hab
    have : x = y := by rw [← hax, ← hbx]
    subst this
    simp [hax]
    by_cases hz : x = z
    · have := hx a hal (hax.trans hz); simp [hz]; omega
    · simp [hz]
  · simp only [hab, if_false, hax, hbx, beq_iff_eq]
    by_cases hzx : x = z
    · have h1 := hx a hal (hax.trans hzx)
      by_cases hzy : y = z
      · simp [hzx, hzy]; omega
      · simp [hzx, hzy]; omega
    · by_cases hzy : y = z
      · have h1 := hx b hbl (hbx.trans hzy)
        simp [hzx, hzy]
      · simp [hzx, hzy]
/-- No element goes before the one above it. -/
def heapP (hs : List Jb) : Prop := ∀ i x p, 0 < i → hs[i]? = some x → hs[(i - 1) / 2]? = some p → leJ p x
def UpInv (hs : List Jb) (k : Nat) (x : Jb) : Prop :=
  hs[k]? = some x ∧ (∀ i y p, 0 < i → i ≠ k → hs[i]? = some y → hs[(i - 1) / 2]? = some p → leJ p y) ∧
    (∀ c y p, 0 < c → (c - 1) / 2 = k → 0 < k → hs[c]? = some y → hs[(k - 1) / 2]? = some p → leJ p y)
theorem up_start {hs : List Jb} {x : Jb} (h : heapP hs) : UpInv (hs ++ [x]) hs.length x := by
  refine ⟨by simp, fun i y p hi hk hy hp => ?_, fun c y p hc hck hk hy hp => ?_⟩
  · have hil : i < hs.length := by
      have := (List.getElem?_eq_some_iff.1 hy).1
      simp at this; omega
    rw [List.getElem?_append_left hil] at hy
    rw [List.getElem?_append_left (by omega)] at hp
    exact h i y p hi hy hp
  · have := (List.getElem?_eq_some_iff.1 hy).1
    simp at this; omega
theorem up_done {hs : List Jb} {k : Nat} {x : Jb} (h : UpInv hs k x) (hd : k = 0 ∨ ∀ p, hs[(k - 1) / 2]? = some p → befB x p = false) : heapP hs := by
  intro i y p hi hy hp
  by_cases hk : i = k
  · subst hk
    rcases hd with hd | hd
    · omega
    · rw [h.1] at hy
      injection hy with hy
      subst hy
      exact hd p hp
  · exact h.2.1 i y p hi hk hy hp
theorem up_step {hs : List Jb} {k : Nat} {x p : Jb} (h : UpInv hs k x) (hk : 0 < k) (hp : hs[(k - 1) / 2]? = some p) (hb : befB x p = true) : UpInv (swapL hs k ((k - 1) / 2) x p) ((k - 1) / 2) x := by
  have hkl := (List.getElem?_eq_some_iff.1 h.1).1
  have hpl := (List.getElem?_eq_some_iff.1 hp).1
  have hne : k ≠ (k - 1) / 2 := by omega
  refine ⟨by rw [swap_at hkl hpl hne, if_neg (fun e => hne e.symm), if_pos rfl], fun i y q hi hik hy hq => ?_, fun c y q hc hck hk0 hy hq => ?_⟩
  · rw [swap_at hkl hpl hne] at hy hq
    rw [if_neg hik] at hy
    by_cases h1 : i = k
    · subst h1
      rw [if_pos rfl] at hy
      rw [if_neg (by omega), if_pos rfl] at hq
      injection hy with hy; injection hq with hq
      subst hy hq
      exact leJ_of_bef hb
    · rw [if_neg h1] at hy
      by_cases h2 : (i - 1) / 2 = k
      · rw [if_pos h2] at hq
        injection hq with hq
        subst hq
        exact h.2.2 i y p hi h2 hk hy hp
      · rw [if_neg h2] at hq
        by_cases h3 : (i - 1) / 2 = (k - 1) / 2
        · rw [if_pos h3] at hq
          injection hq with hq
          subst hq
          exact leJ_trans (leJ_of_bef hb) (h.2.1 i y p hi h1 hy (by rw [h3]; exact hp))
        · rw [if_neg h3] at hq
          exact h.2.1 i y q hi h1 hy hq
  · rw [swap_at hkl hpl hne] at hy hq
    rw [if_neg (by omega), if_neg (by omega)] at hq
    have hpq : leJ q p := h.2.1 ((k - 1) / 2) p q hk0 (by omega) hp hq
    by_cases h1 : c = k
    · subst h1
      rw [if_pos rfl] at hy
      injection hy with hy
      subst hy
      exact hpq
    · rw [if_neg h1, if_neg (by omega)] at hy
      exact leJ_trans hpq (h.2.1 c y p hc h1 hy (by rw [hck]; exact hp))
def DownInv (hs : List Jb) (k : Nat) : Prop :=
  (∀ i y p, 0 < i → (i - 1) / 2 ≠ k → hs[i]? = some y → hs[(i - 1) / 2]? = some p → leJ p y) ∧
    (∀ c y p, 0 < c → (c - 1) / 2 = k → 0 < k → hs[c]? = some y → hs[(k - 1) / 2]? = some p → leJ p y)
theorem down_done {hs : List Jb} {k : Nat} {x : Jb} (h : DownInv hs k) (hx : hs[k]? = some x) (h1 : ∀ y, hs[2 * k + 1]? = some y → leJ x y) (h2 : ∀ y, hs[2 * k + 2]? = some y → leJ x y) : heapP hs := by
  intro i y p hi hy hp
  by_cases hk : (i - 1) / 2 = k
  · rw [hk, hx] at hp
    injection hp with hp
    subst hp
    rcases (by omega : i = 2 * k + 1 ∨ i = 2 * k + 2) with e | e
    · exact h1 y (by rw [← e]; exact hy)
    · exact h2 y (by rw [← e]; exact hy)
  · exact h.1 i y p hi hk hy hp
theorem down_step {hs : List Jb} {k f : Nat} {x m : Jb} (h : DownInv hs k) (hx : hs[k]? = some x) (hf : f = 2 * k + 1 ∨ f = 2 * k + 2) (hm : hs[f]? = some m) (h0 : leJ m x) (h1 : ∀ y, hs[2 * k + 1]? = some y → leJ m y) (h2 : ∀ y, hs[2 * k + 2]? = some y → leJ m y) : DownInv (swapL hs k f x m) f := by
  have hkl := (List.getElem?_eq_some_iff.1 hx).1
  have hfl := (List.getElem?_eq_some_iff.1 hm).1
  have hne : k ≠ f := by omega
  refine ⟨fun i y p hi hik hy hp => ?_, fun c y p hc hck hf0 hy hp => ?_⟩
  · rw [swap_at hkl hfl hne] at hy hp
    rw [if_neg hik] at hp
    by_cases e1 : (i - 1) / 2 = k
    · rw [e1] at hp
      simp only [if_true] at hp
      injection hp with hp
      subst hp
      rw [if_neg (by omega)] at hy
      by_cases e2 : i = f
      · rw [if_pos e2] at hy
        injection hy with hy
        subst hy
        exact h0
      · rw [if_neg e2] at hy
        rcases (by omega : i = 2 * k + 1 ∨ i = 2 * k + 2) with e | e
        · exact h1 y (by rw [← e]; exact hy)
        · exact h2 y (by rw [← e]; exact hy)
    · rw [if_neg e1] at hp
      by_cases e2 : i = k
      · subst e2
        rw [if_pos rfl] at hy
        injection hy with hy
        subst hy
        exact h.2 f m p (by omega) (by omega) hi hm hp
      · rw [if_neg e2, if_neg (by omega)] at hy
        exact h.1 i y p hi e1 hy hp
  · rw [swap_at hkl hfl hne] at hy hp
    rw [if_neg (by omega), if_neg (by omega)] at hy
    rw [if_pos (by omega)] at hp
    injection hp with hp
    subst hp
    exact h.1 c y m hc (by omega) hy (by rw [hck]; exact hm)
theorem heap_min {hs : List Jb} {x : Jb} (h : heapP hs) (hx : hs[0]? = some x) : ∀ y ∈ hs, leJ x y := by
  have : ∀ (n i : Nat) (y : Jb), i ≤ n → hs[i]? = some y → leJ x y := by
    intro n
    induction n with
    | zero =>
      intro i y hi hy
      obtain rfl : i = 0 := by omega
      rw [hx] at hy
      injection hy with hy
      subst hy
      exact leJ_refl _
    | succ n ih =>
      intro i y hi hy
      by_cases h0 : i = 0
      · exact ih i y (by omega) hy
      · have hl := (List.getElem?_eq_some_iff.1 hy).1
        obtain ⟨p, hp⟩ : ∃ p, hs[(i - 1) / 2]? = some p := ⟨hs[(i - 1) / 2]'(by omega), List.getElem?_eq_getElem _⟩
        exact leJ_trans (ih ((i - 1) / 2) p (by omega) hp) (h i y p (by omega) hy hp)
  intro y hy
  obtain ⟨i, hi⟩ := List.getElem?_of_mem hy
  exact this i i y (Nat.le_refl _) hi
/-- The first one and the last one exchanged, the last one taken off: in order but for the first one. -/
theorem pop_start {hs : List Jb} {n : Nat} {x y : Jb} (h : heapP hs) (hn : hs.length = n + 1) (hx : hs[0]? = some x) (hy : hs[n]? = some y) : DownInv ((swapL hs 0 n x y).take n) 0 := by
  refine ⟨fun i z p hi hik hz hp => ?_, fun c z p hc hck hk => by omega⟩
  have hil : i < n := by
    have := (List.getElem?_eq_some_iff.1 hz).1
    rw [List.length_take] at this; omega
  rw [List.getElem?_take_of_lt hil] at hz
  rw [List.getElem?_take_of_lt (by omega)] at hp
  rw [swap_at (by omega) (by omega) (by omega)] at hz hp
  rw [if_neg (by omega), if_neg (by omega)] at hz hp
  exact h i z p hi hz hp
theorem take_swap_perm {hs : List Jb} {n : Nat} {x y : Jb} (hn : hs.length = n + 1) (hx : hs[0]? = some x) (hy : hs[n]? = some y) : (x :: (swapL hs 0 n x y).take n).Perm hs := by
  have h1 := swap_perm hx hy
  have h2 : swapL hs 0 n x y = (swapL hs 0 n x y).take n ++ [x] := by
    have hl : (swapL hs 0 n x y).length = n + 1 := by rw [swap_len, hn]
    have hlast : (swapL hs 0 n x y)[n]? = some x := by
      unfold swapL
      rw [List.getElem?_set, if_pos rfl, if_pos (by simp; omega)]
    have := List.take_add_one (l := swapL hs 0 n x y) (i := n)
    rw [hlast, List.take_of_length_le (by omega)] at this
    exact this
  rw [h2] at h1
  exact (List.perm_append_comm (l₁ := [x]) (l₂ := (swapL hs 0 n x y).take n)).trans h1

end Go.Proofs.Ytjondedkgkohfaa
