/- Greatest needs with which tasks hold, as plain data (no program text). -/
import Derived.Test.YtgfnlfjaekkdfaaDoorHbD
import Derived.Test.YtgfnlfjaekkdfaaDoorLv
namespace Go.Proofs.YtgfnlfjaekkdfaaDoor
open Go.RowKit
set_option linter.unusedVariables false

/-- A task that is given a need: its high one, or its low one. -/
def giveT (hi : Bool) (n : Int) (t : Tk) : Tk := if hi then ⟨t.lo, n, t.du, t.ev, t.cr⟩ else ⟨n, if t.cr then t.hi else n, t.du, t.ev, t.cr⟩
def giveL (ts : List Tk) (k : Nat) (hi : Bool) (n : Int) : List Tk := ts.set k (giveT hi n (ts.getD k default))
def mostN (ts : List Tk) (k : Nat) (pol : Int) (hi : Bool) : Nat → Nat
  | 0 => 0
  | n + 1 => if hBy (giveL ts k hi ((n + 1 : Nat) : Int)) pol then n + 1 else mostN ts k pol hi n
def mostB (ts : List Tk) (n : Nat) (a pol : Int) : Bool := hasB ts n a && hBy ts pol
def mostV (ts : List Tk) (a pol : Int) (hi : Bool) : Nat := mostN ts a.toNat pol hi (ts.getD a.toNat default).du.toNat
theorem give_again (hi : Bool) (n m : Int) (t : Tk) : giveT hi n (giveT hi m t) = giveT hi n t := by
  obtain ⟨lo, h, du, ev, cr⟩ := t
  cases hi <;> cases cr <;> rfl
theorem getD_at {ts : List Tk} {k : Nat} {t : Tk} (h : ts[k]? = some t) : ts.getD k default = t := by rw [List.getD_eq_getElem?_getD, h]; rfl
theorem give_self {ts : List Tk} {k : Nat} {t : Tk} {hi : Bool} (hs : setB ts = true) (h : ts[k]? = some t) : giveL ts k hi (if hi then t.hi else t.lo) = ts := by
  obtain ⟨_, _, _, _, _, hc⟩ := ok_parts (set_ok hs (get_mem h))
  have e : giveT hi (if hi then t.hi else t.lo) t = t := by
    obtain ⟨lo, h, du, ev, cr⟩ := t
    cases hi
    · cases cr
      · have := hc rfl
        dsimp only at this
        subst this
        rfl
      · rfl
    · rfl
  unfold giveL
  rw [getD_at h, e]
  obtain ⟨hk, rfl⟩ := List.getElem?_eq_some_iff.1 h
  exact List.set_getElem_self hk
theorem most_le (ts : List Tk) (k : Nat) (pol : Int) (hi : Bool) : ∀ n, mostN ts k pol hi n ≤ n
  | 0 => Nat.le_refl _
  | n + 1 => by
    unfold mostN
    split
    · exact Nat.le_refl _
    · exact Nat.le_succ_of_le (most_le ts k pol hi n)
theorem most_hit {ts : List Tk} {k : Nat} {pol : Int} {hi : Bool} : ∀ {n}, 0 < mostN ts k pol hi n → hBy (giveL ts k hi (mostN ts k pol hi n : Int)) pol = true
  | 0, h => by simp [mostN] at h
  | n + 1, h => by
    unfold mostN at h ⊢
    split
    · rename_i hh; exact hh
    · rename_i hh
      rw [if_neg hh] at h
      exact most_hit h
theorem most_ge {ts : List Tk} {k : Nat} {pol : Int} {hi : Bool} {m : Nat} (hm : 1 ≤ m) (hh : hBy (giveL ts k hi (m : Int)) pol = true) : ∀ {n}, m ≤ n → m ≤ mostN ts k pol hi n
  | 0, h => by omega
  | n + 1, h => by
    unfold mostN
    split
    · exact h
    · rename_i hx
      by_cases e : m = n + 1
      · subst e; exact absurd hh hx
      · exact most_ge hm hh (by omega)
/-- The need that a task has is found at least. -/
theorem most_self {ts : List Tk} {k : Nat} {t : Tk} {pol : Int} {hi : Bool} (hh : hBy ts pol = true) (h : ts[k]? = some t) : (if hi then t.hi else t.lo) ≤ (mostN ts k pol hi t.du.toNat : Int) ∧ 1 ≤ mostN ts k pol hi t.du.toNat := by
  have hs := hBy_set hh
  obtain ⟨h1, h2, h3, h4, h5, _⟩ := ok_parts (set_ok hs (get_mem h))
  have hg := give_self (hi := hi) hs h
  have hb : 1 ≤ (if hi then t.hi else t.lo) ∧ (if hi then t.hi else t.lo) ≤ t.du := by cases hi <;> simp <;> omega
  obtain ⟨x, hx⟩ : ∃ x, (if hi then t.hi else t.lo) = x := ⟨_, rfl⟩
  rw [hx] at hb hg ⊢
  have := most_ge (ts := ts) (k := k) (pol := pol) (hi := hi) (m := x.toNat) (by omega) (by rw [show ((x.toNat : Nat) : Int) = x by omega, hg]; exact hh) (n := t.du.toNat) (by omega)
  omega
theorem most_step (ts : List Tk) (k : Nat) (pol : Int) (hi : Bool) (n : Nat) (b : Bool) (h : hBy (giveL ts k hi ((n + 1 : Nat) : Int)) pol = b) : mostN ts k pol hi (n + 1) = if b then n + 1 else mostN ts k pol hi n := by
  rw [← h]; rfl
theorem most_at {ts : List Tk} {n : Nat} {a pol : Int} (hl : ts.length = n) (h : mostB ts n a pol = true) : setB ts = true ∧ hBy ts pol = true ∧ ∃ (k : Nat) (t : Tk), a = k ∧ k < n ∧ ts[k]? = some t ∧ t.du.toNat ≤ 20 ∧ 1 ≤ t.du ∧ t.du ≤ 20 := by
  unfold mostB at h
  rw [Bool.and_eq_true] at h
  obtain ⟨hs, k, rfl, hk⟩ := has_at h.1
  obtain ⟨t, ht⟩ : ∃ t, ts[k]? = some t := ⟨_, List.getElem?_eq_getElem (by omega)⟩
  obtain ⟨h1, h2, h3, h4, h5, _⟩ := ok_parts (set_ok hs (get_mem ht))
  exact ⟨hs, h.2, k, t, rfl, hk, ht, by omega, by omega, by omega⟩

end Go.Proofs.YtgfnlfjaekkdfaaDoor
