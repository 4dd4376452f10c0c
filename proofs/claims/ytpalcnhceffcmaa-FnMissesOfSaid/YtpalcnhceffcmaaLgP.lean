/- Longest responses of drawn runs, as plain data. -/
import Derived.Test.YtpalcnhceffcmaaNG
import Derived.Test.YtpalcnhceffcmaaDr8
namespace Go.Proofs.Ytpalcnhceffcmaa
open Go.RowKit
set_option linter.unusedVariables false

theorem lgStep_nice {task : Int} {j : Jb} {x m : Int} (h1 : -2 ≤ x) (h2 : x ≤ 1000) (h3 : 0 ≤ j.tm) (h4 : j.tm ≤ 1000) : lgStep task j x m = if j.ta = task ∧ 0 ≤ x ∧ m < x - j.tm then x - j.tm else m := by
  have hw : IntKind.i64.wrap (x - j.tm) = x - j.tm := IntWalk.i64_in _ (by omega)
  unfold lgStep
  rw [hw]
  by_cases a : j.ta = task ∧ 0 ≤ x
  · rw [if_pos (by omega)]
    by_cases b : m < x - j.tm
    · rw [if_pos b, if_pos (by omega)]
    · rw [if_neg b, if_neg (by omega)]
  · rw [if_neg (by omega), if_neg (by omega)]
def niceJ (js : List Jb) (en : List Int) (n : Nat) : Prop := ∀ k, k < n → (-2 ≤ en.getD k 0 ∧ en.getD k 0 ≤ 1000) ∧ 0 ≤ (js.getD k ⟨0, 0, 0⟩).tm ∧ (js.getD k ⟨0, 0, 0⟩).tm ≤ 1000
theorem lg_ge {task : Int} {js : List Jb} {en : List Int} : ∀ {n : Nat}, niceJ js en n → ∀ k, k < n → (js.getD k ⟨0, 0, 0⟩).ta = task → 0 ≤ en.getD k 0 → en.getD k 0 - (js.getD k ⟨0, 0, 0⟩).tm ≤ lgK task js en n
  | 0, _, k, hk, _, _ => absurd hk (Nat.not_lt_zero _)
  | n + 1, h, k, hk, h1, h2 => by
    have hn := h n (Nat.lt_succ_self _)
    rw [lgK, lgStep_nice hn.1.1 hn.1.2 hn.2.1 hn.2.2]
    by_cases e : k = n
    · subst e
      split <;> omega
    · have ih := lg_ge (fun k hk => h k (Nat.lt_succ_of_lt hk)) k (by omega) h1 h2
      split <;> omega
theorem lg_some {task : Int} {js : List Jb} {en : List Int} : ∀ {n : Nat}, niceJ js en n → lgK task js en n ≠ 0 → ∃ k, k < n ∧ (js.getD k ⟨0, 0, 0⟩).ta = task ∧ 0 ≤ en.getD k 0 ∧ en.getD k 0 - (js.getD k ⟨0, 0, 0⟩).tm = lgK task js en n
  | 0, _, hne => absurd rfl hne
  | n + 1, h, hne => by
    have hn := h n (Nat.lt_succ_self _)
    have e := lgStep_nice (task := task) (m := lgK task js en n) hn.1.1 hn.1.2 hn.2.1 hn.2.2
    rw [lgK] at hne ⊢
    rw [e] at hne ⊢
    by_cases hc : (js.getD n ⟨0, 0, 0⟩).ta = task ∧ 0 ≤ en.getD n 0 ∧ lgK task js en n < en.getD n 0 - (js.getD n ⟨0, 0, 0⟩).tm
    · rw [if_pos hc]
      exact ⟨n, Nat.lt_succ_self _, hc.1, hc.2.1, rfl⟩
    · rw [if_neg hc] at hne ⊢
      obtain ⟨k, a, b, c, d⟩ := lg_some (fun k hk => h k (Nat.lt_succ_of_lt hk)) hne
      exact ⟨k, by omega, b, c, d⟩
theorem lgK_nn (task : Int) (js : List Jb) (en : List Int) : ∀ n, 0 ≤ lgK task js en n
  | 0 => Int.le_refl _
  | n + 1 => by
    have := lgK_nn task js en n
    rw [lgK]
    unfold lgStep
    split
    · split <;> omega
    · exact this
/-- The numbers of a drawn run are small. -/
theorem drawn_en {ts : List Tk} {js : List Jb} {en tr sw : List Int} {hi : Bool} (h : DrawnR ts js en tr sw hi) : ∀ x ∈ en, -2 ≤ x ∧ x ≤ 60 := by
  obtain ⟨pol, tk, _, t0, t1, _, _, h⟩ := h
  have hs : ∀ x ∈ (runR ts js pol tk).en, -2 ≤ x ∧ x ≤ 60 := by
    intro x hx
    cases ho : okR ts js pol tk
    · rw [runR_no ho] at hx; cases hx
    · rw [runR_ok ho] at hx
      have hv := (okR_iff.1 ho).1
      obtain ⟨k, hk⟩ := List.mem_iff_getElem?.1 hx
      have hb := (run_at (p := poOf ts pol) hv tk.toNat).1.val k x hk
      have hlen := (run_at (p := poOf ts pol) hv tk.toNat).1.enl
      have hkl : k < js.length := by rw [← hlen]; exact (List.getElem?_eq_some_iff.1 hk).1
      have hjo := job_ok hv hkl
      rcases hb with rfl | ⟨rfl, _⟩ | ⟨_, h1, h2, _⟩ <;> omega
  rcases h with ⟨rfl, _⟩ | ⟨z, z0, z1, rfl, _⟩ | ⟨z, _, _, rfl, _⟩
  · exact hs
  · intro x hx
    rcases List.mem_append.1 hx with h | h
    · exact hs x h
    · rw [List.mem_singleton.1 h]; omega
  · exact hs
theorem drawn_nice {ts : List Tk} {js : List Jb} {en tr sw : List Int} {hi : Bool} (h : DrawnR ts js en tr sw hi) (hj : ∀ j ∈ js, smallJ j) (he : en.length = js.length) : niceJ js en js.length := by
  intro k hk
  have h1 := drawn_en h (en.getD k 0) (by
    rw [List.getD_eq_getElem?_getD, List.getElem?_eq_getElem (by omega)]
    exact List.getElem_mem _)
  have h2 := hj (js.getD k ⟨0, 0, 0⟩) (by
    rw [List.getD_eq_getElem?_getD, List.getElem?_eq_getElem hk]
    exact List.getElem_mem _)
  obtain ⟨_, ⟨a, b⟩, _⟩ := h2
  exact ⟨⟨h1.1, by omega⟩, a, by omega⟩

end Go.Proofs.Ytpalcnhceffcmaa
