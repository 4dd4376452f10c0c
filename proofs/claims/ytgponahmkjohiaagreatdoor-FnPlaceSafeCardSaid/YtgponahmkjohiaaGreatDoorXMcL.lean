import Derived.Test.YtgponahmkjohiaaGreatDoorXMcJ
import Derived.Test.YtgponahmkjohiaaGreatDoorXND
import Derived.Test.YtgponahmkjohiaaGreatDoorXNG
namespace Go.Proofs.YtgponahmkjohiaaGreatDoor
open Go.RowKit
set_option linter.unusedVariables false
section
variable {ts : List Tk} {js : List Jb} {p : Po}
theorem missB_is (hv : jobsB ts js = true) {k : Nat} (hk : k < js.length) (en : List Int) (n : Nat) : missB ts js en n k = lateB (tkJ ts js k).du (jobOf js k).tm (en.getD k 0) n := by
  have hj := due_ok hv (List.mem_of_getElem? (job_get hk))
  have hok := tk_nums (job_ok hv hk).2.2.2.2.2.2.2
  have htm := (job_ok hv hk).2.1
  have e : js.getD k ⟨0, 0, 0⟩ = jobOf js k := rfl
  unfold missB
  rw [e, hj]
  unfold missX lateB tkJ
  dsimp only
  unfold tkJ at hok
  by_cases h : en.getD k 0 = -1
  · rw [if_pos h, h, decide_eq_false (show ¬ (jobOf js k).tm + (tkOf ts (jobOf js k).ta).du < -1 by omega)]
    simp
  · rw [if_neg h, decide_eq_false h]
    simp
theorem places_nil {P : Nat → Bool} : ∀ {n : Nat}, (∀ k, k < n → P k = false) → placesI P n = []
  | 0, _ => rfl
  | n + 1, h => by
    unfold placesI
    rw [h n (by omega), if_neg (by decide)]
    exact places_nil fun k hk => h k (by omega)
theorem miss_nil (hv : jobsB ts js = true) {en : List Int} {n : Nat} (h : ∀ k, k < js.length → lateB (tkJ ts js k).du (jobOf js k).tm (en.getD k 0) n = false) : missV ts js en n = [] := by
  unfold missV
  split
  · exact places_nil fun k hk => by rw [missB_is hv hk]; exact h k hk
  · rfl
theorem en_len (hv : jobsB ts js = true) (n : Nat) : (runM ts js p n).en.length = js.length := (run_at (p := p) hv n).1.enl
/-- Tasks that hold in both modes are late with no job, by places. -/
theorem place_safe (hv : jobsB ts js = true) (hd : p.due = false) (hb : hBoth ts = true) (n : Nat) : missV ts js (runM ts js p n).en n = [] := by
  have hs := set_jobs hv
  have hall : ∀ i tk, ts[i]? = some tk → (if tk.cr then rSwi ts i else rLow ts i) = some ((if tk.cr then rSwi ts i else rLow ts i).getD 0) := fun i tk hi => by
    unfold hBoth at hb
    simp only [Bool.and_eq_true, List.all_eq_true] at hb
    have h1 := hb.2 i (List.mem_range.2 (List.getElem?_eq_some_iff.1 hi).1)
    unfold bothAt at h1
    rw [hi] at h1
    dsimp only at h1
    cases hc : tk.cr
    · rw [hc] at h1
      rw [if_neg (by decide)] at h1 ⊢
      obtain ⟨v, e⟩ := Option.isSome_iff_exists.1 h1
      rw [e]; rfl
    · rw [hc] at h1
      rw [if_pos rfl] at h1 ⊢
      obtain ⟨v, e⟩ := Option.isSome_iff_exists.1 h1
      rw [e]; rfl
  have hall2 : ∀ i tk, ts[i]? = some tk → (if tk.cr then rSwi ts i else rLow ts i) = some (match ts[i]? with | some t => (if t.cr then rSwi ts i else rLow ts i).getD 0 | none => 0) := fun i tk hi => by
    rw [hi]
    exact hall i tk hi
  have hA := both_all hv hd _ hall2
  refine miss_nil hv fun k hk => ?_
  have he := en_get (p := p) (n := n) hv hk
  refine not_late hv hk (fun t hl => ?_) he
  have h1 := hA k t hl
  have hj := job_ok hv hk
  obtain ⟨i, hi⟩ := Int.eq_ofNat_of_zero_le hj.2.2.2.1
  have hil : i < ts.length := by omega
  obtain ⟨tk, ht⟩ : ∃ tk, ts[i]? = some tk := ⟨ts[i], List.getElem?_eq_getElem _⟩
  have etk : tkJ ts js k = tk := by unfold tkJ; rw [hi]; exact tkOf_get ht
  rw [etk]
  rw [hi, Int.toNat_natCast, ht] at h1
  dsimp only at h1
  have hx := hall i tk ht
  have hok := tk_nums (set_ok hs (get_mem ht))
  have hle : (((if tk.cr then rSwi ts i else rLow ts i).getD 0 : Nat) : Int) ≤ tk.du := by
    by_cases hc : tk.cr = true
    · rw [if_pos hc] at hx ⊢
      obtain ⟨_, t', l, h2, _, h3, h4⟩ := rSwi_some hx
      rw [ht] at h2
      obtain rfl := Option.some.inj h2
      have := (swi_fix h4).2.2.1
      omega
    · rw [if_neg hc] at hx ⊢
      have := (resp_parts hs ht hx).2
      omega
  omega
end
end Go.Proofs.YtgponahmkjohiaaGreatDoor
