/- One task alone, and its greatest high need, as plain data (no program text). -/
import Derived.Test.YtfjbkblodgdcnaaDoorMoI
namespace Go.Proofs.YtfjbkblodgdcnaaDoor
open Go.RowKit
set_option linter.unusedVariables false

theorem one_both {u : Tk} (h : u.ok = true) : hBoth [u] = true := by
  obtain ⟨h1, h2, h3, h4, h5, h6⟩ := ok_parts h
  have hs : setB [u] = true := set_of (by simp) (fun t ht => by rw [List.mem_singleton.1 ht]; exact h)
  have hl : rLow [u] 0 = some u.lo.toNat := by
    rw [rLow_at hs (t := u) rfl]
    exact least_some.2 ⟨Nat.le_refl _, by omega, by show u.lo.toNat + dLow [] _ ≤ _; simp [dLow], fun v a b => by omega⟩
  refine hBoth_iff.2 ⟨hs, fun k hk => ?_⟩
  obtain rfl : k = 0 := by simp at hk; exact hk
  cases hc : u.cr
  · rw [both_no (t := u) rfl hc, hl]; rfl
  · rw [both_cr (t := u) rfl hc, rSwi_at hl (t := u) rfl hc]
    have : swiOf ([u].take 0) u.lo.toNat u.hi.toNat u.du.toNat = some u.hi.toNat :=
      least_some.2 ⟨Nat.le_refl _, by omega, by show u.hi.toNat + dSwi [] _ _ ≤ _; simp [dSwi], fun v a b => by omega⟩
    rw [this]; rfl
theorem one_hBy {u : Tk} {pol : Int} (h : u.ok = true) (hp : pol = 0 ∨ pol = 1) (he : pol = 1 → u.du = u.ev) : hBy [u] pol = true := by
  rcases hp with rfl | rfl
  · exact one_both h
  · have hs : setB [u] = true := set_of (by simp) (fun t ht => by rw [List.mem_singleton.1 ht]; exact h)
    exact virt_plain (one_plain (imp_of hs (fun t ht => by rw [List.mem_singleton.1 ht]; exact he rfl)))
theorem hBy_pol9 {ts : List Tk} {pol : Int} (h : hBy ts pol = true) : pol = 0 ∨ pol = 1 := by
  by_cases h0 : pol = 0
  · exact .inl h0
  by_cases h1 : pol = 1
  · exact .inr h1
  · rw [hBy_no h0 h1] at h; cases h
theorem virt_due {ts : List Tk} (h : virtV ts = true) : ∀ t ∈ ts, t.du = t.ev := by
  unfold virtV at h
  rw [Bool.and_eq_true] at h
  exact imp_all (fac_imp h.1)
/-- The greatest high need of the only task is all that it may need. -/
theorem most_last {ts : List Tk} {n q : Nat} {t : Tk} {pol : Int} (hl : ts.length = n) (ht : ts[q]? = some t) (h : mostHB ts n (q : Int) pol = true) :
    mostHB [t] 1 0 pol = true ∧ mostV [t] 0 pol true = t.du.toNat ∧ t.ok = true := by
  unfold mostHB at h
  rw [Bool.and_eq_true, show ((q : Int)).toNat = q by omega, getD_at ht] at h
  obtain ⟨hs, hh, _⟩ := most_at hl h.1
  have hok := set_ok hs (get_mem ht)
  obtain ⟨h1, h2, h3, h4, h5, h6⟩ := ok_parts hok
  have hp := hBy_pol9 hh
  have he : pol = 1 → t.du = t.ev := fun e => by
    subst e
    exact virt_due hh t (get_mem ht)
  have hb : mostB [t] 1 0 pol = true := by
    unfold mostB hasB
    rw [one_hBy hok hp he, set_of (ts := [t]) (by simp) (fun x hx => by rw [List.mem_singleton.1 hx]; exact hok)]
    rfl
  refine ⟨?_, ?_, hok⟩
  · unfold mostHB
    rw [hb]
    show t.cr = true
    exact h.2
  · show mostN [t] 0 pol true t.du.toNat = t.du.toNat
    obtain ⟨d, hd⟩ : ∃ d, t.du.toNat = d + 1 := ⟨t.du.toNat - 1, by omega⟩
    rw [hd, most_step [t] 0 pol true d true ?_]
    · rfl
    · have hg : giveL [t] 0 true ((d + 1 : Nat) : Int) = [giveT true ((d + 1 : Nat) : Int) t] := rfl
      rw [hg]
      refine one_hBy ?_ hp (fun e => he e)
      have hcr : t.cr = true := h.2
      have hdu : ((d + 1 : Nat) : Int) = t.du := by omega
      rw [hdu]
      unfold Tk.ok validB
      show (_ && _) = true
      simp only [giveT, if_true, hcr]
      simp
      omega

end Go.Proofs.YtfjbkblodgdcnaaDoor
