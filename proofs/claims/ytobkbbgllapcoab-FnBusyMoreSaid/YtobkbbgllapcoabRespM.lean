/- Responses with fewer tasks (no program text). -/
import Derived.Test.YtobkbbgllapcoabLwK
namespace Go.Proofs.Ytobkbbgllapcoab
open Go.RowKit
set_option linter.unusedVariables false

theorem drop_get (ts : List Tk) (k : Nat) (hk : 1 ≤ k) : (ts.drop 1)[k - 1]? = ts[k]? := by
  rw [List.getElem?_drop]; congr 1; omega
theorem take_drop1 {ts : List Tk} {t0 : Tk} {k : Nat} (h0 : ts[0]? = some t0) (hk : 1 ≤ k) : ts.take k = t0 :: (ts.drop 1).take (k - 1) := by
  cases ts with
  | nil => cases h0
  | cons t ts =>
    injection h0 with h0
    subst h0
    obtain ⟨j, rfl⟩ : ∃ j, k = j + 1 := ⟨k - 1, by omega⟩
    simp
theorem dLow_cons (t : Tk) (ts : List Tk) (w : Nat) : dLow (t :: ts) w = dmd t w false + dLow ts w := by simp [dLow]
/-- With the first task less another one responds earlier by its need at least. -/
theorem resp_more {ts : List Tk} {t0 : Tk} {k v : Nat} (hs : setB ts = true) (h0 : ts[0]? = some t0) (hk : 1 ≤ k) (h : rLow ts k = some v) : ∃ m, rLow (ts.drop 1) (k - 1) = some m ∧ m + t0.lo.toNat ≤ v := by
  obtain ⟨_, t, ht, hf⟩ := rLow_some h
  obtain ⟨x1, x2, x3, x4⟩ := resp_fix hf
  have ht' : (ts.drop 1)[k - 1]? = some t := by rw [drop_get ts k hk]; exact ht
  rw [rLow_at (set_drop hs 1) ht']
  rw [take_drop1 h0 hk, dLow_cons] at x1
  have o0 := ok_parts (set_ok hs (get_mem h0))
  have ot := ok_parts (set_ok hs (get_mem ht))
  have hv1 : 1 ≤ v := by omega
  have hd0 : t0.lo.toNat ≤ dmd t0 v false := dem_pos (by omega) (by omega) hv1
  have hmono := dLow_mono ((ts.drop 1).take (k - 1)) (show v - t0.lo.toNat ≤ v by omega)
  have hu : t.lo.toNat + dLow ((ts.drop 1).take (k - 1)) (v - t0.lo.toNat) ≤ v - t0.lo.toNat := by omega
  cases hm : respOf ((ts.drop 1).take (k - 1)) t.lo.toNat t.du.toNat with
  | none =>
    have := least_none.1 hm (v - t0.lo.toNat) (by omega) (by omega)
    omega
  | some m =>
    refine ⟨m, rfl, ?_⟩
    obtain ⟨g1, g2, g3, g4⟩ := least_some.1 hm
    rcases Nat.lt_or_ge (v - t0.lo.toNat) m with hlt | hge
    · have := g4 (v - t0.lo.toNat) (by omega) hlt
      omega
    · omega

end Go.Proofs.Ytobkbbgllapcoab
