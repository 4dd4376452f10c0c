/- What the walks of chapter 3's laws share (no program text). -/
import Derived.Test.YtobkbbgllapcoabRespU
import Derived.Test.YtobkbbgllapcoabRHigh
namespace Go.Proofs.Ytobkbbgllapcoab
open Go.RowKit
set_option linter.unusedVariables false

theorem tks_to {w1 W : World} {A : Option Addr} {n : Nat} {ts : List Tk} (h : Tks w1 w1.heap.size A n ts) (hb : Below w1.heap.size w1 W) : Tks W W.heap.size A n ts := (h.below hb).more hb.size
theorem res_false {o : Option Nat} {v : Nat} (h : resN o = (v, false)) : o = none ∧ 0 = v := by
  cases o with
  | none => exact ⟨rfl, (Prod.mk.inj h).1⟩
  | some x => cases (Prod.mk.inj h).2
theorem res_true {o : Option Nat} {v : Nat} (h : resN o = (v, true)) : o = some v := by
  cases o with
  | none => cases (Prod.mk.inj h).2
  | some x => rw [← (Prod.mk.inj h).1]; rfl
theorem at_some {f : Nat → Option Nat} {a : Int} {v : Nat} (h : atI f a = some v) : ∃ k : Nat, a = (k : Int) ∧ f k = some v := by
  unfold atI at h
  split at h
  · rename_i h0
    obtain ⟨k, rfl⟩ := Int.eq_ofNat_of_zero_le h0
    exact ⟨k, rfl, h⟩
  · cases h
theorem at_nat (f : Nat → Option Nat) (k : Nat) : atI f (k : Int) = f k := by unfold atI; rw [if_pos (by omega)]; rfl
/-- A task that responds. -/
theorem rLow_some {ts : List Tk} {k v : Nat} (h : rLow ts k = some v) : setB ts = true ∧ ∃ t, ts[k]? = some t ∧ respOf (ts.take k) t.lo.toNat t.du.toNat = some v := by
  cases hs : setB ts
  · rw [rLow_bad k hs] at h; cases h
  · cases ht : ts[k]? with
    | none => rw [rLow_past ht] at h; cases h
    | some t =>
      rw [rLow_at hs ht] at h
      exact ⟨rfl, t, rfl, h⟩
theorem resp_fix {xs : List Tk} {n d v : Nat} (h : respOf xs n d = some v) : n + dLow xs v = v ∧ n ≤ v ∧ v ≤ d ∧ ∀ x, n ≤ x → x < v → x < n + dLow xs x := by
  obtain ⟨h1, h2, _, h4⟩ := least_some.1 h
  exact ⟨least_fix (resp_mono xs n) (fun x _ => Nat.le_add_right _ _) h, h1, h2, h4⟩
theorem rHigh_some {ts : List Tk} {k v : Nat} (h : rHigh ts k = some v) : setB ts = true ∧ ∃ t, ts[k]? = some t ∧ t.cr = true ∧ respOf (critL (ts.take k)) t.hi.toNat t.du.toNat = some v := by
  cases hs : setB ts
  · rw [rHigh_bad k hs] at h; cases h
  · cases ht : ts[k]? with
    | none => rw [rHigh_past ht] at h; cases h
    | some t =>
      cases hc : t.cr
      · rw [rHigh_not ht hc] at h; cases h
      · rw [rHigh_is hs ht hc] at h
        exact ⟨rfl, t, rfl, hc, h⟩
/-- The demand of a valid task in a window that is no longer than may be. -/
theorem dm_ok {t : Tk} {x m : Nat} {hb : Bool} (h : t.ok = true) (hx : x ≤ 1000000) (hm : dmd t x hb = m) : dmOf t (x : Int) hb = (m, true) := by
  unfold dmOf
  rw [h, decide_eq_true (show (0 : Int) ≤ x by omega), decide_eq_true (show (x : Int) ≤ 1000000 by omega), ← hm]; rfl
theorem task_nat {t : Tk} (h : t.ok = true) : ∃ (a b d e : Nat) (c : Bool), t = ⟨a, b, d, e, c⟩ ∧ 1 ≤ a ∧ a ≤ b ∧ b ≤ d ∧ d ≤ e ∧ e ≤ 20 := by
  obtain ⟨h1, h2, h3, h4, h5, _⟩ := ok_parts h
  obtain ⟨lo, hi, du, ev, cr⟩ := t
  dsimp only at h1 h2 h3 h4 h5
  obtain ⟨a, rfl⟩ := Int.eq_ofNat_of_zero_le (show 0 ≤ lo by omega)
  obtain ⟨b, rfl⟩ := Int.eq_ofNat_of_zero_le (show 0 ≤ hi by omega)
  obtain ⟨d, rfl⟩ := Int.eq_ofNat_of_zero_le (show 0 ≤ du by omega)
  obtain ⟨e, rfl⟩ := Int.eq_ofNat_of_zero_le (show 0 ≤ ev by omega)
  exact ⟨a, b, d, e, cr, rfl, by omega, by omega, by omega, by omega, by omega⟩
theorem own_at0 {w : World} {B c : Nat} {A : Option Addr} {ts : List Tk} (h : Own w B (.slice A ts.length c) ts) (hl : 1 ≤ ts.length) : ∃ g, A = some ⟨g, 0, none⟩ := by
  rcases h.2 with ⟨e, h0⟩ | ⟨g, cap, cur, e, _, _, h1, h2, _⟩
  · omega
  · injection e with e1 e2 e3
    exact ⟨g, e1⟩

end Go.Proofs.Ytobkbbgllapcoab
