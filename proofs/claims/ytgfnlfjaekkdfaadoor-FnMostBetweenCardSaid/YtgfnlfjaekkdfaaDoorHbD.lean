/- Holding by a policy as plain data: one task less, raised needs, groups (no program text). -/
import Derived.Test.YtgfnlfjaekkdfaaDoorNC
import Derived.Test.YtgfnlfjaekkdfaaDoorNB
import Derived.Test.YtgfnlfjaekkdfaaDoorRaM
namespace Go.Proofs.YtgfnlfjaekkdfaaDoor
open Go.RowKit
set_option linter.unusedVariables false

/-- Whether tasks hold by a policy. -/
def hBy (ts : List Tk) (pol : Int) : Bool := if pol = 0 then hBoth ts else if pol = 1 then virtV ts else false
theorem hBy_place (ts : List Tk) : hBy ts 0 = hBoth ts := rfl
theorem hBy_due (ts : List Tk) : hBy ts 1 = virtV ts := rfl
theorem hBy_no {ts : List Tk} {pol : Int} (h0 : ¬ pol = 0) (h1 : ¬ pol = 1) : hBy ts pol = false := by unfold hBy; rw [if_neg h0, if_neg h1]
theorem virt_set {ts : List Tk} (h : virtV ts = true) : setB ts = true := by
  unfold virtV at h
  rw [Bool.and_eq_true] at h
  exact imp_set (fac_imp h.1)
theorem hBy_set {ts : List Tk} {pol : Int} (h : hBy ts pol = true) : setB ts = true := by
  unfold hBy at h
  split at h
  · exact (hBoth_iff.1 h).1
  · split at h
    · exact virt_set h
    · cases h
/-- What holds in both modes holds in both modes when a task leaves. -/
theorem hBoth_erase {ts : List Tk} (k : Nat) (h : hBoth ts = true) : hBoth (ts.eraseIdx k) = true := by
  obtain ⟨hs, hh⟩ := hBoth_holds.1 h
  have hsub : (ts.eraseIdx k).Sublist ts := List.eraseIdx_sublist ts k
  exact hBoth_holds.2 ⟨set_sub hs hsub, holds_sub (n := ts.length) rfl hsub hh⟩
theorem low_cons {t : Tk} {us : List Tk} (c : Bool) (h : setB (t :: us) = true) : lowOf (t :: us) c = addN (lowOf [t] c) (lowOf us c) := by
  have := low_parts (ts := t :: us) c 1 h
  simpa using this
theorem high_cons {t : Tk} {us : List Tk} (h : setB (t :: us) = true) : highOf (t :: us) = addN (highOf [t]) (highOf us) := by
  have := high_parts (ts := t :: us) 1 h
  simpa using this
theorem set_cons {t : Tk} {us : List Tk} (h : setB (t :: us) = true) : setB [t] = true ∧ setB us = true :=
  ⟨set_sub h (List.cons_sublist_cons.2 (List.nil_sublist us)), set_sub h (List.sublist_cons_self t us)⟩
/-- Shares are no greater when a task leaves. -/
theorem plain_less {t : Tk} {us : List Tk} (h : plainV (t :: us) = true) : plainV us = true := by
  have hi := plain_imp h
  have hs := imp_set hi
  obtain ⟨s1, s2⟩ := set_cons hs
  have P1 := set_pos s1
  have P2 := set_pos s2
  have P0 := set_pos hs
  have hle := plain_le h
  have e1 : leN (lowOf us false) (lowOf (t :: us) false) := by rw [low_cons false hs]; exact le_add' P1.1 P2.1
  have e2 : leN (highOf us) (highOf (t :: us)) := by rw [high_cons hs]; exact le_add' P1.2.2 P2.2.2
  have e3 := add_mono P2.1 P0.1 P2.2.2 P0.2.2 e1 e2
  unfold plainV
  rw [Bool.and_eq_true]
  exact ⟨imp_of s2 fun u hu => imp_all hi u (List.mem_cons_of_mem _ hu), leB_iff.2 (le_trans' (add_pos P0.1 P0.2.2) e3 hle)⟩
theorem plain_erase {ts : List Tk} {k : Nat} (hk : k < ts.length) (h : plainV ts = true) : plainV (ts.eraseIdx k) = true := by
  obtain ⟨t, ht⟩ : ∃ t, ts[k]? = some t := ⟨_, List.getElem?_eq_getElem hk⟩
  have hp := erase_perm ht
  have hs := imp_set (plain_imp h)
  have hs2 : setB (t :: ts.eraseIdx k) = true := by rw [set_perm hp]; exact hs
  rw [← (virt_perm hp hs2).1] at h
  exact plain_less h
/-- Raised needs have no smaller shares. -/
theorem part_raise {t : Tk} {d : Int} (hd : 0 ≤ d) (h : t.ok = true) : 0 < (part t).2 ∧ 0 < (part (raiseT d t)).2 ∧ leN (part t) (part (raiseT d t)) := by
  obtain ⟨n1, n2, n3, n4⟩ := ok_nums h
  have he : 0 < t.ev.toNat := by omega
  refine ⟨red_pos he, red_pos he, ?_⟩
  show leN (redN t.lo.toNat t.ev.toNat) (redN (t.lo + d).toNat t.ev.toNat)
  have e1 := red_same t.lo.toNat t.ev.toNat
  have e2 := red_same (t.lo + d).toNat t.ev.toNat
  have hle : t.lo.toNat ≤ (t.lo + d).toNat := by omega
  unfold leN
  refine Nat.le_of_mul_le_mul_right (c := t.ev.toNat) ?_ he
  calc (redN t.lo.toNat t.ev.toNat).1 * (redN (t.lo + d).toNat t.ev.toNat).2 * t.ev.toNat = ((redN t.lo.toNat t.ev.toNat).1 * t.ev.toNat) * (redN (t.lo + d).toNat t.ev.toNat).2 := by ac_rfl
    _ = t.lo.toNat * (redN t.lo.toNat t.ev.toNat).2 * (redN (t.lo + d).toNat t.ev.toNat).2 := by rw [e1]
    _ ≤ (t.lo + d).toNat * (redN t.lo.toNat t.ev.toNat).2 * (redN (t.lo + d).toNat t.ev.toNat).2 := Nat.mul_le_mul_right _ (Nat.mul_le_mul_right _ hle)
    _ = ((t.lo + d).toNat * (redN (t.lo + d).toNat t.ev.toNat).2) * (redN t.lo.toNat t.ev.toNat).2 := by ac_rfl
    _ = ((redN (t.lo + d).toNat t.ev.toNat).1 * t.ev.toNat) * (redN t.lo.toNat t.ev.toNat).2 := by rw [e2]
    _ = _ := by ac_rfl
theorem filter_raise (ts : List Tk) (d : Int) (c : Bool) : (raiseL ts d).filter (fun t => t.cr == c) = raiseL (ts.filter fun t => t.cr == c) d := by
  unfold raiseL
  rw [List.filter_map]
  rfl
theorem low_raise {ts : List Tk} {d : Int} (c : Bool) (hd : 0 ≤ d) (hs : setB ts = true) (hr : setB (raiseL ts d) = true) : leN (lowOf ts c) (lowOf (raiseL ts d) c) := by
  have hok := (setB_all hs).2
  unfold lowOf
  rw [if_pos hs, if_pos hr]
  unfold lowL
  rw [filter_raise]
  unfold raiseL
  rw [List.map_map]
  exact sum_mono part (part ∘ raiseT d) _ fun t ht => part_raise hd (hok t (List.mem_filter.1 ht).1)
theorem crit_raise (ts : List Tk) (d : Int) : critL (raiseL ts d) = raiseL (critL ts) d := by
  unfold critL
  have : (raiseL ts d).filter Tk.cr = raiseL (ts.filter Tk.cr) d := by
    unfold raiseL
    rw [List.filter_map]
    rfl
  rw [this]
  unfold raiseL
  rw [List.map_map, List.map_map]
  rfl
theorem high_raise {ts : List Tk} {d : Int} (hd : 0 ≤ d) (hs : setB ts = true) (hr : setB (raiseL ts d) = true) : leN (highOf ts) (highOf (raiseL ts d)) := by
  have hok := crit_ok (setB_all hs).2
  unfold highOf
  rw [if_pos hs, if_pos hr]
  unfold lowL
  rw [crit_raise, filter_raise]
  unfold raiseL
  rw [List.map_map]
  exact sum_mono part (part ∘ raiseT d) _ fun t ht => part_raise hd (hok t (List.mem_filter.1 ht).1)
/-- An order is found for tasks that hold in both modes. -/
theorem holds_assign {ts : List Tk} (h : hBoth ts = true) : ∃ o, assignOf ts = some o ∧ o.Perm (List.range ts.length) ∧ hBoth (putN ts o) = true := by
  obtain ⟨hs, hh⟩ := hBoth_holds.1 h
  have hc : Can ts := ⟨ts, List.Perm.refl _, hh⟩
  obtain ⟨o, ho⟩ := Option.isSome_iff_exists.1 ((assign_iff hs).2 hc)
  obtain ⟨_, hp, hh2⟩ := assign_some ho
  exact ⟨o, ho, hp, hBoth_holds.2 ⟨by rw [set_perm (put_all hp)]; exact hs, hh2⟩⟩

end Go.Proofs.YtgfnlfjaekkdfaaDoor
