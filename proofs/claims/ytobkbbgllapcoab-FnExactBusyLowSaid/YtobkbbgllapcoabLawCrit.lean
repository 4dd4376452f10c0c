/- The walks of the laws on critical tasks. -/
import Derived.Test.YtobkbbgllapcoabDraws
import Derived.Test.YtobkbbgllapcoabCrit
import Derived.Test.YtobkbbgllapcoabSame
namespace Go.Proofs.Ytobkbbgllapcoab
open Go.RowKit

theorem iCriticalOf_is (w : World) (A : Option Addr) (n c : Nat) (ts us : List Tk) (hu : us = critOf ts) (h : Tks w w.heap.size A n ts) (hn : n ≤ 1048576) :
    Calls Try.prog 67 #[.slice A n c] w (LsRes us w) := by subst hu; exact iCriticalOf_any w A n c ts h hn
theorem sCriticalOf_is (w : World) (A : Option Addr) (n c : Nat) (ts us : List Tk) (hu : us = critOf ts) (h : Tks w w.heap.size A n ts) (hn : n ≤ 1048576) :
    Calls Try.prog 66 #[.slice A n c] w (LsRes us w) := by subst hu; exact sCriticalOf_any w A n c ts h hn

theorem critOf_len (ts : List Tk) : (critOf ts).length ≤ ts.length := by
  unfold critOf; split
  · exact critL_len ts
  · simp

theorem ok_crit {t : Tk} (h : t.ok = true) : Tk.ok ⟨t.hi, t.hi, t.du, t.ev, t.cr⟩ = true := by
  unfold Tk.ok validB at *
  simp at h ⊢
  omega

theorem critL_mem {ts : List Tk} {t : Tk} (h : t ∈ critL ts) : ∃ u ∈ ts, u.cr = true ∧ t = ⟨u.hi, u.hi, u.du, u.ev, u.cr⟩ := by
  unfold critL at h
  rw [List.mem_map] at h
  obtain ⟨u, hu, rfl⟩ := h
  rw [List.mem_filter] at hu
  exact ⟨u, hu.1, hu.2, rfl⟩

theorem crit_facts {ts us : List Tk} (hs : setB ts = true) (hu : us = critOf ts) : setB us = true ∧ critOf us = us ∧ us.length ≤ ts.length ∧ ∀ t ∈ us, t.cr = true ∧ t.lo = t.hi := by
  have e : us = critL ts := by rw [hu]; simp [critOf, hs]
  have hall : ∀ t ∈ us, t.cr = true ∧ t.lo = t.hi := fun t ht => by
    rw [e] at ht
    obtain ⟨u, _, h2, rfl⟩ := critL_mem ht
    exact ⟨h2, rfl⟩
  have hsu : setB us = true := by
    unfold setB at hs ⊢
    simp at hs ⊢
    refine ⟨by rw [e]; exact Nat.le_trans (critL_len ts) hs.1, fun t ht => ?_⟩
    rw [e] at ht
    obtain ⟨u, hu, _, rfl⟩ := critL_mem ht
    exact ok_crit (hs.2 u hu)
  refine ⟨hsu, ?_, by rw [e]; exact critL_len ts, hall⟩
  have e1 : critOf us = critL us := by simp [critOf, hsu]
  rw [e1]
  clear e e1 hsu hu hs
  induction us with
  | nil => rfl
  | cons t us ih =>
    obtain ⟨a, b⟩ := hall t (by simp)
    have := ih (fun t ht => hall t (by simp [ht]))
    unfold critL at this ⊢
    rw [List.filter_cons, a]
    simp only [if_true, List.map_cons, this]
    obtain ⟨lo, hi, du, ev, cr⟩ := t
    simp at a b
    subst b
    rfl

end Go.Proofs.Ytobkbbgllapcoab
