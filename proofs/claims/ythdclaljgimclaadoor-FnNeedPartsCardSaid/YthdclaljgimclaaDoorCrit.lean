/- Contracts of CriticalOf, in the program and in the reference: both return the critical tasks with their high needs as low ones, in memory of their own. -/
import Derived.Test.YthdclaljgimclaaDoorOwn
namespace Go.Proofs.YthdclaljgimclaaDoor
open Go.RowKit

def critL (ts : List Tk) : List Tk := (ts.filter Tk.cr).map fun t => ⟨t.hi, t.hi, t.du, t.ev, t.cr⟩
def critOf (ts : List Tk) : List Tk := if setB ts then critL ts else []

theorem critL_yes {ts : List Tk} {k : Nat} {t : Tk} (h : ts[k]? = some t) (hc : t.cr = true) : critL (ts.take (k + 1)) = critL (ts.take k) ++ [⟨t.hi, t.hi, t.du, t.ev, t.cr⟩] := by
  obtain ⟨hk, rfl⟩ := List.getElem?_eq_some_iff.1 h
  rw [List.take_succ_eq_append_getElem hk]
  simp only [critL, List.filter_append, List.map_append, List.filter_cons, hc, if_true, List.filter_nil, List.map_cons, List.map_nil]
theorem critL_no {ts : List Tk} {k : Nat} {t : Tk} (h : ts[k]? = some t) (hc : t.cr = false) : critL (ts.take (k + 1)) = critL (ts.take k) := by
  obtain ⟨hk, rfl⟩ := List.getElem?_eq_some_iff.1 h
  rw [List.take_succ_eq_append_getElem hk]
  simp only [critL, List.filter_append, List.filter_cons, hc, Bool.false_eq_true, if_false, List.filter_nil, List.append_nil]
theorem critL_len (ts : List Tk) : (critL ts).length ≤ ts.length := by
  unfold critL; rw [List.length_map]; exact List.length_filter_le _ _
end Go.Proofs.YthdclaljgimclaaDoor
