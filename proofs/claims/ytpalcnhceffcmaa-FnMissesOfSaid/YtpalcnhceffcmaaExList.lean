/- Contracts of what the exact laws do with lists: count, copy, compare, mark, and look at the marks again. -/
import Derived.Test.YtpalcnhceffcmaaToTask
import Derived.Test.YtpalcnhceffcmaaNA
import Derived.Deep.RegionHeld3
namespace Go.Proofs.Ytpalcnhceffcmaa
open Go.RowKit

theorem Own.frozen {w : World} {B g n c : Nat} {ts : List Tk} (h : Own w B (.slice (some ⟨g, 0, none⟩) n c) ts) : ∀ i, w.frozen? ⟨g, i, none⟩ = false := by
  have hn := h.reads.1
  subst hn
  exact World.ownsRow.frozenAt h

def zeroTk : Tk := ⟨0, 0, 0, 0, false⟩

theorem info_zero : zeroTk.cells = [.int .i64 0, .int .i64 0, .int .i64 0, .int .i64 0, .bool false] := rfl

theorem zero_cells (n : Nat) : (madeCells (Value.agg #[.int .i64 0, .int .i64 0, .int .i64 0, .int .i64 0, .bool false]).cells (n * 5)).toList = (List.replicate n zeroTk).flatMap Tk.cells := by
  have hl : ∀ m : Nat, (List.replicate m zeroTk).flatMap Tk.cells = (List.range (m * 5)).map fun j => if j % 5 = 4 then Value.bool false else .int .i64 0 := by
    intro m
    induction m with
    | zero => rfl
    | succ m ih =>
      rw [List.replicate_succ', List.flatMap_append, ih]
      have e : (m + 1) * 5 = m * 5 + 1 + 1 + 1 + 1 + 1 := by omega
      rw [e, List.range_succ, List.range_succ, List.range_succ, List.range_succ, List.range_succ]
      have q0 : ¬ (m * 5) % 5 = 4 := by omega
      have q1 : ¬ (m * 5 + 1) % 5 = 4 := by omega
      have q2 : ¬ (m * 5 + 1 + 1) % 5 = 4 := by omega
      have q3 : ¬ (m * 5 + 1 + 1 + 1) % 5 = 4 := by omega
      have q4 : (m * 5 + 1 + 1 + 1 + 1) % 5 = 4 := by omega
      simp only [List.map_append, List.map_cons, List.map_nil, q0, q1, q2, q3, q4, if_true, if_false, List.append_assoc, List.flatMap_cons, List.flatMap_nil, List.append_nil]
      rfl
  rw [hl]
  have hz : (Value.agg #[.int .i64 0, .int .i64 0, .int .i64 0, .int .i64 0, .bool false]).cells = #[.int .i64 0, .int .i64 0, .int .i64 0, .int .i64 0, .bool false] := rfl
  unfold madeCells
  rw [hz, Array.toList_map, Array.toList_range]
  refine List.map_congr_left fun j _ => ?_
  show (#[Value.int .i64 0, .int .i64 0, .int .i64 0, .int .i64 0, .bool false])[j % 5]! = _
  rcases (by omega : j % 5 = 0 ∨ j % 5 = 1 ∨ j % 5 = 2 ∨ j % 5 = 3 ∨ j % 5 = 4) with h | h | h | h | h <;> rw [h] <;> rfl

/-- The list of the laws' own tasks reads as the tasks ts (of another type of the same fields). -/
theorem take_put {ts : List Tk} {k : Nat} {t : Tk} (h : ts[k]? = some t) : (ts.take k ++ List.replicate (ts.length - k) zeroTk).set k t = ts.take (k + 1) ++ List.replicate (ts.length - (k + 1)) zeroTk := by
  obtain ⟨hk, rfl⟩ := List.getElem?_eq_some_iff.1 h
  rw [List.take_succ_eq_append_getElem hk]
  have e : ts.length - k = (ts.length - (k + 1)) + 1 := by omega
  rw [e, List.replicate_succ, List.set_append_right _ _ (by rw [List.length_take]; omega)]
  have e2 : k - (ts.take k).length = 0 := by rw [List.length_take]; omega
  rw [e2, List.set_cons_zero, List.append_assoc]
  rfl

end Go.Proofs.Ytpalcnhceffcmaa
