/- Lists of tasks of the call's own: the empty one, what is kept, results. -/
import Derived.Test.YtjondedkgkohfaaList
namespace Go.Proofs.Ytjondedkgkohfaa
open Go.RowKit

theorem setB_len {ts : List Tk} (h : setB ts = true) : ts.length ≤ 5 := by
  unfold setB at h; simp at h; exact h.1
/-- A list of tasks as the result: in memory of its own; nothing that was there is written. -/
def LsRes (ts : List Tk) (w : World) (e : Ending) (w' : World) : Prop :=
  ∃ (A : Option Addr) (c : Nat), e = .returned (.slice A ts.length c) ∧ Own w' w.heap.size (.slice A ts.length c) ts ∧ Below w.heap.size w w'
theorem Own.nil_ (w : World) (B : Nat) : Own w B (.slice none 0 0) [] := ⟨rfl, .inl ⟨rfl, rfl⟩⟩
theorem lsRes_of {w w' : World} {v : Value} {ts ts' : List Tk} (ho : Own w' w.heap.size v ts) (hb : Below w.heap.size w w') (he : ts = ts') : LsRes ts' w (.returned v) w' := by
  subst he
  obtain ⟨A, c, rfl⟩ := ho.form
  exact ⟨A, c, rfl, ho, hb⟩
theorem Own.empty (w : World) : Own (w.alloc (.cells #[] 73)) w.heap.size (.slice (some ⟨w.heap.size, 0, none⟩) 0 0) [] :=
  ⟨rfl, .inr ⟨w.heap.size, 0, #[], rfl, Nat.le_refl _, heap_alloc_new w _, Nat.le_refl _, Nat.zero_le _, rfl, rfl⟩⟩
theorem Own.below {w w' : World} {B : Nat} {v : Value} {ts : List Tk} (h : Own w B v ts) (hb : Below w.heap.size w w') : Own w' B v ts :=
  h.kept (row := none) ⟨hb.os, hb.tape, hb.output, hb.size, fun k hk _ => hb.block k hk⟩ (fun k e => by cases e)
theorem own_more {w : World} {B B' : Nat} {v : Value} {ts : List Tk} (h : Own w B v ts) (hB : B' ≤ B) : Own w B' v ts := by
  refine ⟨h.1, ?_⟩
  rcases h.2 with h | ⟨g, cap, cur, e, hb, rest⟩
  · exact .inl h
  · exact .inr ⟨g, cap, cur, e, Nat.le_trans hB hb, rest⟩

end Go.Proofs.Ytjondedkgkohfaa
