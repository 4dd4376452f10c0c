/- Contracts of what the reference draws as a list of tasks, some of them wrong. -/
import Derived.Test.YtjondedkgkohfaaList
namespace Go.Proofs.Ytjondedkgkohfaa
open Go.RowKit

def sliceLen : Value → Nat
  | .slice _ n _ => n
  | _ => 0

theorem set_cells (ts : List Tk) : ∀ (k : Nat) (t : Tk), k < ts.length →
    (((((ts.flatMap Tk.cells).set (k * 5) (.int .i64 t.lo)).set (k * 5 + 1) (.int .i64 t.hi)).set (k * 5 + 2) (.int .i64 t.du)).set (k * 5 + 3) (.int .i64 t.ev)).set (k * 5 + 4) (.bool t.cr) = (ts.set k t).flatMap Tk.cells := by
  induction ts with
  | nil => intro k t h; simp at h
  | cons a ts ih =>
    intro k t h
    cases k with
    | zero => simp [List.flatMap_cons, Tk.cells]
    | succ k =>
      have e0 : (k + 1) * 5 = k * 5 + 5 := by omega
      simp only [List.flatMap_cons, Tk.cells, List.set_cons_succ, e0, List.cons_append, List.nil_append]
      rw [← ih k t (by simpa using h)]

theorem Own.put {w : World} {B h n c : Nat} {ts : List Tk} (ho : Own w B (.slice (some ⟨h, 0, none⟩) n c) ts) (k : Nat) (t : Tk) (hk : k < ts.length) :
    Own (((((w.setCell ⟨h, k * 5, none⟩ (.int .i64 t.lo)).setCell ⟨h, k * 5 + 1, none⟩ (.int .i64 t.hi)).setCell ⟨h, k * 5 + 2, none⟩ (.int .i64 t.du)).setCell ⟨h, k * 5 + 3, none⟩ (.int .i64 t.ev)).setCell ⟨h, k * 5 + 4, none⟩ (.bool t.cr)) B (.slice (some ⟨h, 0, none⟩) n c) (ts.set k t) := by
  have hn := ho.reads.1
  subst hn
  have h5 := (((((World.ownsRow.stored ho (k * 5) (.int .i64 t.lo)).1.stored (k * 5 + 1) (.int .i64 t.hi)).1.stored (k * 5 + 2) (.int .i64 t.du)).1.stored (k * 5 + 3) (.int .i64 t.ev)).1.stored (k * 5 + 4) (.bool t.cr)).1
  unfold Own
  rw [List.length_set, ← set_cells ts k t hk]
  exact h5

theorem mem_set_small {ts : List Tk} {k : Nat} {t : Tk} {P : Tk → Prop} (h : ∀ t ∈ ts, P t) (ht : P t) : ∀ x ∈ ts.set k t, P x := fun x hx => by
  rcases List.mem_or_eq_of_mem_set hx with h1 | h1
  · exact h x h1
  · rw [h1]; exact ht

def DrewList (m : Nat) (good : Tk → Prop) (w : World) (e : Ending) (w' : World) : Prop :=
  ∃ (A : Option Addr) (c : Nat) (ts : List Tk), e = .returned (.slice A ts.length c) ∧ ts.length ≤ m ∧ (∀ t ∈ ts, good t) ∧ Own w' w.heap.size (.slice A ts.length c) ts ∧ Below w.heap.size w w'

end Go.Proofs.Ytjondedkgkohfaa
