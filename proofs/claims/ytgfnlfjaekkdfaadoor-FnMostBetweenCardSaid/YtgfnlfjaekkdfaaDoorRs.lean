/- Contracts of RaiseAll, the reference's and the program's. Nothing that was there is written. -/
import Derived.Test.YtgfnlfjaekkdfaaDoorTcl
namespace Go.Proofs.YtgfnlfjaekkdfaaDoor
open Go.RowKit
set_option linter.unusedVariables false

/-- A task whose needs are raised. -/
def raiseT (d : Int) (t : Tk) : Tk := ⟨t.lo + d, t.hi + d, t.du, t.ev, t.cr⟩
def raiseL (ts : List Tk) (d : Int) : List Tk := ts.map (raiseT d)
def ticksB (d : Int) : Bool := decide (-20 ≤ d) && decide (d ≤ 20)
def raiseB (ts : List Tk) (d : Int) : Bool := setB ts && (ticksB d && setB (raiseL ts d))
theorem raiseL_len (ts : List Tk) (d : Int) : (raiseL ts d).length = ts.length := List.length_map _
theorem set_small {ts : List Tk} (h : setB ts = true) {k : Nat} {t : Tk} (ht : ts[k]? = some t) : (1 ≤ t.lo ∧ t.lo ≤ 20) ∧ (1 ≤ t.hi ∧ t.hi ≤ 20) := by
  unfold setB at h
  rw [Bool.and_eq_true, List.all_eq_true] at h
  have := h.2 t (List.mem_of_getElem? ht)
  obtain ⟨lo, hi, du, ev, cr⟩ := t
  unfold Tk.ok validB at this
  cases cr <;> simp at this <;> (dsimp only; omega)
/-- The list with the first k tasks raised. -/
def raisedK (ts : List Tk) (d : Int) (k : Nat) : List Tk := raiseL (ts.take k) d ++ ts.drop k
theorem raisedK_zero (ts : List Tk) (d : Int) : raisedK ts d 0 = ts := by simp [raisedK, raiseL]
theorem raisedK_all (ts : List Tk) (d : Int) : raisedK ts d ts.length = raiseL ts d := by simp [raisedK]
theorem raisedK_len (ts : List Tk) (d : Int) (k : Nat) : (raisedK ts d k).length = ts.length := by
  rw [raisedK, List.length_append, raiseL_len, List.length_take, List.length_drop]; omega
theorem raisedK_at {ts : List Tk} {d : Int} {k : Nat} {t : Tk} (ht : ts[k]? = some t) : (raisedK ts d k)[k]? = some t := by
  obtain ⟨hk, _⟩ := List.getElem?_eq_some_iff.1 ht
  rw [raisedK, List.getElem?_append_right (by rw [raiseL_len, List.length_take]; omega), raiseL_len, List.length_take, List.getElem?_drop]
  rw [show k + (k - min k ts.length) = k by omega]
  exact ht
theorem raisedK_step {ts : List Tk} {d : Int} {k : Nat} {t : Tk} (ht : ts[k]? = some t) : (raisedK ts d k).set k (raiseT d t) = raisedK ts d (k + 1) := by
  obtain ⟨hk, rfl⟩ := List.getElem?_eq_some_iff.1 ht
  have hl : (raiseL (ts.take k) d).length = k := by rw [raiseL_len, List.length_take]; omega
  rw [raisedK, raisedK, List.set_append_right _ _ (by omega), hl, Nat.sub_self, List.drop_eq_getElem_cons hk, List.set_cons_zero, List.take_succ_eq_append_getElem hk]
  simp only [raiseL, List.map_append, List.map_cons, List.map_nil, List.append_assoc, List.cons_append, List.nil_append]
theorem raiseL_step {ts : List Tk} {d : Int} {k : Nat} {t : Tk} (ht : ts[k]? = some t) : raiseL (ts.take (k + 1)) d = raiseL (ts.take k) d ++ [raiseT d t] := by
  obtain ⟨hk, rfl⟩ := List.getElem?_eq_some_iff.1 ht
  rw [List.take_succ_eq_append_getElem hk]
  simp only [raiseL, List.map_append, List.map_cons, List.map_nil]

theorem set_low (ts : List Tk) : ∀ (k : Nat) (t : Tk) (z : Int), ts[k]? = some t →
    (ts.flatMap Tk.cells).set (k * 5) (.int .i64 z) = (ts.set k { t with lo := z }).flatMap Tk.cells := by
  induction ts with
  | nil => intro k t z h; simp at h
  | cons a ts ih =>
    intro k t z h
    cases k with
    | zero =>
      simp at h
      subst h
      simp [List.flatMap_cons, Tk.cells]
    | succ k =>
      have e0 : (k + 1) * 5 = k * 5 + 5 := by omega
      simp only [List.flatMap_cons, Tk.cells, List.set_cons_succ, e0, List.cons_append, List.nil_append]
      rw [← ih k t z (by simpa using h)]
theorem set_high (ts : List Tk) : ∀ (k : Nat) (t : Tk) (z : Int), ts[k]? = some t →
    (ts.flatMap Tk.cells).set (k * 5 + 1) (.int .i64 z) = (ts.set k { t with hi := z }).flatMap Tk.cells := by
  induction ts with
  | nil => intro k t z h; simp at h
  | cons a ts ih =>
    intro k t z h
    cases k with
    | zero =>
      simp at h
      subst h
      simp [List.flatMap_cons, Tk.cells]
    | succ k =>
      have e0 : (k + 1) * 5 + 1 = k * 5 + 1 + 5 := by omega
      simp only [List.flatMap_cons, Tk.cells, List.set_cons_succ, e0, List.cons_append, List.nil_append]
      rw [← ih k t z (by simpa using h)]
theorem Own.low {w : World} {B h n c : Nat} {ts : List Tk} (ho : Own w B (.slice (some ⟨h, 0, none⟩) n c) ts) (k : Nat) (t : Tk) (z : Int) (ht : ts[k]? = some t) :
    Own (w.setCell ⟨h, k * 5, none⟩ (.int .i64 z)) B (.slice (some ⟨h, 0, none⟩) n c) (ts.set k { t with lo := z }) := by
  have hn := ho.reads.1
  subst hn
  have h5 := (World.ownsRow.stored ho (k * 5) (.int .i64 z)).1
  unfold Own
  rw [List.length_set, ← set_low ts k t z ht]
  exact h5
theorem Own.high {w : World} {B h n c : Nat} {ts : List Tk} (ho : Own w B (.slice (some ⟨h, 0, none⟩) n c) ts) (k : Nat) (t : Tk) (z : Int) (ht : ts[k]? = some t) :
    Own (w.setCell ⟨h, k * 5 + 1, none⟩ (.int .i64 z)) B (.slice (some ⟨h, 0, none⟩) n c) (ts.set k { t with hi := z }) := by
  have hn := ho.reads.1
  subst hn
  have h5 := (World.ownsRow.stored ho (k * 5 + 1) (.int .i64 z)).1
  unfold Own
  rw [List.length_set, ← set_high ts k t z ht]
  exact h5
theorem raise_two {ts : List Tk} {d : Int} {k : Nat} {lo hi du ev : Int} {cr : Bool} (ht : ts[k]? = some ⟨lo, hi, du, ev, cr⟩) :
    ((raisedK ts d k).set k ⟨lo + d, hi, du, ev, cr⟩).set k ⟨lo + d, hi + d, du, ev, cr⟩ = raisedK ts d (k + 1) := by
  rw [List.set_set]
  exact raisedK_step ht

end Go.Proofs.YtgfnlfjaekkdfaaDoor
