/- The places of jobs that need more than their low need, as plain data. -/
import Derived.Test.YtjondedkgkohfaaJb
import Derived.Test.YtjondedkgkohfaaJbB
namespace Go.Proofs.Ytjondedkgkohfaa
open Go.RowKit
set_option linter.unusedVariables false

/-- The places of jobs that need more than their low need. -/
def highI (ts : List Tk) : Nat → List Jb → List Int
  | _, [] => []
  | k, j :: js => (if (tkOf ts j.ta).lo < j.ne then [(k : Int)] else []) ++ highI ts (k + 1) js
def highV (ts : List Tk) (js : List Jb) : List Int := if jobsB ts js then highI ts 0 js else []
theorem high_app (ts : List Tk) : ∀ (xs ys : List Jb) (k : Nat), highI ts k (xs ++ ys) = highI ts k xs ++ highI ts (k + xs.length) ys
  | [], ys, k => by simp [highI]
  | j :: xs, ys, k => by
    rw [List.cons_append, highI, highI, high_app ts xs ys (k + 1), List.append_assoc]
    congr 3
    simp; omega
theorem high_take {ts : List Tk} {js : List Jb} {q : Nat} {j : Jb} (h : js[q]? = some j) : highI ts 0 (js.take (q + 1)) = highI ts 0 (js.take q) ++ if (tkOf ts j.ta).lo < j.ne then [(q : Int)] else [] := by
  have hq := (List.getElem?_eq_some_iff.1 h).1
  rw [List.take_add_one, h, Option.toList_some, high_app]
  congr 1
  rw [List.length_take, Nat.min_eq_left (Nat.le_of_lt hq), Nat.zero_add]
  simp [highI]
theorem high_len (ts : List Tk) : ∀ (js : List Jb) (k : Nat), (highI ts k js).length ≤ js.length
  | [], k => Nat.le_refl _
  | j :: js, k => by
    rw [highI, List.length_append, List.length_cons]
    have := high_len ts js (k + 1)
    split <;> simp <;> omega
theorem cell_new1_at (w : World) (z : Int) (ty : TypeId) (g : Nat) (hg : g = w.heap.size) : ∀ j u, ([Value.int .i64 z])[j]? = some u → (w.alloc (.cells #[.int .i64 z] ty)).cell? ((⟨g, 0, none⟩ : Addr).add j) = some u := by
  subst hg
  intro j u hj
  have ea : (⟨w.heap.size, 0, none⟩ : Addr).add j = ⟨w.heap.size, j, none⟩ := by unfold Addr.add; split <;> simp_all
  rw [ea, (Blk.new w ty _).cell j, ← hj]
  simp

end Go.Proofs.Ytjondedkgkohfaa
