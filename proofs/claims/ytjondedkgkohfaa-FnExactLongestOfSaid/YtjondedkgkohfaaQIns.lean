/- Contracts of slices.Insert and slices.Clone at jobs. -/
import Derived.Test.YtjondedkgkohfaaJb
import Derived.Test.YtjondedkgkohfaaSPu
import Derived.Test.YtjondedkgkohfaaInsert
import Derived.Lib.AppendZerosOnto
namespace Go.Proofs.Ytjondedkgkohfaa
open Go.RowKit
set_option linter.unusedVariables false

def JInsRes (g N B : Nat) (us : List Jb) (w : World) (e : Ending) (w' : World) : Prop :=
  e = .returned (.slice (some ⟨g, 0, none⟩) us.length N) ∧ OwnJ w' B (.slice (some ⟨g, 0, none⟩) us.length N) us ∧ w.grownBy w' (some g)

theorem jown_block {w : World} {B g n N : Nat} {ts : List Jb} (h : OwnJ w B (.slice (some ⟨g, 0, none⟩) n N) ts) :
    n = ts.length ∧ B ≤ g ∧ ∃ cur, w.heap[g]? = some (.cells cur 35 (0, 0)) ∧ n ≤ N ∧ N ≤ maxLen ∧ cur.size = N * 3 ∧ cur.toList.take (n * 3) = ts.flatMap Jb.cells := by
  have hn := h.reads.1
  rcases h.2 with ⟨e, h0⟩ | ⟨g', cap, cur, e, hb, hg, h1, h2, h3, h4⟩
  · cases e
  · injection e with e1 e2 e3
    injection e1 with e1
    injection e1 with e1
    subst e1 e3
    exact ⟨hn, hb, cur, hg, by omega, h2, h3, by rw [hn]; exact h4⟩

theorem jown_of_block {w : World} {B g N : Nat} {ts : List Jb} {cur : Array Value} (hb : B ≤ g) (hg : w.heap[g]? = some (.cells cur 35 (0, 0))) (hn : ts.length ≤ N) (hN : N ≤ maxLen) (hs : cur.size = N * 3)
    (ht : cur.toList.take (ts.length * 3) = ts.flatMap Jb.cells) : OwnJ w B (.slice (some ⟨g, 0, none⟩) ts.length N) ts :=
  ⟨jcells_length ts, .inr ⟨g, N, cur, rfl, hb, hg, hn, hN, hs, ht⟩⟩

theorem jdrop_cells (ts : List Jb) : ∀ i, (ts.flatMap Jb.cells).drop (i * 3) = (ts.drop i).flatMap Jb.cells := by
  induction ts with
  | nil => intro i; simp
  | cons t ts ih =>
    intro i
    cases i with
    | zero => simp
    | succ i =>
      have e : (i + 1) * 3 = t.cells.length + i * 3 := by simp [Jb.cells]; omega
      rw [List.flatMap_cons, e, List.drop_append, List.drop_succ_cons]
      simp [ih]
theorem jtake_cells (ts : List Jb) : ∀ i, (ts.flatMap Jb.cells).take (i * 3) = (ts.take i).flatMap Jb.cells := by
  induction ts with
  | nil => intro i; simp
  | cons t ts ih =>
    intro i
    cases i with
    | zero => simp
    | succ i =>
      have e : (i + 1) * 3 = t.cells.length + i * 3 := by simp [Jb.cells]; omega
      rw [List.flatMap_cons, e, List.take_append, List.take_succ_cons]
      simp [ih]
      exact List.take_of_length_le (by omega)

theorem jinfo_size : (Try.prog.info? 35).map (·.size) = some 3 := by kernel_rfl
theorem sizeOf_job (w : World) : (Go.sizeOf 35).run Try.prog w = .ok 3 w := by
  obtain ⟨i0, hi, hz0, hz1, hz2⟩ := info_parts info_job
  simp [Go.sizeOf, typeInfo, hi, hz1]

theorem jown_row {w : World} {B n : Nat} {v : Value} {ts : List Jb} (h : OwnJ w B v ts) (hn : n = ts.length) : w.ownsRow B 35 3 v n (ts.flatMap Jb.cells) := by subst hn; exact h

theorem OwnJ.drew {w : World} {B : Nat} {v : Value} {js : List Jb} (h : OwnJ w B v js) : OwnJ w.drew B v js := h.below (Below.drew (Below.refl _ _))
theorem OwnJ.drewN {w : World} {B : Nat} {v : Value} {js : List Jb} (h : OwnJ w B v js) (k : Nat) : OwnJ (w.drewN k) B v js := h.below (bl_drewN (Below.refl _ _) k)
theorem gb_drewJ {a b : World} {row : Option Nat} (h : a.grownBy b row) : a.grownBy b.drew row := ⟨h.os, h.tape, h.output, h.size, h.block⟩
theorem gb_drewNJ {a b : World} {row : Option Nat} (h : a.grownBy b row) (n : Nat) : a.grownBy (b.drewN n) row := ⟨h.os, h.tape, h.output, h.size, h.block⟩
theorem gb_belowJ {a w : World} (h : Below a.heap.size a w) (row : Option Nat) : a.grownBy w row := ⟨h.os, h.tape, h.output, h.size, fun i hi _ => h.block i hi⟩
/-- A list of jobs of the call's own (from block B on) as the result; only the row written was there. -/
def JIns (js : List Jb) (B : Nat) (row : Option Nat) (w : World) (e : Ending) (w' : World) : Prop :=
  ∃ (A : Option Addr) (c : Nat), e = .returned (.slice A js.length c) ∧ OwnJ w' B (.slice A js.length c) js ∧ w.grownBy w' row
theorem OwnJ.none_ {w : World} {B n c : Nat} {js : List Jb} (h : OwnJ w B (.slice none n c) js) : n = 0 ∧ c = 0 ∧ js = [] := by
  rcases h.2 with ⟨e, h0⟩ | ⟨g, cap, cur, e, _⟩
  · injection e with e1 e2 e3
    exact ⟨e2, e3, List.eq_nil_of_length_eq_zero h0⟩
  · injection e with e1; cases e1
theorem OwnJ.some_form {w : World} {B n c : Nat} {a : Addr} {js : List Jb} (h : OwnJ w B (.slice (some a) n c) js) : ∃ g, a = ⟨g, 0, none⟩ := by
  rcases h.2 with ⟨e, h0⟩ | ⟨g, cap, cur, e, _⟩
  · injection e with e1; cases e1
  · injection e with e1; injection e1 with e1; exact ⟨g, e1⟩
theorem OwnJ.len_ {w : World} {B n c : Nat} {A : Option Addr} {js : List Jb} (h : OwnJ w B (.slice A n c) js) : n = js.length := h.reads.1
theorem jnews (w : World) (vb : Nat) (t : Jb) (hv : Blk w vb 35 #[.int .i64 t.ta, .int .i64 t.tm, .int .i64 t.ne]) : ∀ j u, t.cells[j]? = some u → w.cell? ((⟨vb, 0, none⟩ : Addr).add j) = some u := by
  intro j u hj
  have ea : (⟨vb, 0, none⟩ : Addr).add j = ⟨vb, j, none⟩ := by unfold Addr.add; split <;> simp_all
  rw [ea, hv.cell j, ← hj]
  simp [Jb.cells]
theorem jzero_size : (Try.prog.info? 35).map (fun i => (i.zero, i.size, i.bytes)) = some (some (.agg #[.int .i64 0, .int .i64 0, .int .i64 0]), 3, 24) := info_job
/-- The row behind the two copies, where a new one was made. -/
theorem ins_row_new {X Y Z O : List Value} {a b n : Nat} (hX : X.length = n) (ha : a ≤ n) (hY : Y.length = b) (hO : O = X.take a) (hZ : n - a + b ≤ Z.length) :
    (((((O ++ Z).take a ++ Y ++ (O ++ Z).drop (a + Y.length)).take (a + b)) ++ X.drop a ++ (((O ++ Z).take a ++ Y ++ (O ++ Z).drop (a + Y.length)).drop (a + b + (X.drop a).length))).take (n + b)) = X.take a ++ Y ++ X.drop a := by
  subst hO
  have htl : (X.take a).length = a := by rw [List.length_take]; omega
  have hdl : (X.drop a).length = n - a := by rw [List.length_drop, hX]
  have e1 : (X.take a ++ Z).take a = X.take a := by rw [List.take_append_of_le_length (by omega), List.take_of_length_le (by omega)]
  rw [e1]
  have e2 : ((X.take a ++ Y ++ (X.take a ++ Z).drop (a + Y.length)).take (a + b)) = X.take a ++ Y := by
    rw [List.take_append_of_le_length (by simp only [List.length_append]; omega), List.take_of_length_le (by simp only [List.length_append]; omega)]
  rw [e2, List.take_append_of_le_length (by simp only [List.length_append]; omega), List.take_of_length_le (by simp only [List.length_append]; omega)]
end Go.Proofs.Ytjondedkgkohfaa
