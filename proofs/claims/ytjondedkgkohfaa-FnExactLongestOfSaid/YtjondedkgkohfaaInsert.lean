/- Contract of slices.Insert at a list of tasks with room for one more: the task comes at its place, the row stays where it is. -/
import Derived.Test.YtjondedkgkohfaaList
import Derived.Laws.CopyRow
import Derived.Laws.Externs
import Derived.Lib.Overlaps
import Derived.Deep.RegionLaw
namespace Go.Proofs.Ytjondedkgkohfaa
open Go.RowKit

/-- copy at elements of k cells, into a row that is known whole. -/
theorem run_copy_k {P : Program} (w : World) (dT sT ty elem : TypeId) (k g o dLen dCap : Nat) (a : Addr) (sLen sCap m : Nat) (cur : Array Value) (t : TypeId) (cs : List Value)
    (hu : P.underlying dT = some (.slice elem)) (hs : (P.info? elem).map (·.size) = some k)
    (hg : w.heap[g]? = some (.cells cur t (0, 0))) (hm : m = Nat.min sLen dLen) (hn : cs.length = m * k)
    (hsrc : ∀ j v, cs[j]? = some v → w.cell? (a.add j) = some v) (hfit : o + cs.length ≤ cur.size) (h1 : ∀ v ∈ cs, v.oneCell' = true) :
    (Builtin.copy_ #[dT, sT] ty #[.slice (some ⟨g, o, none⟩) dLen dCap, .slice (some a) sLen sCap]).run P w =
      .ok (goInt m) (w.setRow g (cur.toList.take o ++ cs ++ cur.toList.drop (o + cs.length)).toArray) := by
  have hl := run_loadCells_list (P := P) w a cs hsrc
  have hst := run_storeCells_at P g o t cs 0 cur w hg (by simpa using hfit) h1
  cases hq : P.info? elem with
  | none => simp [hq] at hs
  | some i =>
    have hi : i.size = k := by simpa [hq] using hs
    rw [hn] at hl
    simp [Builtin.copy_, run_underlying hu, Builtin.lenOf, Builtin.firstCells, sizeOf, typeInfo, hq, hi, ← hm, hl, hst]

theorem wpList_copy_run {P : Program} (w : World) {ops : Array Oper} {rest : List Oper} {o : Oper} {a : Act} {Q : Exit → Act → World → Prop} (hgd : o.guard = none) (d s : Operand) (t t' : TypeId)
    (ho : o.op = .call { callee := .builtin .copy, args := #[d, s], argTypes := #[t, t'] }) (v u : Value) (hd : a.eval d = v) (hs : a.eval s = u) {v' : Value} {w' : World}
    (hr : (Builtin.copy_ #[t, t'] o.type #[v, u]).run P w = .ok v' w') (h : wpList P ops Q rest (a.put o.dst v') w') : wpList P ops Q (o :: rest) a w :=
  wpList_plain hgd fun _ hK => by
    unfold Oper.wp execOp
    simp only [ho, resolve, invoke, builtin, Sem.run_bind, Sem.run_pure, Result.andThen_ok, List.map_toArray, List.map_cons, List.map_nil, hd, hs, hr]
    exact hK _ _ h

theorem step_copy_run {P : Program} {ops : Array Oper} {o : Oper} {a : Act} {w : World} {K : Act → World → Prop} {Q : Exit → Act → World → Prop} {E : Prop}
    (hg : o.guard = none) (d x : Operand) (dT sT : TypeId) (hop : o.op = Op.call { callee := Callee.builtin Builtin.copy, args := #[d, x], argTypes := #[dT, sT] })
    (v u : Value) (hd : a.eval d = v) (hx : a.eval x = u) {v' : Value} {w' : World} (hr : (Builtin.copy_ #[dT, sT] o.type #[v, u]).run P w = .ok v' w') (hK : K (a.put o.dst v') w') :
    if Region.wanted o (yielded ops a.tmps) = true then Oper.wp P o a w K Q else E := by
  have hw : Region.wanted o (yielded ops a.tmps) = true := by simp [Region.wanted, hg]
  rw [if_pos hw]
  unfold Oper.wp
  simp [execOp, hop, resolve, invoke, builtin, hd, hx, hr, Result.andThen]
  exact hK

def InsRes (g N B : Nat) (us : List Tk) (w : World) (e : Ending) (w' : World) : Prop :=
  e = .returned (.slice (some ⟨g, 0, none⟩) us.length N) ∧ Own w' B (.slice (some ⟨g, 0, none⟩) us.length N) us ∧ w.grownBy w' (some g)

theorem own_block {w : World} {B g n N : Nat} {ts : List Tk} (h : Own w B (.slice (some ⟨g, 0, none⟩) n N) ts) :
    n = ts.length ∧ B ≤ g ∧ ∃ cur, w.heap[g]? = some (.cells cur 73 (0, 0)) ∧ n ≤ N ∧ N ≤ maxLen ∧ cur.size = N * 5 ∧ cur.toList.take (n * 5) = ts.flatMap Tk.cells := by
  have hn := h.reads.1
  rcases h.2 with ⟨e, h0⟩ | ⟨g', cap, cur, e, hb, hg, h1, h2, h3, h4⟩
  · cases e
  · injection e with e1 e2 e3
    injection e1 with e1
    injection e1 with e1
    subst e1 e3
    exact ⟨hn, hb, cur, hg, by omega, h2, h3, by rw [hn]; exact h4⟩

theorem own_of_block {w : World} {B g N : Nat} {ts : List Tk} {cur : Array Value} (hb : B ≤ g) (hg : w.heap[g]? = some (.cells cur 73 (0, 0))) (hn : ts.length ≤ N) (hN : N ≤ maxLen) (hs : cur.size = N * 5)
    (ht : cur.toList.take (ts.length * 5) = ts.flatMap Tk.cells) : Own w B (.slice (some ⟨g, 0, none⟩) ts.length N) ts :=
  ⟨cells_length ts, .inr ⟨g, N, cur, rfl, hb, hg, hn, hN, hs, ht⟩⟩

theorem gb_setRow (w : World) (g : Nat) (cs : Array Value) : w.grownBy (w.setRow g cs) (some g) :=
  ⟨rfl, rfl, rfl, by simp, fun k _ hne => setRow_other w g k cs (fun e => hne (by rw [e]))⟩

theorem drop_cells (ts : List Tk) : ∀ i, (ts.flatMap Tk.cells).drop (i * 5) = (ts.drop i).flatMap Tk.cells := by
  induction ts with
  | nil => intro i; simp
  | cons t ts ih =>
    intro i
    cases i with
    | zero => simp
    | succ i =>
      have e : (i + 1) * 5 = t.cells.length + i * 5 := by simp [Tk.cells]; omega
      rw [List.flatMap_cons, e, List.drop_append, List.drop_succ_cons]
      simp [ih]
theorem take_cells (ts : List Tk) : ∀ i, (ts.flatMap Tk.cells).take (i * 5) = (ts.take i).flatMap Tk.cells := by
  induction ts with
  | nil => intro i; simp
  | cons t ts ih =>
    intro i
    cases i with
    | zero => simp
    | succ i =>
      have e : (i + 1) * 5 = t.cells.length + i * 5 := by simp [Tk.cells]; omega
      rw [List.flatMap_cons, e, List.take_append, List.take_succ_cons]
      simp [ih]
      exact List.take_of_length_le (by omega)

/-- The row behind the two copies. -/
theorem ins_row {L X Y : List Value} {a b n : Nat} (hX : L.take n = X) (hn : n ≤ L.length) (ha : a ≤ n) (hY : Y.length = b) (hfit : n + b ≤ L.length) :
    ((((L.take (a + b) ++ X.drop a ++ L.drop (a + b + (X.drop a).length)).take a) ++ Y ++ ((L.take (a + b) ++ X.drop a ++ L.drop (a + b + (X.drop a).length)).drop (a + Y.length))).take (n + b)) = X.take a ++ Y ++ X.drop a := by
  have hXl : X.length = n := by rw [← hX, List.length_take]; omega
  have hdl : (X.drop a).length = n - a := by rw [List.length_drop, hXl]
  have e1 : (L.take (a + b) ++ X.drop a ++ L.drop (a + b + (X.drop a).length)).take a = X.take a := by
    rw [List.append_assoc, List.take_append_of_le_length (by rw [List.length_take]; omega), List.take_take, ← hX, List.take_take]
    congr 1
    omega
  have e2 : (L.take (a + b) ++ X.drop a ++ L.drop (a + b + (X.drop a).length)).drop (a + Y.length) = X.drop a ++ L.drop (a + b + (X.drop a).length) := by
    rw [hY, List.append_assoc, List.drop_append_of_le_length (by rw [List.length_take]; omega), List.drop_eq_nil_of_le (by rw [List.length_take]; omega), List.nil_append]
  rw [e1, e2, ← List.append_assoc, List.take_append_of_le_length (by simp only [List.length_append, List.length_take, hdl, hXl]; omega), List.take_of_length_le (by simp only [List.length_append, List.length_take, hdl, hXl]; omega)]

theorem info_size : (Try.prog.info? 73).map (·.size) = some 5 := by kernel_rfl
theorem sizeOf_task (w : World) : (Go.sizeOf 73).run Try.prog w = .ok 5 w := by
  obtain ⟨i0, hi, hz0, hz1, hz2⟩ := info_parts info_task
  simp [Go.sizeOf, typeInfo, hi, hz1]

theorem own_row {w : World} {B n : Nat} {v : Value} {ts : List Tk} (h : Own w B v ts) (hn : n = ts.length) : w.ownsRow B 73 5 v n (ts.flatMap Tk.cells) := by subst hn; exact h

end Go.Proofs.Ytjondedkgkohfaa
