/- Lists of jobs in memory: read, of the call's own. -/
import Derived.Test.YtjondedkgkohfaaJbA
import Derived.Test.YtjondedkgkohfaaZm
namespace Go.Proofs.Ytjondedkgkohfaa
open Go.RowKit
set_option linter.unusedVariables false

def Jb.cells (j : Jb) : List Value := [.int .i64 j.ta, .int .i64 j.tm, .int .i64 j.ne]
theorem info_job : (Try.prog.info? 35).map (fun i => (i.zero, i.size, i.bytes)) = some (some (.agg #[.int .i64 0, .int .i64 0, .int .i64 0]), 3, 24) := by kernel_rfl
/-- At (b, o) lies the job j. -/
structure JbAt (w : World) (b o : Nat) (j : Jb) : Prop where
  c0 : w.cell? ⟨b, o, none⟩ = some (.int .i64 j.ta)
  c1 : w.cell? ⟨b, o + 1, none⟩ = some (.int .i64 j.tm)
  c2 : w.cell? ⟨b, o + 2, none⟩ = some (.int .i64 j.ne)
/-- The slice (A, n) reads as the jobs js; it lies below block B. -/
structure Jbs (w : World) (B : Nat) (A : Option Addr) (n : Nat) (js : List Jb) : Prop where
  len : js.length = n
  at_ : ∀ i j, js[i]? = some j → ∃ b o, A = some ⟨b, o, none⟩ ∧ b < B ∧ JbAt w b (o + i * 3) j
theorem JbAt.keep {w w' : World} {b o : Nat} {j : Jb} (h : JbAt w b o j) (hk : ∀ i, w'.cell? ⟨b, i, none⟩ = w.cell? ⟨b, i, none⟩) : JbAt w' b o j :=
  ⟨(hk _).trans h.c0, (hk _).trans h.c1, (hk _).trans h.c2⟩
theorem Jbs.keep {w w' : World} {B : Nat} {A : Option Addr} {n : Nat} {js : List Jb} (h : Jbs w B A n js) (hk : ∀ b i, b < B → w'.cell? ⟨b, i, none⟩ = w.cell? ⟨b, i, none⟩) : Jbs w' B A n js :=
  ⟨h.len, fun i j hj => by
    obtain ⟨b, o, e, hb, hc⟩ := h.at_ i j hj
    exact ⟨b, o, e, hb, hc.keep fun i => hk b i hb⟩⟩
theorem Jbs.below {w w' : World} {B : Nat} {A : Option Addr} {n : Nat} {js : List Jb} (h : Jbs w B A n js) (hb : Below B w w') : Jbs w' B A n js :=
  h.keep fun b i hbB => hb.cell (p := ⟨b, i, none⟩) hbB
theorem Jbs.more {w : World} {B B' : Nat} {A : Option Addr} {n : Nat} {js : List Jb} (h : Jbs w B A n js) (hB : B ≤ B') : Jbs w B' A n js :=
  ⟨h.len, fun i j hj => by
    obtain ⟨b, o, e, hb, hc⟩ := h.at_ i j hj
    exact ⟨b, o, e, by omega, hc⟩⟩
theorem Jbs.get {w : World} {B b o n : Nat} {js : List Jb} (h : Jbs w B (some ⟨b, o, none⟩) n js) {i : Nat} {j : Jb} (hj : js[i]? = some j) : b < B ∧ JbAt w b (o + i * 3) j := by
  obtain ⟨b', o', e, hb, hc⟩ := h.at_ i j hj
  injection e with e
  injection e with e1 e2
  subst e1 e2
  exact ⟨hb, hc⟩
theorem Jbs.take {w : World} {B : Nat} {A : Option Addr} {n k : Nat} {js : List Jb} (h : Jbs w B A n js) (hk : k ≤ n) : Jbs w B A k (js.take k) :=
  ⟨by rw [List.length_take, h.len]; omega, fun i j hj => h.at_ i j (by
    rw [List.getElem?_take] at hj
    split at hj
    · exact hj
    · cases hj)⟩
theorem Jbs.drop {w : World} {B b o : Nat} {n k m : Nat} {js : List Jb} (h : Jbs w B (some ⟨b, o, none⟩) n js) (hm : m = o + k * 3) : Jbs w B (some ⟨b, m, none⟩) (n - k) (js.drop k) :=
  ⟨by rw [List.length_drop, h.len], fun i j hj => by
    rw [List.getElem?_drop] at hj
    obtain ⟨hb, hc⟩ := h.get hj
    subst hm
    exact ⟨b, _, rfl, hb, by rw [show o + k * 3 + i * 3 = o + (k + i) * 3 by omega]; exact hc⟩⟩
theorem Jbs.nil (w : World) (B : Nat) (A : Option Addr) : Jbs w B A 0 [] := ⟨rfl, fun i j h => by simp at h⟩

/-- The slice value v is the call's own (a block from B on) and holds the jobs js. -/
def OwnJ (w : World) (B : Nat) (v : Value) (js : List Jb) : Prop := w.ownsRow B 35 3 v js.length (js.flatMap Jb.cells)
theorem jcells_length (js : List Jb) : (js.flatMap Jb.cells).length = js.length * 3 := by
  induction js with
  | nil => rfl
  | cons t ts ih => simp [List.flatMap_cons, Jb.cells, ih]; omega
theorem jcells_one (js : List Jb) : ∀ u ∈ js.flatMap Jb.cells, u.oneCell' = true := by
  intro u hu
  simp only [List.mem_flatMap, Jb.cells] at hu
  obtain ⟨t, _, h⟩ := hu
  simp at h
  rcases h with rfl | rfl | rfl <;> rfl
theorem jcells_get (ts : List Jb) : ∀ (i : Nat) (t : Jb), ts[i]? = some t → ∀ (j : Nat), j < 3 → (ts.flatMap Jb.cells)[i * 3 + j]? = t.cells[j]? := by
  induction ts with
  | nil => intro i t h; simp at h
  | cons a ts ih =>
    intro i t h j hj
    cases i with
    | zero =>
      simp at h
      subst h
      rw [List.flatMap_cons, List.getElem?_append_left (by simp [Jb.cells]; omega)]
      simp
    | succ i =>
      rw [List.flatMap_cons, List.getElem?_append_right (by simp [Jb.cells]; omega)]
      have e : (i + 1) * 3 + j - a.cells.length = i * 3 + j := by simp [Jb.cells]; omega
      rw [e]
      exact ih i t (by simpa using h) j hj
theorem OwnJ.reads {w : World} {B : Nat} {A : Option Addr} {n c : Nat} {ts : List Jb} (h : OwnJ w B (.slice A n c) ts) : n = ts.length ∧ Jbs w w.heap.size A n ts := by
  have hn : n = ts.length := by
    rcases h.2 with ⟨e, h0⟩ | ⟨g, cap, cur, e, _⟩
    · injection e; omega
    · injection e
  refine ⟨hn, hn.symm, fun i t ht => ?_⟩
  have hi : i < ts.length := (List.getElem?_eq_some_iff.1 ht).1
  rcases h.2 with ⟨e, h0⟩ | ⟨g, cap, cur, e, _, hg, _⟩
  · omega
  · injection e with e1 e2 e3
    subst e1
    have hlt : g < w.heap.size := by
      rcases Nat.lt_or_ge g w.heap.size with hlt | hge
      · exact hlt
      · rw [Array.getElem?_eq_none hge] at hg; cases hg
    have hc := h.cells (g := g) rfl
    have at_ : ∀ j u, j < 3 → t.cells[j]? = some u → w.cell? ⟨g, i * 3 + j, none⟩ = some u := by
      intro j u hj hu
      have := hc (i * 3 + j) u (by rw [jcells_get ts i t ht j hj]; exact hu)
      have ea : (⟨g, 0, none⟩ : Addr).add (i * 3 + j) = ⟨g, i * 3 + j, none⟩ := by unfold Addr.add; split <;> simp_all
      rwa [ea] at this
    refine ⟨g, 0, rfl, hlt, ?_⟩
    rw [Nat.zero_add]
    exact ⟨at_ 0 _ (by omega) rfl, at_ 1 _ (by omega) rfl, at_ 2 _ (by omega) rfl⟩
theorem OwnJ.kept {w w' : World} {B : Nat} {v : Value} {ts : List Jb} {row : Option Nat} (h : OwnJ w B v ts) (hg : w.grownBy w' row) (hr : ∀ k, row = some k → k < B) : OwnJ w' B v ts := by
  refine World.ownsRow.kept h hg ?_
  rcases he : v.ownBlock with _ | k
  · exact .inl rfl
  · right
    intro e
    have := (World.ownsRow.lt h k he).1
    have := hr k e.symm
    omega
theorem OwnJ.alloc {w : World} {B : Nat} {v : Value} {ts : List Jb} (h : OwnJ w B v ts) (o : Obj) : OwnJ (w.alloc o) B v ts := World.ownsRow.alloc h o
theorem OwnJ.form {w : World} {B : Nat} {v : Value} {ts : List Jb} (h : OwnJ w B v ts) : ∃ A c, v = .slice A ts.length c := by
  rcases h.2 with ⟨e, h0⟩ | ⟨g, cap, cur, e, _⟩
  · exact ⟨none, 0, by rw [e, h0]⟩
  · exact ⟨_, cap, e⟩
theorem OwnJ.le {w : World} {B c : Nat} {A : Option Addr} {zs : List Jb} (h : OwnJ w B (.slice A zs.length c) zs) : zs.length ≤ c := by
  rcases h.2 with ⟨e, h0⟩ | ⟨g, cap, cur, e, _, _, h1, h2, _⟩
  · omega
  · injection e with e1 e2 e3
    subst e3
    exact h1
theorem OwnJ.snoc {w : World} {B : Nat} {v : Value} {ts : List Jb} {t : Jb} (h : w.ownsRow B 35 3 v (ts.length + 1) (ts.flatMap Jb.cells ++ t.cells)) : OwnJ w B v (ts ++ [t]) := by
  unfold OwnJ
  rw [List.flatMap_append, List.length_append]
  simpa using h
theorem OwnJ.nil_ (w : World) (B : Nat) : OwnJ w B (.slice none 0 0) [] := ⟨rfl, .inl ⟨rfl, rfl⟩⟩
theorem OwnJ.empty (w : World) : OwnJ (w.alloc (.cells #[] 35)) w.heap.size (.slice (some ⟨w.heap.size, 0, none⟩) 0 0) [] :=
  ⟨rfl, .inr ⟨w.heap.size, 0, #[], rfl, Nat.le_refl _, heap_alloc_new w _, Nat.le_refl _, Nat.zero_le _, rfl, rfl⟩⟩
theorem OwnJ.below {w w' : World} {B : Nat} {v : Value} {ts : List Jb} (h : OwnJ w B v ts) (hb : Below w.heap.size w w') : OwnJ w' B v ts :=
  h.kept (row := none) ⟨hb.os, hb.tape, hb.output, hb.size, fun k hk _ => hb.block k hk⟩ (fun k e => by cases e)
theorem OwnJ.less {w : World} {B B' : Nat} {v : Value} {ts : List Jb} (h : OwnJ w B v ts) (hB : B' ≤ B) : OwnJ w B' v ts := by
  refine ⟨h.1, ?_⟩
  rcases h.2 with h | ⟨g, cap, cur, e, hb, rest⟩
  · exact .inl h
  · exact .inr ⟨g, cap, cur, e, Nat.le_trans hB hb, rest⟩
theorem cell_new3 (w : World) (t : Jb) (ty : TypeId) : ∀ j u, t.cells[j]? = some u → (w.alloc (.cells #[.int .i64 t.ta, .int .i64 t.tm, .int .i64 t.ne] ty)).cell? ((⟨w.heap.size, 0, none⟩ : Addr).add j) = some u := by
  intro j u hj
  have ea : (⟨w.heap.size, 0, none⟩ : Addr).add j = ⟨w.heap.size, j, none⟩ := by unfold Addr.add; split <;> simp_all
  rw [ea, (Blk.new w ty _).cell j, ← hj]
  simp [Jb.cells]
/-- A list of jobs as the result; a list of jobs and whether there is one. -/
def JsRes (js : List Jb) (w : World) (e : Ending) (w' : World) : Prop :=
  ∃ (A : Option Addr) (c : Nat), e = .returned (.slice A js.length c) ∧ OwnJ w' w.heap.size (.slice A js.length c) js ∧ Below w.heap.size w w'
def JsRes2 (js : List Jb) (b : Bool) (w : World) (e : Ending) (w' : World) : Prop :=
  ∃ (A : Option Addr) (c : Nat), e = .returned (.tuple #[.slice A js.length c, .bool b]) ∧ OwnJ w' w.heap.size (.slice A js.length c) js ∧ Below w.heap.size w w'
def Jb.val (j : Jb) : Value := .agg #[.int .i64 j.ta, .int .i64 j.tm, .int .i64 j.ne]

end Go.Proofs.Ytjondedkgkohfaa
