/- Lists of numbers in memory: read, of the call's own. -/
import Derived.Test.YtjondedkgkohfaaOwn
import Derived.Test.YtjondedkgkohfaaHyper
import Derived.Test.YtjondedkgkohfaaTwo0
namespace Go.Proofs.Ytjondedkgkohfaa
open Go.RowKit
set_option linter.unusedVariables false

/-- The slice (A, n) reads as the numbers zs; it lies below block B. -/
structure Zs (w : World) (B : Nat) (A : Option Addr) (n : Nat) (zs : List Int) : Prop where
  len : zs.length = n
  at_ : ∀ i z, zs[i]? = some z → ∃ b o, A = some ⟨b, o, none⟩ ∧ b < B ∧ w.cell? ⟨b, o + i, none⟩ = some (.int .i64 z)
theorem Zs.below {w w' : World} {B : Nat} {A : Option Addr} {n : Nat} {zs : List Int} (h : Zs w B A n zs) (hb : Below B w w') : Zs w' B A n zs :=
  ⟨h.len, fun i z hz => by
    obtain ⟨b, o, e, hbB, hc⟩ := h.at_ i z hz
    exact ⟨b, o, e, hbB, (hb.cell (p := ⟨b, o + i, none⟩) hbB).trans hc⟩⟩
theorem Zs.more {w : World} {B B' : Nat} {A : Option Addr} {n : Nat} {zs : List Int} (h : Zs w B A n zs) (hB : B ≤ B') : Zs w B' A n zs :=
  ⟨h.len, fun i z hz => by
    obtain ⟨b, o, e, hbB, hc⟩ := h.at_ i z hz
    exact ⟨b, o, e, by omega, hc⟩⟩
theorem Zs.get {w : World} {B b o n : Nat} {zs : List Int} (h : Zs w B (some ⟨b, o, none⟩) n zs) {i : Nat} {z : Int} (hz : zs[i]? = some z) : b < B ∧ w.cell? ⟨b, o + i, none⟩ = some (.int .i64 z) := by
  obtain ⟨b', o', e, hb, hc⟩ := h.at_ i z hz
  injection e with e
  injection e with e1 e2
  subst e1 e2
  exact ⟨hb, hc⟩
theorem Zs.take {w : World} {B : Nat} {A : Option Addr} {n k : Nat} {zs : List Int} (h : Zs w B A n zs) (hk : k ≤ n) : Zs w B A k (zs.take k) :=
  ⟨by rw [List.length_take, h.len]; omega, fun i t ht => h.at_ i t (by
    rw [List.getElem?_take] at ht
    split at ht
    · exact ht
    · cases ht)⟩
theorem Zs.drop {w : World} {B b o : Nat} {n k m : Nat} {zs : List Int} (h : Zs w B (some ⟨b, o, none⟩) n zs) (hm : m = o + k) : Zs w B (some ⟨b, m, none⟩) (n - k) (zs.drop k) :=
  ⟨by rw [List.length_drop, h.len], fun i t ht => by
    rw [List.getElem?_drop] at ht
    obtain ⟨hb, hc⟩ := h.get ht
    subst hm
    exact ⟨b, _, rfl, hb, by rw [Nat.add_assoc]; exact hc⟩⟩
/-- The slice value v is the call's own and holds the numbers zs. -/
def OwnZ (w : World) (B : Nat) (v : Value) (zs : List Int) : Prop := w.ownsRow B 3 1 v zs.length (zs.map (Value.int .i64))
theorem OwnZ.form {w : World} {B : Nat} {v : Value} {zs : List Int} (h : OwnZ w B v zs) : ∃ A c, v = .slice A zs.length c := by
  rcases h.2 with ⟨e, h0⟩ | ⟨g, cap, cur, e, _⟩
  · exact ⟨none, 0, by rw [e, h0]⟩
  · exact ⟨_, cap, e⟩
theorem OwnZ.reads {w : World} {B : Nat} {A : Option Addr} {c : Nat} {zs : List Int} (h : OwnZ w B (.slice A zs.length c) zs) : Zs w w.heap.size A zs.length zs := by
  refine ⟨rfl, fun i z hz => ?_⟩
  have hi : i < zs.length := (List.getElem?_eq_some_iff.1 hz).1
  rcases h.2 with ⟨e, h0⟩ | ⟨g, cap, cur, e, _, hg, _⟩
  · omega
  · injection e with e1 e2 e3
    subst e1
    have hlt : g < w.heap.size := by
      rcases Nat.lt_or_ge g w.heap.size with hlt | hge
      · exact hlt
      · rw [Array.getElem?_eq_none hge] at hg; cases hg
    have := h.cells (g := g) rfl i (.int .i64 z) (by rw [List.getElem?_map, hz]; rfl)
    have ea : (⟨g, 0, none⟩ : Addr).add i = ⟨g, i, none⟩ := by unfold Addr.add; split <;> simp_all
    rw [ea] at this
    exact ⟨g, 0, rfl, hlt, by rw [Nat.zero_add]; exact this⟩
theorem OwnZ.le {w : World} {B c : Nat} {A : Option Addr} {zs : List Int} (h : OwnZ w B (.slice A zs.length c) zs) : zs.length ≤ c := by
  rcases h.2 with ⟨e, h0⟩ | ⟨g, cap, cur, e, _, _, h1, h2, _⟩
  · omega
  · injection e with e1 e2 e3
    subst e3
    exact h1
theorem OwnZ.snoc {w : World} {B : Nat} {v : Value} {zs : List Int} {z : Int} (h : w.ownsRow B 3 1 v (zs.length + 1) (zs.map (Value.int .i64) ++ [.int .i64 z])) : OwnZ w B v (zs ++ [z]) := by
  unfold OwnZ
  rw [List.map_append, List.length_append]
  simpa using h
theorem OwnZ.empty (w : World) : OwnZ (w.alloc (.cells #[] 3)) w.heap.size (.slice (some ⟨w.heap.size, 0, none⟩) 0 0) [] :=
  ⟨rfl, .inr ⟨w.heap.size, 0, #[], rfl, Nat.le_refl _, heap_alloc_new w _, Nat.le_refl _, Nat.zero_le _, rfl, rfl⟩⟩
theorem OwnZ.alloc {w : World} {B : Nat} {v : Value} {zs : List Int} (h : OwnZ w B v zs) (o : Obj) : OwnZ (w.alloc o) B v zs := World.ownsRow.alloc h o
theorem OwnZ.below {w w' : World} {B : Nat} {v : Value} {zs : List Int} (h : OwnZ w B v zs) (hb : Below w.heap.size w w') : OwnZ w' B v zs := by
  refine ⟨h.1, ?_⟩
  rcases h.2 with hn | ⟨g, cap, cur, e, h1, hg, h3⟩
  · exact .inl hn
  · refine .inr ⟨g, cap, cur, e, h1, ?_, h3⟩
    have hlt : g < w.heap.size := by
      rcases Nat.lt_or_ge g w.heap.size with hlt | hge
      · exact hlt
      · rw [Array.getElem?_eq_none hge] at hg; cases hg
    exact (hb.block g hlt).trans hg
theorem OwnZ.less {w : World} {B B' : Nat} {v : Value} {zs : List Int} (h : OwnZ w B v zs) (hB : B' ≤ B) : OwnZ w B' v zs := by
  refine ⟨h.1, ?_⟩
  rcases h.2 with hn | ⟨g, cap, cur, e, h1, h3⟩
  · exact .inl hn
  · exact .inr ⟨g, cap, cur, e, by omega, h3⟩
theorem OwnZ.kept {w w' : World} {B : Nat} {v : Value} {zs : List Int} {row : Option Nat} (h : OwnZ w B v zs) (hg : w.grownBy w' row) (hr : ∀ k, row = some k → k < B) : OwnZ w' B v zs := by
  refine World.ownsRow.kept h hg ?_
  rcases he : v.ownBlock with _ | k
  · exact .inl rfl
  · right
    intro e
    have := (World.ownsRow.lt h k he).1
    have := hr k e.symm
    omega
/-- A list of numbers as the result, and whether there is one. -/
def ZsRes (zs : List Int) (w : World) (e : Ending) (w' : World) : Prop :=
  ∃ (A : Option Addr) (c : Nat), e = .returned (.slice A zs.length c) ∧ OwnZ w' w.heap.size (.slice A zs.length c) zs ∧ Below w.heap.size w w'
def ZsRes2 (zs : List Int) (b : Bool) (w : World) (e : Ending) (w' : World) : Prop :=
  ∃ (A : Option Addr) (c : Nat), e = .returned (.tuple #[.slice A zs.length c, .bool b]) ∧ OwnZ w' w.heap.size (.slice A zs.length c) zs ∧ Below w.heap.size w w'
def LsRes2 (ts : List Tk) (b : Bool) (w : World) (e : Ending) (w' : World) : Prop :=
  ∃ (A : Option Addr) (c : Nat), e = .returned (.tuple #[.slice A ts.length c, .bool b]) ∧ Own w' w.heap.size (.slice A ts.length c) ts ∧ Below w.heap.size w w'
def toZ (o : List Nat) : List Int := o.map Int.ofNat
theorem toZ_len (o : List Nat) : (toZ o).length = o.length := by simp [toZ]

/-- Whether numbers are all numbers below n, each once. -/
def ordB (zs : List Int) (n : Nat) : Bool := decide (zs.length = n) && (zs.all (fun z => decide (0 ≤ z) && decide (z < (n : Int))) && decide zs.Nodup)
theorem ordB_iff {zs : List Int} {n : Nat} : ordB zs n = true ↔ zs.length = n ∧ (∀ z ∈ zs, 0 ≤ z ∧ z < (n : Int)) ∧ zs.Nodup := by
  unfold ordB
  simp only [Bool.and_eq_true, decide_eq_true_iff, List.all_eq_true]

end Go.Proofs.Ytjondedkgkohfaa
