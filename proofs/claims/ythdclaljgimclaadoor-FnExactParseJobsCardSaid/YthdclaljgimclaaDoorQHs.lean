/- Contract of the swap in the program's heap of jobs. -/
import Derived.Test.YthdclaljgimclaaDoorQHa
import Derived.Test.YthdclaljgimclaaDoorSPu
import Derived.Test.YthdclaljgimclaaDoorM2
import Derived.Test.YthdclaljgimclaaDoorQIns
import Derived.Deep.AppendLies
namespace Go.Proofs.YthdclaljgimclaaDoor
open Go.RowKit
set_option linter.unusedVariables false

/-- Block hb is a heap with the elements hs, which are the call's own (from block B on). -/
structure Hp (w : World) (B hb og : Nat) (hs : List Jb) (v : Value) : Prop where
  blk : Blk w hb 72 #[v, (.func (.func 45) #[ordV og] #[])]
  own : OwnJ w B v hs
  lt : hb < B
  ord : OrdAt w og
  ogB : og < B
  hog : og ≠ hb
theorem Hp.below {w w' : World} {B hb og : Nat} {hs : List Jb} {v : Value} (h : Hp w B hb og hs v) (hb' : Below w.heap.size w w') : Hp w' B hb og hs v :=
  ⟨h.blk.below hb' h.blk.lt, h.own.below hb', h.lt, h.ord.below hb', h.ogB, h.hog⟩
theorem OrdAt.grown {w w' : World} {g : Nat} {row : Option Nat} (h : OrdAt w g) (hg : w.grownBy w' row) (hr : some g ≠ row) : OrdAt w' g :=
  ⟨Nat.lt_of_lt_of_le h.lt hg.size, (hg.cell_far ⟨g, 0, none⟩ h.lt hr).trans h.c0, (hg.cell_far ⟨g, 1, none⟩ h.lt hr).trans h.c1⟩
theorem OrdAt.setFar {w : World} {g : Nat} (h : OrdAt w g) {a : Addr} (ha : g ≠ a.block) (u : Value) : OrdAt (w.setCell a u) g :=
  ⟨by simp [World.setCell]; exact h.lt, (World.cell?_of_block (Below.heap_setCell w a u g ha)).trans h.c0, (World.cell?_of_block (Below.heap_setCell w a u g ha)).trans h.c1⟩
theorem OwnJ.setFar {w : World} {B : Nat} {v : Value} {ts : List Jb} (h : OwnJ w B v ts) {a : Addr} (ha : a.block < B) (u : Value) : OwnJ (w.setCell a u) B v ts :=
  ⟨h.1, by
    rcases h.2 with h2 | ⟨g, cap, cur, e, hb, hg, rest⟩
    · exact .inl h2
    · exact .inr ⟨g, cap, cur, e, hb, (Below.heap_setCell w a u g (by omega)).trans hg, rest⟩⟩
theorem jset3 : ∀ (ts : List Jb) (k : Nat) (j : Jb), k < ts.length → (((ts.flatMap Jb.cells).set (k * 3) (.int .i64 j.ta)).set (k * 3 + 1) (.int .i64 j.tm)).set (k * 3 + 2) (.int .i64 j.ne) = (ts.set k j).flatMap Jb.cells
  | [], k, j, h => by simp at h
  | t :: ts, 0, j, h => by simp [Jb.cells]
  | t :: ts, k + 1, j, h => by
    have ih := jset3 ts k j (by simpa using h)
    rw [List.set_cons_succ, List.flatMap_cons, List.flatMap_cons, ← ih]
    have e0 : (k + 1) * 3 = t.cells.length + k * 3 := by simp [Jb.cells]; omega
    rw [e0]
    simp only [Nat.add_assoc]
    rw [List.set_append_right _ _ (by omega), List.set_append_right _ _ (by omega), List.set_append_right _ _ (by omega)]
    simp
theorem OwnJ.put3 {w : World} {B g n c : Nat} {js : List Jb} (ho : OwnJ w B (.slice (some ⟨g, 0, none⟩) n c) js) (k : Nat) (j : Jb) (hk : k < js.length) :
    OwnJ (put3 w ⟨g, k * 3, none⟩ j.ta j.tm j.ne) B (.slice (some ⟨g, 0, none⟩) n c) (js.set k j) := by
  have hn := ho.reads.1
  subst hn
  have h1 := (World.ownsRow.stored ho (k * 3) (.int .i64 j.ta)).1
  have h2 := (World.ownsRow.stored h1 (k * 3 + 1) (.int .i64 j.tm)).1
  have h3 := (World.ownsRow.stored h2 (k * 3 + 2) (.int .i64 j.ne)).1
  rw [jset3 js k j hk] at h3
  unfold OwnJ
  rw [List.length_set]
  unfold Go.Proofs.YthdclaljgimclaaDoor.put3
  simpa [addr_add3] using h3
theorem gb_put3 (w : World) (g o : Nat) (x y z : Int) : w.grownBy (put3 w ⟨g, o, none⟩ x y z) (some g) :=
  ⟨rfl, rfl, rfl, by simp [put3, World.setCell], fun k _ hne => by
    have hk : ∀ (W : World) (o : Nat) (u : Value), (W.setCell ⟨g, o, none⟩ u).heap[k]? = W.heap[k]? := fun W o u => Below.heap_setCell W ⟨g, o, none⟩ u k (fun e => hne (by rw [e]))
    unfold put3
    rw [hk, hk, hk]⟩
set_option maxHeartbeats 1000000 in
theorem iSwap_is (w : World) (B hb og : Nat) (hs : List Jb) (v : Value) (h : Hp w B hb og hs v) (a b : Nat) (x y : Jb) (ha : hs[a]? = some x) (hb' : hs[b]? = some y) :
    Calls Tryd.prog 68 #[.pointer (some ⟨hb, 0, none⟩), .int .i64 a, .int .i64 b] w fun e w' => e = .returned (.tuple #[]) ∧ Hp w' B hb og (swapL hs a b x y) v ∧ w.grownBy w' v.ownBlock := by
  have hal := (List.getElem?_eq_some_iff.1 ha).1
  have hbl := (List.getElem?_eq_some_iff.1 hb').1
  obtain ⟨g, c, rfl⟩ := h.own.some_ (by omega)
  obtain ⟨hgB, hgl⟩ := World.ownsRow.lt h.own g rfl
  have hR := h.own.reads.2
  obtain ⟨_, A0, A1, A2⟩ := hR.get ha
  obtain ⟨_, B0, B1, B2⟩ := hR.get hb'
  have hne : hb ≠ g := by have := h.lt; omega
  have hcell := h.blk.cell 0
  obtain ⟨_, _, cur, hcur, _⟩ := jown_block h.own
  have hfz : ∀ i, w.frozen? ⟨g, i, none⟩ = false := fun i => Blk.frozen (w := w) (g := g) (cs := cur) hcur i
  have fin : ∀ W : World, W = (put3 (put3 w ⟨g, 0 + a * 3, none⟩ y.ta y.tm y.ne) ⟨g, 0 + b * 3, none⟩ x.ta x.tm x.ne).drew → Hp W B hb og (swapL hs a b x y) (.slice (some ⟨g, 0, none⟩) hs.length c) ∧ w.grownBy W (Value.slice (some ⟨g, 0, none⟩) hs.length c).ownBlock := by
    intro W hW
    subst hW
    rw [Nat.zero_add, Nat.zero_add]
    have g1 := gb_put3 w g (a * 3) y.ta y.tm y.ne
    have g2 := gb_trans g1 (gb_put3 (put3 w ⟨g, a * 3, none⟩ y.ta y.tm y.ne) g (b * 3) x.ta x.tm x.ne) (fun x e => .inl (by injection e with e; exact e.symm))
    have g3 := gb_drewJ g2
    have o2 := (h.own.put3 a y hal).put3 b x (by simpa using hbl)
    exact ⟨⟨h.blk.grown g3 (by intro e; injection e with e; exact hne e), OwnJ.drew o2, h.lt, h.ord.grown g3 (by intro e; injection e with e; have := h.ogB; omega), h.ogB, h.hog⟩, g3⟩
  by_cases hab : a = b
  · subst hab
    obtain rfl : x = y := by rw [ha] at hb'; injection hb'
    refine (swap_eq w hb g 0 hs.length c a x.ta x.tm x.ne hcell hne hal A0 A1 A2 hfz).mono ?_
    rintro e w' ⟨rfl, hw⟩
    exact ⟨rfl, fin w' hw⟩
  · refine (swap_ne w hb g 0 hs.length c a b x.ta x.tm x.ne y.ta y.tm y.ne hcell hne hab hal hbl A0 A1 A2 B0 B1 B2 hfz).mono ?_
    rintro e w' ⟨rfl, hw⟩
    exact ⟨rfl, fin w' hw⟩

end Go.Proofs.YthdclaljgimclaaDoor
