import Derived.LoopTactic
import Derived.Deep.QuietTactic
import Derived.BigQuiet
import Derived.Laws.IdiomStrings
import Derived.Test.YtgponahmkjohiabGreatDoorT2NF
namespace Go.Proofs.YtgponahmkjohiabGreatDoor
section
open Go.RowKit
set_option linter.unusedVariables false
theorem OwnZ.setb {w : World} {B : Nat} {v : Value} {zs : List Int} (h : OwnZ w B v zs) {a : Addr} (ha : a.block < B) (u : Value) : OwnZ (w.setCell a u) B v zs := ownsRow_setCell_below h ha u
theorem Blk.four {w : World} {g : Nat} {t : TypeId} {a b c d : Value} (h : Blk w g t #[a, b, c, d]) : w.cell? ⟨g, 0, none⟩ = some a ∧ w.cell? ⟨g, 1, none⟩ = some b ∧ w.cell? ⟨g, 2, none⟩ = some c ∧ w.cell? ⟨g, 3, none⟩ = some d := ⟨h.cell 0, h.cell 1, h.cell 2, h.cell 3⟩
/-- Three slices read as the lists of a run. -/
structure RnAt (w : World) (A1 : Option Addr) (n1 : Nat) (A2 : Option Addr) (n2 : Nat) (A3 : Option Addr) (n3 : Nat) (en tr sw : List Int) : Prop where
  e : Zs w w.heap.size A1 n1 en
  t : Zs w w.heap.size A2 n2 tr
  s : Zs w w.heap.size A3 n3 sw
theorem RnAt.below {w w' : World} {A1 A2 A3 : Option Addr} {n1 n2 n3 : Nat} {en tr sw : List Int} (h : RnAt w A1 n1 A2 n2 A3 n3 en tr sw) (hb : Below w.heap.size w w') : RnAt w' A1 n1 A2 n2 A3 n3 en tr sw :=
  ⟨(h.e.below hb).more hb.size, (h.t.below hb).more hb.size, (h.s.below hb).more hb.size⟩
/-- The copy of a run: three slices of the call's own, each in memory of its own. -/
def RnCopy (en tr sw : List Int) (hi : Bool) (w : World) (e : Ending) (w' : World) : Prop :=
  ∃ (A1 : Option Addr) (c1 : Nat) (A2 : Option Addr) (c2 : Nat) (A3 : Option Addr) (c3 s1 s2 : Nat), e = .returned (.agg #[.slice A1 en.length c1, .slice A2 tr.length c2, .slice A3 sw.length c3, .bool hi]) ∧
    OwnZ w' w.heap.size (.slice A1 en.length c1) en ∧ OwnZ w' s1 (.slice A2 tr.length c2) tr ∧ OwnZ w' s2 (.slice A3 sw.length c3) sw ∧
    (∀ k, (Value.slice A1 en.length c1).ownBlock = some k → k < s1) ∧ (∀ k, (Value.slice A2 tr.length c2).ownBlock = some k → k < s2) ∧ w.heap.size ≤ s1 ∧ (s1 ≤ s2 ∧ s2 ≤ w'.heap.size) ∧ Below w.heap.size w w'
theorem RnCopy.reads {w' : World} {A1 A2 A3 : Option Addr} {c1 c2 c3 B s1 s2 : Nat} {en tr sw : List Int} (h1 : OwnZ w' B (.slice A1 en.length c1) en) (h2 : OwnZ w' s1 (.slice A2 tr.length c2) tr) (h3 : OwnZ w' s2 (.slice A3 sw.length c3) sw) :
    RnAt w' A1 en.length A2 tr.length A3 sw.length en tr sw := ⟨h1.reads, h2.reads, h3.reads⟩
set_option maxHeartbeats 1000000 in
theorem eqRun_any (w : World) (A1 : Option Addr) (n1 c1 : Nat) (A2 : Option Addr) (n2 c2 : Nat) (A3 : Option Addr) (n3 c3 : Nat) (X1 : Option Addr) (d1 : Nat) (X2 : Option Addr) (d2 : Nat) (X3 : Option Addr) (d3 : Nat) (hi : Bool) (en tr sw : List Int)
    (h : RnAt w A1 n1 A2 n2 A3 n3 en tr sw) (h' : RnAt w X1 n1 X2 n2 X3 n3 en tr sw) (m1 : n1 ≤ 1048576) (m2 : n2 ≤ 1048576) (m3 : n3 ≤ 1048576) :
    Calls Tryz.prog 34 #[.agg #[.slice A1 n1 c1, .slice A2 n2 c2, .slice A3 n3 c3, .bool hi], .agg #[.slice X1 n1 d1, .slice X2 n2 d2, .slice X3 n3 d3, .bool hi]] w fun e w' => e = .returned (.bool true) ∧ Below w.heap.size w w' := by
  have H := Lib.hid h
  have H' := Lib.hid h'
  clear h h'
  go_enter Tryz.func34, Tryz.ntmps34
  go_wp2_with fail
  refine (eqIntS_any _ A1 X1 n1 c1 d1 en (H.out.below (bl_alloc (bl_alloc (Below.refl _ w) _) _)).e (H'.out.below (bl_alloc (bl_alloc (Below.refl _ w) _) _)).e m1).mono ?_
  rintro e w1 ⟨rfl, hb⟩
  have HB1 := Lib.hid (bl_trans (bl_alloc (bl_alloc (Below.refl _ w) _) _) hb)
  have bA1 := Lib.hid (((Blk.new w 29 #[.slice A1 n1 c1, .slice A2 n2 c2, .slice A3 n3 c3, .bool hi]).alloc _).below hb (by simp <;> omega))
  have bX1 : Hid (Blk w1 (w.heap.size + 1) 29 #[.slice X1 n1 d1, .slice X2 n2 d2, .slice X3 n3 d3, .bool hi]) := by
    refine Lib.hid (Blk.below ?_ hb (by simp))
    have h := Blk.new (w.alloc (.cells #[.slice A1 n1 c1, .slice A2 n2 c2, .slice A3 n3 c3, .bool hi] 29)) 29 #[.slice X1 n1 d1, .slice X2 n2 d2, .slice X3 n3 d3, .bool hi]
    simpa using h
  clear hb
  have cA := bA1.out.cell
  have cX := bX1.out.cell
  go_wp2_with fail
  refine (eqIntS_any _ A2 X2 n2 c2 d2 tr (H.out.below HB1.out).t (H'.out.below HB1.out).t m2).mono ?_
  rintro e w2 ⟨rfl, hb⟩
  have HB2 := Lib.hid (bl_trans HB1.out hb)
  have bA2 := Lib.hid (bA1.out.below hb bA1.out.lt)
  have bX2 := Lib.hid (bX1.out.below hb bX1.out.lt)
  clear hb cA cX HB1 bA1 bX1
  have cA := bA2.out.cell
  have cX := bX2.out.cell
  go_wp2_with fail
  refine (eqIntS_any _ A3 X3 n3 c3 d3 sw (H.out.below HB2.out).s (H'.out.below HB2.out).s m3).mono ?_
  rintro e w3 ⟨rfl, hb⟩
  have HB3 := Lib.hid (bl_trans HB2.out hb)
  have bA3 := Lib.hid (bA2.out.below hb bA2.out.lt)
  have bX3 := Lib.hid (bX2.out.below hb bX2.out.lt)
  clear hb cA cX HB2 bA2 bX2
  have cA := bA3.out.cell
  have cX := bX3.out.cell
  go_wp2
  go_ret
  exact ⟨rfl, HB3.out⟩
end
section
open Go.RowKit
set_option linter.unusedVariables false
theorem bl_less {w w' : World} {B B' : Nat} (h : Below B w w') (hB : B' ≤ B) : Below B' w w' := ⟨h.os, h.tape, h.output, h.size, fun i hi => h.block i (by omega)⟩
theorem OwnZ.kept_dn {w w' : World} {B M : Nat} {v : Value} {zs : List Int} {row : Option Nat} (h : OwnZ w B v zs) (hg : w.grownBy w' row) (hv : ∀ k, v.ownBlock = some k → k < M) (hr : ∀ k, row = some k → M ≤ k) : OwnZ w' B v zs := by
  refine World.ownsRow.kept h hg ?_
  rcases he : v.ownBlock with _ | k
  · exact .inl rfl
  · right
    intro e
    have := hv k he
    have := hr k e.symm
    omega
end
section
open Go.RowKit
set_option linter.unusedVariables false
def byV (b : UInt8) : Value := .int .u8 (b.toNat : Int)
/-- The slice is the call's own and holds these bytes. -/
def OwnB (w : World) (B : Nat) (v : Value) (l : List UInt8) : Prop := w.ownsRow B 5 1 v l.length (l.map byV)
theorem OwnB.alloc {w : World} {B : Nat} {v : Value} {l : List UInt8} (h : OwnB w B v l) (o : Obj) : OwnB (w.alloc o) B v l := World.ownsRow.alloc h o
theorem OwnB.snoc {w : World} {B : Nat} {v : Value} {l : List UInt8} {c : UInt8} (h : w.ownsRow B 5 1 v (l.length + 1) (l.map byV ++ [byV c])) : OwnB w B v (l ++ [c]) := by
  unfold OwnB
  rw [List.length_append, List.map_append]
  exact h
theorem OwnB.some_ {w : World} {B : Nat} {v : Value} {l : List UInt8} (h : OwnB w B v l) (hl : 0 < l.length) : ∃ g c, v = .slice (some ⟨g, 0, none⟩) l.length c := by
  rcases h.2 with ⟨e, h0⟩ | ⟨g, cap, cur, e, _⟩
  · omega
  · exact ⟨g, cap, e⟩
theorem OwnB.cell {w : World} {B g c : Nat} {l : List UInt8} (h : OwnB w B (.slice (some ⟨g, 0, none⟩) l.length c) l) (i : Nat) (hi : i < l.length) : w.cell? ⟨g, i, none⟩ = some (.int .u8 (l[i].toNat : Int)) := by
  have := World.ownsRow.cells (g := g) h rfl i (byV l[i]) (by rw [List.getElem?_map, List.getElem?_eq_getElem hi]; rfl)
  have ea : (⟨g, 0, none⟩ : Addr).add i = ⟨g, i, none⟩ := by unfold Addr.add; split <;> simp_all
  rw [ea] at this
  exact this
end
end Go.Proofs.YtgponahmkjohiabGreatDoor
