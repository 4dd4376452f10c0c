import Derived.Test.YtgponahmkjohiabGreatDoorT2McR
import Derived.Test.YtgponahmkjohiabGreatDoorT2MsA
namespace Go.Proofs.YtgponahmkjohiabGreatDoor
open Go.RowKit
set_option linter.unusedVariables false
/-- What the machine's block holds: its lists, its order, its mode, how many jobs came, the places that are left, how many these are, the ticks that are done, the run. -/
structure Pm where
  L : Value
  J : Value
  O : Value
  mo : Value
  cm : Nat
  lf : List Int
  cn : Nat
  dn : List Int
  E : Value
  T : Value
  S : Value
  hi : Bool
def Pm.cs (p : Pm) : List Value := p.L :: p.J :: p.O :: p.mo :: .int .i64 (p.cm : Int) :: (p.lf.map (Value.int .i64) ++ (.int .i64 (p.cn : Int) :: (p.dn.map (Value.int .i64) ++ [p.E, p.T, p.S, .bool p.hi])))
structure PAt (w : World) (M : Nat) (p : Pm) : Prop where
  l : p.lf.length = 60
  d : p.dn.length = 60
  blk : Blk w M 84 p.cs.toArray
section
variable {p : Pm}
theorem Pm.g_left (hl : p.lf.length = 60) {i : Nat} (hi : i < 60) : p.cs[5 + i]? = some (.int .i64 (p.lf.getD i 0)) := by
  have e : 5 + i = i + 1 + 1 + 1 + 1 + 1 := by omega
  unfold Pm.cs
  rw [e]
  simp only [List.getElem?_cons_succ]
  rw [List.getElem?_append_left (by rw [List.length_map]; omega), List.getElem?_map]
  simp [List.getD, List.getElem?_eq_getElem (show i < p.lf.length by omega)]
theorem Pm.g_right (hl : p.lf.length = 60) (i : Nat) : p.cs[65 + i]? = (Value.int .i64 (p.cn : Int) :: (p.dn.map (Value.int .i64) ++ [p.E, p.T, p.S, .bool p.hi]))[i]? := by
  have e : 65 + i = 60 + i + 1 + 1 + 1 + 1 + 1 := by omega
  unfold Pm.cs
  rw [e]
  simp only [List.getElem?_cons_succ]
  rw [List.getElem?_append_right (by rw [List.length_map]; omega), List.length_map, hl, show 60 + i - 60 = i by omega]
theorem Pm.g_done (hl : p.lf.length = 60) (hd : p.dn.length = 60) {k : Nat} (hk : k < 60) : p.cs[66 + k]? = some (.int .i64 (p.dn.getD k 0)) := by
  rw [show 66 + k = 65 + (k + 1) by omega, Pm.g_right hl, List.getElem?_cons_succ, List.getElem?_append_left (by rw [List.length_map]; omega), List.getElem?_map]
  simp [List.getD, List.getElem?_eq_getElem (show k < p.dn.length by omega)]
theorem Pm.g_end (hl : p.lf.length = 60) (hd : p.dn.length = 60) (i : Nat) : p.cs[126 + i]? = [p.E, p.T, p.S, .bool p.hi][i]? := by
  rw [show 126 + i = 65 + (60 + i + 1) by omega, Pm.g_right hl, List.getElem?_cons_succ, List.getElem?_append_right (by rw [List.length_map]; omega), List.length_map, hd, show 60 + i - 60 = i by omega]
theorem Pm.s_left (hl : p.lf.length = 60) {i : Nat} (hi : i < 60) (z : Int) : p.cs.set (5 + i) (.int .i64 z) = ({ p with lf := p.lf.set i z } : Pm).cs := by
  have e : 5 + i = i + 1 + 1 + 1 + 1 + 1 := by omega
  unfold Pm.cs
  rw [e]
  simp only [List.set_cons_succ]
  rw [List.set_append_left _ _ (by rw [List.length_map]; omega), List.map_set]
theorem Pm.s_right (hl : p.lf.length = 60) (i : Nat) (u : Value) : p.cs.set (65 + i) u = p.L :: p.J :: p.O :: p.mo :: .int .i64 (p.cm : Int) :: (p.lf.map (Value.int .i64) ++ (Value.int .i64 (p.cn : Int) :: (p.dn.map (Value.int .i64) ++ [p.E, p.T, p.S, .bool p.hi])).set i u) := by
  have e : 65 + i = 60 + i + 1 + 1 + 1 + 1 + 1 := by omega
  unfold Pm.cs
  rw [e]
  simp only [List.set_cons_succ]
  rw [List.set_append_right _ _ (by rw [List.length_map]; omega), List.length_map, hl, show 60 + i - 60 = i by omega]
theorem Pm.s_cnt (hl : p.lf.length = 60) (n : Nat) : p.cs.set 65 (.int .i64 (n : Int)) = ({ p with cn := n } : Pm).cs := by
  rw [show (65 : Nat) = 65 + 0 from rfl, Pm.s_right hl]
  rfl
theorem Pm.s_done (hl : p.lf.length = 60) (hd : p.dn.length = 60) {k : Nat} (hk : k < 60) (z : Int) : p.cs.set (66 + k) (.int .i64 z) = ({ p with dn := p.dn.set k z } : Pm).cs := by
  rw [show 66 + k = 65 + (k + 1) by omega, Pm.s_right hl, List.set_cons_succ, List.set_append_left _ _ (by rw [List.length_map]; omega), ← List.map_set]
  rfl
theorem Pm.s_end (hl : p.lf.length = 60) (hd : p.dn.length = 60) (i : Nat) (u : Value) : p.cs.set (126 + i) u = p.L :: p.J :: p.O :: p.mo :: .int .i64 (p.cm : Int) :: (p.lf.map (Value.int .i64) ++ (Value.int .i64 (p.cn : Int) :: (p.dn.map (Value.int .i64) ++ [p.E, p.T, p.S, .bool p.hi].set i u))) := by
  rw [show 126 + i = 65 + (60 + i + 1) by omega, Pm.s_right hl, List.set_cons_succ, List.set_append_right _ _ (by rw [List.length_map]; omega), List.length_map, hd, show 60 + i - 60 = i by omega]
end
section
variable {w w' : World} {M : Nat} {p : Pm}
theorem PAt.lt (h : PAt w M p) : M < w.heap.size := h.blk.lt
theorem PAt.frozen (h : PAt w M p) : ∀ i, w.frozen? ⟨M, i, none⟩ = false := h.blk.frozen
theorem PAt.c0 (h : PAt w M p) : w.cell? ⟨M, 0, none⟩ = some p.L := (h.blk.cell 0).trans (by simp [Pm.cs])
theorem PAt.c1 (h : PAt w M p) : w.cell? ⟨M, 1, none⟩ = some p.J := (h.blk.cell 1).trans (by simp [Pm.cs])
theorem PAt.c2 (h : PAt w M p) : w.cell? ⟨M, 2, none⟩ = some p.O := (h.blk.cell 2).trans (by simp [Pm.cs])
theorem PAt.c3 (h : PAt w M p) : w.cell? ⟨M, 3, none⟩ = some p.mo := (h.blk.cell 3).trans (by simp [Pm.cs])
theorem PAt.c4 (h : PAt w M p) : w.cell? ⟨M, 4, none⟩ = some (.int .i64 (p.cm : Int)) := (h.blk.cell 4).trans (by simp [Pm.cs])
theorem PAt.left (h : PAt w M p) {i : Nat} (hi : i < 60) : w.cell? ⟨M, 5 + i, none⟩ = some (.int .i64 (p.lf.getD i 0)) := (h.blk.cell _).trans (by rw [List.getElem?_toArray]; exact Pm.g_left h.l hi)
theorem PAt.c65 (h : PAt w M p) : w.cell? ⟨M, 65, none⟩ = some (.int .i64 (p.cn : Int)) := (h.blk.cell _).trans (by rw [List.getElem?_toArray]; exact Pm.g_right h.l 0)
theorem PAt.done (h : PAt w M p) {i : Nat} (hi : i < 60) : w.cell? ⟨M, 66 + i, none⟩ = some (.int .i64 (p.dn.getD i 0)) := (h.blk.cell _).trans (by rw [List.getElem?_toArray]; exact Pm.g_done h.l h.d hi)
theorem PAt.c126 (h : PAt w M p) : w.cell? ⟨M, 126, none⟩ = some p.E := (h.blk.cell _).trans (by rw [List.getElem?_toArray]; exact Pm.g_end h.l h.d 0)
theorem PAt.c127 (h : PAt w M p) : w.cell? ⟨M, 127, none⟩ = some p.T := (h.blk.cell _).trans (by rw [List.getElem?_toArray]; exact Pm.g_end h.l h.d 1)
theorem PAt.c128 (h : PAt w M p) : w.cell? ⟨M, 128, none⟩ = some p.S := (h.blk.cell _).trans (by rw [List.getElem?_toArray]; exact Pm.g_end h.l h.d 2)
theorem PAt.c129 (h : PAt w M p) : w.cell? ⟨M, 129, none⟩ = some (.bool p.hi) := (h.blk.cell _).trans (by rw [List.getElem?_toArray]; exact Pm.g_end h.l h.d 3)
theorem PAt.drew (h : PAt w M p) : PAt w.drew M p := ⟨h.l, h.d, h.blk⟩
theorem PAt.drewN (h : PAt w M p) (n : Nat) : PAt (w.drewN n) M p := ⟨h.l, h.d, h.blk⟩
theorem PAt.alloc (h : PAt w M p) (o : Obj) : PAt (w.alloc o) M p := ⟨h.l, h.d, h.blk.alloc o⟩
theorem PAt.far (h : PAt w M p) {a : Addr} (ha : M ≠ a.block) (u : Value) : PAt (w.setCell a u) M p := ⟨h.l, h.d, h.blk.far ha u⟩
theorem PAt.bel (h : PAt w M p) (hb : Below w.heap.size w w') : PAt w' M p := ⟨h.l, h.d, h.blk.below hb h.lt⟩
theorem PAt.kp {S : Nat → Prop} (h : PAt w M p) (hk : Kp w w' S) (hn : ¬ S M) : PAt w' M p := ⟨h.l, h.d, h.blk.kp hk hn⟩
theorem PAt.grown {row : Option Nat} (h : PAt w M p) (hb : w.grownBy w' row) (hg : some M ≠ row) : PAt w' M p := ⟨h.l, h.d, h.blk.grown hb hg⟩
theorem PAt.same (h : PAt w M p) (e : w'.heap[M]? = w.heap[M]?) : PAt w' M p := ⟨h.l, h.d, e.trans h.blk⟩
theorem PAt.setc (h : PAt w M p) {q : Pm} (i : Nat) (u : Value) (e : p.cs.set i u = q.cs) (hl : q.lf.length = 60) (hd : q.dn.length = 60) : PAt (w.setCell ⟨M, i, none⟩ u) M q := by
  refine ⟨hl, hd, ?_⟩
  have h1 := h.blk.set_ i u
  rw [List.setIfInBounds_toArray, e] at h1
  exact h1
theorem PAt.sO (h : PAt w M p) (u : Value) : PAt (w.setCell ⟨M, 2, none⟩ u) M { p with O := u } := h.setc 2 u rfl h.l h.d
theorem PAt.sMo (h : PAt w M p) (u : Value) : PAt (w.setCell ⟨M, 3, none⟩ u) M { p with mo := u } := h.setc 3 u rfl h.l h.d
theorem PAt.sCm (h : PAt w M p) (n : Nat) : PAt (w.setCell ⟨M, 4, none⟩ (.int .i64 (n : Int))) M { p with cm := n } := h.setc 4 _ rfl h.l h.d
theorem PAt.sLf (h : PAt w M p) {i : Nat} (hi : i < 60) (z : Int) : PAt (w.setCell ⟨M, 5 + i, none⟩ (.int .i64 z)) M { p with lf := p.lf.set i z } := h.setc (5 + i) _ (Pm.s_left h.l hi z) (by simp [h.l]) h.d
theorem PAt.sCn (h : PAt w M p) (n : Nat) : PAt (w.setCell ⟨M, 65, none⟩ (.int .i64 (n : Int))) M { p with cn := n } := h.setc 65 _ (Pm.s_cnt h.l n) h.l h.d
theorem PAt.sDn (h : PAt w M p) {i : Nat} (hi : i < 60) (z : Int) : PAt (w.setCell ⟨M, 66 + i, none⟩ (.int .i64 z)) M { p with dn := p.dn.set i z } := h.setc (66 + i) _ (Pm.s_done h.l h.d hi z) h.l (by simp [h.d])
theorem PAt.sE (h : PAt w M p) (u : Value) : PAt (w.setCell ⟨M, 126, none⟩ u) M { p with E := u } := h.setc 126 u (Pm.s_end h.l h.d 0 u) h.l h.d
theorem PAt.sT (h : PAt w M p) (u : Value) : PAt (w.setCell ⟨M, 127, none⟩ u) M { p with T := u } := h.setc 127 u (Pm.s_end h.l h.d 1 u) h.l h.d
theorem PAt.sS (h : PAt w M p) (u : Value) : PAt (w.setCell ⟨M, 128, none⟩ u) M { p with S := u } := h.setc 128 u (Pm.s_end h.l h.d 2 u) h.l h.d
theorem PAt.sHi (h : PAt w M p) (b : Bool) : PAt (w.setCell ⟨M, 129, none⟩ (.bool b)) M { p with hi := b } := h.setc 129 _ (Pm.s_end h.l h.d 3 _) h.l h.d
end
theorem blB {B : Nat} {w w1 w2 : World} (h : Below B w w1) (hB : B ≤ w1.heap.size) (k : Below w1.heap.size w1 w2) : Below B w w2 := h.trans (k.mono hB)
/-- The mode as the machine keeps it. -/
def moV : Bool → Value
  | true => .iface 162 (.agg #[])
  | false => .iface 124 (.agg #[])
end Go.Proofs.YtgponahmkjohiabGreatDoor
