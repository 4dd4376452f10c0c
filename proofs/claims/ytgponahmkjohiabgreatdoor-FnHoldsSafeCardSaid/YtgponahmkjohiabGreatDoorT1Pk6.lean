import Derived.Deep.QuietTactic
import Derived.BigQuiet
import Derived.LoopTactic
import Derived.Deep.RegionHeld3
import Derived.Shelf.Abstract
import Derived.Test.YtgponahmkjohiabGreatDoorT1ND
import Derived.Test.YtgponahmkjohiabGreatDoorT1NB
namespace Go.Proofs.YtgponahmkjohiabGreatDoor
open Go.RowKit
set_option linter.unusedVariables false
def polX (ts : List Tk) (pol : Int) : Nat × Nat := if pol = 0 then (1, 1) else facV ts
def polB (ts : List Tk) (pol : Int) : Bool := if pol = 0 then true else facB ts && (pol == 1)
def poOf (ts : List Tk) (pol : Int) : Po := ⟨pol == 1, ((polX ts pol).1 : Int), ((polX ts pol).2 : Int)⟩
def okR (ts : List Tk) (js : List Jb) (pol tk : Int) : Bool := jobsB ts js && (polB ts pol && (decide (0 ≤ tk) && decide (tk ≤ 200)))
def noM : Mc := ⟨[], [], [], false, [], 0⟩
/-- What RunJobs answers. -/
def runR (ts : List Tk) (js : List Jb) (pol tk : Int) : Mc := if okR ts js pol tk then runM ts js (poOf ts pol) tk.toNat else noM
theorem okR_iff {ts : List Tk} {js : List Jb} {pol tk : Int} : okR ts js pol tk = true ↔ jobsB ts js = true ∧ polB ts pol = true ∧ 0 ≤ tk ∧ tk ≤ 200 := by
  unfold okR; simp
theorem runR_ok {ts : List Tk} {js : List Jb} {pol tk : Int} (h : okR ts js pol tk = true) : runR ts js pol tk = runM ts js (poOf ts pol) tk.toNat := by unfold runR; rw [if_pos h]
theorem runR_no {ts : List Tk} {js : List Jb} {pol tk : Int} (h : okR ts js pol tk = false) : runR ts js pol tk = noM := by unfold runR; rw [h]; rfl
theorem polX_le (ts : List Tk) (pol : Int) : (polX ts pol).1 ≤ 3200000 ∧ (polX ts pol).2 ≤ 3200000 := by
  unfold polX
  split
  · exact ⟨by decide, by decide⟩
  · cases h : facB ts
    · rw [facV_no h]; exact ⟨by decide, by decide⟩
    · have := facV_sh h
      omega
theorem pair_le : ∀ (l : List Int) (a m : Int), l.Pairwise (· < ·) → (∀ x ∈ l, a ≤ x ∧ x ≤ m) → a ≤ m + 1 → (l.length : Int) ≤ m + 1 - a := by
  intro l
  induction l with
  | nil => intro a m _ _ h; simp; omega
  | cons x l ih =>
    intro a m hp hm ham
    have hx := hm x (by simp)
    have h2 := ih (x + 1) m (List.pairwise_cons.1 hp).2 (fun y hy => ⟨(List.pairwise_cons.1 hp).1 y hy, (hm y (by simp [hy])).2⟩) (by omega)
    rw [List.length_cons]; omega
/-- Switches are no more than ticks. -/
theorem sw_len {ts : List Tk} {js : List Jb} {n : Int} {g : Nat → Int} {s : Mc} (h : InvM ts js n g s) (h0 : 0 ≤ n) : (s.sw.length : Int) ≤ n := by
  have := pair_le s.sw 1 n h.sws (fun x hx => h.swb x hx) (by omega)
  omega
end Go.Proofs.YtgponahmkjohiabGreatDoor

namespace Go.Proofs.YtgponahmkjohiabGreatDoor
open Go.RowKit
set_option linter.unusedVariables false
def wkC (q : Nat × Int) : List Value := [.int .i64 (q.1 : Int), .int .i64 q.2]
/-- The slice value v is the call's own and holds the jobs that are left with the ticks that are done. -/
def OwnW (w : World) (B : Nat) (v : Value) (wk : List (Nat × Int)) : Prop := w.ownsRow B 136 2 v wk.length (wk.flatMap wkC)
theorem wkC_get : ∀ (wk : List (Nat × Int)) (k : Nat) (q : Nat × Int), wk[k]? = some q → (wk.flatMap wkC)[k * 2]? = some (.int .i64 (q.1 : Int)) ∧ (wk.flatMap wkC)[k * 2 + 1]? = some (.int .i64 q.2)
  | [], k, q, h => by simp at h
  | t :: ts, 0, q, h => by
    simp at h
    subst h
    simp [List.flatMap_cons, wkC]
  | t :: ts, k + 1, q, h => by
    have ih := wkC_get ts k q (by simpa using h)
    have e0 : (k + 1) * 2 = k * 2 + 1 + 1 := by omega
    rw [List.flatMap_cons, e0]
    simpa [wkC] using ih
theorem wkC_set : ∀ (wk : List (Nat × Int)) (k : Nat) (q : Nat × Int) (d : Int), wk[k]? = some q → (wk.flatMap wkC).set (k * 2 + 1) (.int .i64 d) = (wk.set k (q.1, d)).flatMap wkC
  | [], k, q, d, h => by simp at h
  | t :: ts, 0, q, d, h => by
    simp at h
    subst h
    simp [List.flatMap_cons, wkC]
  | t :: ts, k + 1, q, d, h => by
    have ih := wkC_set ts k q d (by simpa using h)
    have e0 : (k + 1) * 2 + 1 = k * 2 + 1 + 1 + 1 := by omega
    rw [List.set_cons_succ, List.flatMap_cons, List.flatMap_cons, ← ih, e0]
    simp [wkC]
section
variable {w w' : World} {B g n c : Nat} {v : Value} {wk : List (Nat × Int)}
theorem OwnW.form (h : OwnW w B v wk) : ∃ A c, v = .slice A wk.length c := by
  rcases h.2 with ⟨rfl, h0⟩ | ⟨g, cap, cur, rfl, _⟩
  · exact ⟨none, 0, by rw [h0]⟩
  · exact ⟨_, _, rfl⟩
theorem OwnW.le {A : Option Addr} (h : OwnW w B (.slice A n c) wk) : n = wk.length ∧ wk.length ≤ c := by
  rcases h.2 with ⟨h1, h0⟩ | ⟨g, cap, cur, h1, _, _, h2, _⟩
  · injection h1 with e1 e2 e3; subst e2; exact ⟨h0.symm, by omega⟩
  · injection h1 with e1 e2 e3; subst e2; exact ⟨rfl, by omega⟩
theorem OwnW.some_ (h : OwnW w B v wk) (hn : 0 < wk.length) : ∃ g c, v = .slice (some ⟨g, 0, none⟩) wk.length c := by
  obtain ⟨g, c, e, _⟩ := World.ownsRow.form h hn
  exact ⟨g, c, e⟩
theorem OwnW.nil_ (w : World) (B : Nat) : OwnW w B (.slice none 0 0) [] := ⟨rfl, .inl ⟨rfl, rfl⟩⟩
theorem OwnW.empty (w : World) : OwnW (w.alloc (.cells #[] 136)) w.heap.size (.slice (some ⟨w.heap.size, 0, none⟩) 0 0) [] :=
  World.ownsRow_made w #[] 0 (Nat.le_refl _) (by unfold maxLen; omega) rfl
theorem OwnW.snoc {q : Nat × Int} (h : w.ownsRow B 136 2 v (wk.length + 1) (wk.flatMap wkC ++ wkC q)) : OwnW w B v (wk ++ [q]) := by
  unfold OwnW
  simpa [List.flatMap_append] using h
theorem OwnW.at_ (h : OwnW w B (.slice (some ⟨g, 0, none⟩) n c) wk) {k : Nat} {q : Nat × Int} (hq : wk[k]? = some q) :
    w.cell? ⟨g, k * 2, none⟩ = some (.int .i64 (q.1 : Int)) ∧ w.cell? ⟨g, k * 2 + 1, none⟩ = some (.int .i64 q.2) := by
  obtain rfl := h.le.1
  have hk : k < wk.length := (List.getElem?_eq_some_iff.1 hq).1
  have hc := wkC_get wk k q hq
  exact ⟨(World.ownsRow.cellAt h _ (by omega)).trans hc.1, (World.ownsRow.cellAt h _ (by omega)).trans hc.2⟩
theorem OwnW.frozen (h : OwnW w B (.slice (some ⟨g, 0, none⟩) n c) wk) : ∀ i, w.frozen? ⟨g, i, none⟩ = false := by
  obtain rfl := h.le.1
  exact World.ownsRow.frozenAt h
theorem OwnW.put (h : OwnW w B (.slice (some ⟨g, 0, none⟩) n c) wk) {k : Nat} {q : Nat × Int} (hq : wk[k]? = some q) (d : Int) :
    OwnW (w.setCell ⟨g, k * 2 + 1, none⟩ (.int .i64 d)) B (.slice (some ⟨g, 0, none⟩) n c) (wk.set k (q.1, d)) := by
  obtain rfl := h.le.1
  have h1 := (World.ownsRow.stored h (k * 2 + 1) (.int .i64 d)).1
  rw [wkC_set wk k q d hq] at h1
  unfold OwnW
  rw [List.length_set]
  exact h1
end
theorem OwnZ.celld {w : World} {B g n c : Nat} {zs : List Int} (h : OwnZ w B (.slice (some ⟨g, 0, none⟩) n c) zs) {j : Nat} (hj : j < zs.length) : w.cell? ⟨g, j, none⟩ = some (.int .i64 (zs.getD j 0)) := by
  have hn : n = zs.length := by
    rcases h.2 with ⟨e, h0⟩ | ⟨g', cap, cur, e, _⟩
    · cases e
    · injection e
  subst hn
  have h1 := World.ownsRow.cellAt h j (by omega)
  rw [h1, List.getElem?_map]
  simp [List.getD, List.getElem?_eq_getElem hj]
theorem add_at (g o j : Nat) : (⟨g, o, none⟩ : Addr).add j = ⟨g, o + j, none⟩ := by unfold Addr.add; split <;> simp_all
/-- What a call leaves that writes blocks of S alone: all else that was there is as it was. -/
structure Kp (w w' : World) (S : Nat → Prop) : Prop where
  os : w'.os = w.os
  tape : w'.tape = w.tape
  output : w'.output = w.output
  size : w.heap.size ≤ w'.heap.size
  block : ∀ k, k < w.heap.size → ¬ S k → w'.heap[k]? = w.heap[k]?
section
variable {w w' w2 : World} {S S2 : Nat → Prop}
theorem Kp.refl (w : World) (S : Nat → Prop) : Kp w w S := ⟨rfl, rfl, rfl, Nat.le_refl _, fun _ _ _ => rfl⟩
theorem Kp.drew (h : Kp w w' S) : Kp w w'.drew S := ⟨h.os, h.tape, h.output, h.size, h.block⟩
theorem Kp.drewN (h : Kp w w' S) (n : Nat) : Kp w (w'.drewN n) S := ⟨h.os, h.tape, h.output, h.size, h.block⟩
theorem Kp.alloc (h : Kp w w' S) (o : Obj) : Kp w (w'.alloc o) S :=
  ⟨h.os, h.tape, h.output, by simp; have := h.size; omega, fun k hk h1 => (Below.heap_alloc w' o k (Nat.lt_of_lt_of_le hk h.size)).trans (h.block k hk h1)⟩
theorem Kp.set (h : Kp w w' S) {a : Addr} (ha : S a.block ∨ w.heap.size ≤ a.block) (u : Value) : Kp w (w'.setCell a u) S :=
  ⟨h.os, h.tape, h.output, by simp [World.setCell]; exact h.size, fun k hk h1 => (Below.heap_setCell w' a u k (fun e => by rcases ha with h2 | h2; exact h1 (e ▸ h2); omega)).trans (h.block k hk h1)⟩
theorem Kp.trans (h : Kp w w' S) (k : Kp w' w2 S2) (hs : ∀ x, S2 x → S x ∨ w.heap.size ≤ x) : Kp w w2 S :=
  ⟨k.os.trans h.os, k.tape.trans h.tape, k.output.trans h.output, Nat.le_trans h.size k.size, fun i hi h1 =>
    (k.block i (Nat.lt_of_lt_of_le hi h.size) (fun e => by rcases hs i e with e2 | e2; exact h1 e2; omega)).trans (h.block i hi h1)⟩
theorem Kp.grown (h : Kp w w' S) {row : Option Nat} (k : w'.grownBy w2 row) (hs : ∀ x, row = some x → S x ∨ w.heap.size ≤ x) : Kp w w2 S :=
  h.trans (S2 := fun x => row = some x) ⟨k.os, k.tape, k.output, k.size, fun i hi h1 => k.block i hi (fun e => h1 e.symm)⟩ hs
theorem Kp.bel (h : Kp w w' S) (k : Below w'.heap.size w' w2) : Kp w w2 S :=
  h.trans (S2 := fun x => False) ⟨k.os, k.tape, k.output, k.size, fun i hi _ => k.block i hi⟩ (fun _ e => e.elim)
theorem Kp.below (h : Kp w w' S) {B : Nat} (hB : B ≤ w.heap.size) (hs : ∀ x, S x → B ≤ x) : Below B w w' :=
  ⟨h.os, h.tape, h.output, h.size, fun k hk => h.block k (by omega) (fun e => by have := hs k e; omega)⟩
theorem Kp.more (h : Kp w w' S) (hs : ∀ x, S x → S2 x ∨ w.heap.size ≤ x) : Kp w w' S2 :=
  ⟨h.os, h.tape, h.output, h.size, fun k hk h1 => h.block k hk (fun e => by rcases hs k e with e2 | e2; exact h1 e2; omega)⟩
theorem ownsRow_kp {B n size : Nat} {e : TypeId} {v : Value} {xs : List Value} (h : w.ownsRow B e size v n xs) (hk : Kp w w' S) (hn : ∀ k, v.ownBlock = some k → ¬ S k) : w'.ownsRow B e size v n xs := by
  refine ⟨h.1, ?_⟩
  rcases h.2 with h2 | ⟨g, cap, cur, e1, hb, hg, rest⟩
  · exact .inl h2
  · have hl : g < w.heap.size := (World.ownsRow.lt h g (by rw [e1]; rfl)).2
    exact .inr ⟨g, cap, cur, e1, hb, (hk.block g hl (hn g (by rw [e1]; rfl))).trans hg, rest⟩
theorem Blk.kp {g : Nat} {t : TypeId} {cs : Array Value} (h : Blk w g t cs) (hk : Kp w w' S) (hn : ¬ S g) : Blk w' g t cs := (hk.block g h.lt hn).trans h
end
def apart (u v : Value) : Prop := ∀ k, u.ownBlock = some k → v.ownBlock ≠ some k
theorem apart.symm {u v : Value} (h : apart u v) : apart v u := fun k e1 e2 => h k e2 e1
/-- The blocks of four slice values. -/
def RowS (ve vt vs vk : Value) (k : Nat) : Prop := ve.ownBlock = some k ∨ vt.ownBlock = some k ∨ vs.ownBlock = some k ∨ vk.ownBlock = some k
/-- The four lists of a state lie in memory, each in a block of its own. -/
structure StM (w : World) (B : Nat) (ve vt vs vk : Value) (s : Mc) : Prop where
  e : OwnZ w B ve s.en
  t : OwnZ w B vt s.tr
  z : OwnZ w B vs s.sw
  k : OwnW w B vk s.wk
  et : apart ve vt
  es : apart ve vs
  ek : apart ve vk
  ts : apart vt vs
  tk : apart vt vk
  sk : apart vs vk
/-- From a state in memory to another one: nothing but its own rows is written, the new rows are old ones or new. -/
structure Fol (w : World) (R : Nat → Prop) (w' : World) (R' : Nat → Prop) : Prop where
  kp : Kp w w' R
  sub : ∀ k, R' k → R k ∨ w.heap.size ≤ k
theorem Fol.refl (w : World) (R : Nat → Prop) : Fol w R w R := ⟨Kp.refl _ _, fun _ h => .inl h⟩
theorem Fol.trans {a b c : World} {R R2 R3 : Nat → Prop} (h : Fol a R b R2) (k : Fol b R2 c R3) : Fol a R c R3 :=
  ⟨h.kp.trans k.kp h.sub, fun x hx => by
    rcases k.sub x hx with e | e
    · exact h.sub x e
    · have := h.kp.size; right; omega⟩
section
variable {w w' : World} {B : Nat} {ve vt vs vk : Value} {s : Mc}
theorem StM.lt (h : StM w B ve vt vs vk s) : ∀ k, RowS ve vt vs vk k → B ≤ k ∧ k < w.heap.size := by
  rintro k (e | e | e | e)
  · exact World.ownsRow.lt h.e k e
  · exact World.ownsRow.lt h.t k e
  · exact World.ownsRow.lt h.z k e
  · exact World.ownsRow.lt h.k k e
theorem StM.kp {S : Nat → Prop} (h : StM w B ve vt vs vk s) (hk : Kp w w' S) (hn : ∀ k, RowS ve vt vs vk k → ¬ S k) : StM w' B ve vt vs vk s :=
  ⟨ownsRow_kp h.e hk fun k e => hn k (.inl e), ownsRow_kp h.t hk fun k e => hn k (.inr (.inl e)), ownsRow_kp h.z hk fun k e => hn k (.inr (.inr (.inl e))), ownsRow_kp h.k hk fun k e => hn k (.inr (.inr (.inr e))), h.et, h.es, h.ek, h.ts, h.tk, h.sk⟩
theorem StM.bel (h : StM w B ve vt vs vk s) (hb : Below w.heap.size w w') : StM w' B ve vt vs vk s := h.kp (S := fun _ => False) ((Kp.refl w _).bel hb) (fun _ _ => id)
theorem StM.drew (h : StM w B ve vt vs vk s) : StM w.drew B ve vt vs vk s := h.kp (Kp.refl w (fun _ => False)).drew (fun _ _ => id)
theorem StM.drewN (h : StM w B ve vt vs vk s) (n : Nat) : StM (w.drewN n) B ve vt vs vk s := h.kp ((Kp.refl w (fun _ => False)).drewN n) (fun _ _ => id)
theorem StM.alloc (h : StM w B ve vt vs vk s) (o : Obj) : StM (w.alloc o) B ve vt vs vk s := h.kp ((Kp.refl w (fun _ => False)).alloc o) (fun _ _ => id)
theorem StM.less {B' : Nat} (h : StM w B ve vt vs vk s) (hB : B' ≤ B) : StM w B' ve vt vs vk s := by
  have ho : ∀ {e : TypeId} {size n : Nat} {v : Value} {xs : List Value}, w.ownsRow B e size v n xs → w.ownsRow B' e size v n xs := fun h => ⟨h.1, by
    rcases h.2 with h2 | ⟨g, cap, cur, e1, hb, rest⟩
    · exact .inl h2
    · exact .inr ⟨g, cap, cur, e1, by omega, rest⟩⟩
  exact ⟨ho h.e, ho h.t, ho h.z, ho h.k, h.et, h.es, h.ek, h.ts, h.tk, h.sk⟩
theorem OwnW.less {B' : Nat} {v : Value} {wk : List (Nat × Int)} (h : OwnW w B v wk) (hB : B' ≤ B) : OwnW w B' v wk := ⟨h.1, by
    rcases h.2 with h2 | ⟨g, cap, cur, e1, hb, rest⟩
    · exact .inl h2
    · exact .inr ⟨g, cap, cur, e1, by omega, rest⟩⟩
theorem StM.hi (h : StM w B ve vt vs vk s) (hi : Bool) : StM w B ve vt vs vk { s with hi := hi } := ⟨h.e, h.t, h.z, h.k, h.et, h.es, h.ek, h.ts, h.tk, h.sk⟩
theorem StM.nx (h : StM w B ve vt vs vk s) (n : Nat) : StM w B ve vt vs vk { s with nx := n } := ⟨h.e, h.t, h.z, h.k, h.et, h.es, h.ek, h.ts, h.tk, h.sk⟩
end
/-- A task is written into a block. -/
def fill5 (w : World) (b : Nat) (v0 v1 v2 v3 v4 : Value) : World :=
  ((((w.setCell ⟨b, 0, none⟩ v0).setCell ⟨b, 1, none⟩ v1).setCell ⟨b, 2, none⟩ v2).setCell ⟨b, 3, none⟩ v3).setCell ⟨b, 4, none⟩ v4
section
variable {w w' : World} {b : Nat} {v0 v1 v2 v3 v4 : Value}
theorem Blk.fill5 {t : TypeId} {a0 a1 a2 a3 a4 : Value} (h : Blk w b t #[a0, a1, a2, a3, a4]) : Blk (Go.Proofs.YtgponahmkjohiabGreatDoor.fill5 w b v0 v1 v2 v3 v4) b t #[v0, v1, v2, v3, v4] := by
  have h8 := ((((h.set_ 0 v0).set_ 1 v1).set_ 2 v2).set_ 3 v3).set_ 4 v4
  simpa [Go.Proofs.YtgponahmkjohiabGreatDoor.fill5] using h8
theorem Kp.fill5 {S : Nat → Prop} (h : Kp w w' S) (ha : S b ∨ w.heap.size ≤ b) : Kp w (Go.Proofs.YtgponahmkjohiabGreatDoor.fill5 w' b v0 v1 v2 v3 v4) S :=
  ((((h.set (a := ⟨b, 0, none⟩) ha v0).set (a := ⟨b, 1, none⟩) ha v1).set (a := ⟨b, 2, none⟩) ha v2).set (a := ⟨b, 3, none⟩) ha v3).set (a := ⟨b, 4, none⟩) ha v4
theorem Blk.five {g : Nat} {t : TypeId} {a b c d e : Value} (h : Blk w g t #[a, b, c, d, e]) : w.cell? ⟨g, 0, none⟩ = some a ∧ w.cell? ⟨g, 1, none⟩ = some b ∧ w.cell? ⟨g, 2, none⟩ = some c ∧ w.cell? ⟨g, 3, none⟩ = some d ∧ w.cell? ⟨g, 4, none⟩ = some e :=
  ⟨h.cell 0, h.cell 1, h.cell 2, h.cell 3, h.cell 4⟩
end
end Go.Proofs.YtgponahmkjohiabGreatDoor

namespace Go.Proofs.YtgponahmkjohiabGreatDoor
open Go.RowKit
set_option linter.unusedVariables false
/-- What the machine's block holds: its lists, its order, its mode, how many jobs came, the places that are left, how many these are, the ticks that are done, the run. -/
structure Pm where
  L : Value
  J : Value
  O : Value
  mo : Value
  cm : Nat
  lf : List Int
  cn : Nat
  dn : List Int
  E : Value
  T : Value
  S : Value
  hi : Bool
def Pm.cs (p : Pm) : List Value := p.L :: p.J :: p.O :: p.mo :: .int .i64 (p.cm : Int) :: (p.lf.map (Value.int .i64) ++ (.int .i64 (p.cn : Int) :: (p.dn.map (Value.int .i64) ++ [p.E, p.T, p.S, .bool p.hi])))
structure PAt (w : World) (M : Nat) (p : Pm) : Prop where
  l : p.lf.length = 60
  d : p.dn.length = 60
  blk : Blk w M 84 p.cs.toArray
section
variable {p : Pm}
theorem Pm.g_left (hl : p.lf.length = 60) {i : Nat} (hi : i < 60) : p.cs[5 + i]? = some (.int .i64 (p.lf.getD i 0)) := by
  have e : 5 + i = i + 1 + 1 + 1 + 1 + 1 := by omega
  unfold Pm.cs
  rw [e]
  simp only [List.getElem?_cons_succ]
  rw [List.getElem?_append_left (by rw [List.length_map]; omega), List.getElem?_map]
  simp [List.getD, List.getElem?_eq_getElem (show i < p.lf.length by omega)]
theorem Pm.g_right (hl : p.lf.length = 60) (i : Nat) : p.cs[65 + i]? = (Value.int .i64 (p.cn : Int) :: (p.dn.map (Value.int .i64) ++ [p.E, p.T, p.S, .bool p.hi]))[i]? := by
  have e : 65 + i = 60 + i + 1 + 1 + 1 + 1 + 1 := by omega
  unfold Pm.cs
  rw [e]
  simp only [List.getElem?_cons_succ]
  rw [List.getElem?_append_right (by rw [List.length_map]; omega), List.length_map, hl, show 60 + i - 60 = i by omega]
theorem Pm.g_done (hl : p.lf.length = 60) (hd : p.dn.length = 60) {k : Nat} (hk : k < 60) : p.cs[66 + k]? = some (.int .i64 (p.dn.getD k 0)) := by
  rw [show 66 + k = 65 + (k + 1) by omega, Pm.g_right hl, List.getElem?_cons_succ, List.getElem?_append_left (by rw [List.length_map]; omega), List.getElem?_map]
  simp [List.getD, List.getElem?_eq_getElem (show k < p.dn.length by omega)]
theorem Pm.g_end (hl : p.lf.length = 60) (hd : p.dn.length = 60) (i : Nat) : p.cs[126 + i]? = [p.E, p.T, p.S, .bool p.hi][i]? := by
  rw [show 126 + i = 65 + (60 + i + 1) by omega, Pm.g_right hl, List.getElem?_cons_succ, List.getElem?_append_right (by rw [List.length_map]; omega), List.length_map, hd, show 60 + i - 60 = i by omega]
theorem Pm.s_left (hl : p.lf.length = 60) {i : Nat} (hi : i < 60) (z : Int) : p.cs.set (5 + i) (.int .i64 z) = ({ p with lf := p.lf.set i z } : Pm).cs := by
  have e : 5 + i = i + 1 + 1 + 1 + 1 + 1 := by omega
  unfold Pm.cs
  rw [e]
  simp only [List.set_cons_succ]
  rw [List.set_append_left _ _ (by rw [List.length_map]; omega), List.map_set]
theorem Pm.s_right (hl : p.lf.length = 60) (i : Nat) (u : Value) : p.cs.set (65 + i) u = p.L :: p.J :: p.O :: p.mo :: .int .i64 (p.cm : Int) :: (p.lf.map (Value.int .i64) ++ (Value.int .i64 (p.cn : Int) :: (p.dn.map (Value.int .i64) ++ [p.E, p.T, p.S, .bool p.hi])).set i u) := by
  have e : 65 + i = 60 + i + 1 + 1 + 1 + 1 + 1 := by omega
  unfold Pm.cs
  rw [e]
  simp only [List.set_cons_succ]
  rw [List.set_append_right _ _ (by rw [List.length_map]; omega), List.length_map, hl, show 60 + i - 60 = i by omega]
theorem Pm.s_cnt (hl : p.lf.length = 60) (n : Nat) : p.cs.set 65 (.int .i64 (n : Int)) = ({ p with cn := n } : Pm).cs := by
  rw [show (65 : Nat) = 65 + 0 from rfl, Pm.s_right hl]
  rfl
theorem Pm.s_done (hl : p.lf.length = 60) (hd : p.dn.length = 60) {k : Nat} (hk : k < 60) (z : Int) : p.cs.set (66 + k) (.int .i64 z) = ({ p with dn := p.dn.set k z } : Pm).cs := by
  rw [show 66 + k = 65 + (k + 1) by omega, Pm.s_right hl, List.set_cons_succ, List.set_append_left _ _ (by rw [List.length_map]; omega), ← List.map_set]
  rfl
theorem Pm.s_end (hl : p.lf.length = 60) (hd : p.dn.length = 60) (i : Nat) (u : Value) : p.cs.set (126 + i) u = p.L :: p.J :: p.O :: p.mo :: .int .i64 (p.cm : Int) :: (p.lf.map (Value.int .i64) ++ (Value.int .i64 (p.cn : Int) :: (p.dn.map (Value.int .i64) ++ [p.E, p.T, p.S, .bool p.hi].set i u))) := by
  rw [show 126 + i = 65 + (60 + i + 1) by omega, Pm.s_right hl, List.set_cons_succ, List.set_append_right _ _ (by rw [List.length_map]; omega), List.length_map, hd, show 60 + i - 60 = i by omega]
end
section
variable {w w' : World} {M : Nat} {p : Pm}
theorem PAt.lt (h : PAt w M p) : M < w.heap.size := h.blk.lt
theorem PAt.frozen (h : PAt w M p) : ∀ i, w.frozen? ⟨M, i, none⟩ = false := h.blk.frozen
theorem PAt.c0 (h : PAt w M p) : w.cell? ⟨M, 0, none⟩ = some p.L := (h.blk.cell 0).trans (by simp [Pm.cs])
theorem PAt.c1 (h : PAt w M p) : w.cell? ⟨M, 1, none⟩ = some p.J := (h.blk.cell 1).trans (by simp [Pm.cs])
theorem PAt.c2 (h : PAt w M p) : w.cell? ⟨M, 2, none⟩ = some p.O := (h.blk.cell 2).trans (by simp [Pm.cs])
theorem PAt.c3 (h : PAt w M p) : w.cell? ⟨M, 3, none⟩ = some p.mo := (h.blk.cell 3).trans (by simp [Pm.cs])
theorem PAt.c4 (h : PAt w M p) : w.cell? ⟨M, 4, none⟩ = some (.int .i64 (p.cm : Int)) := (h.blk.cell 4).trans (by simp [Pm.cs])
theorem PAt.left (h : PAt w M p) {i : Nat} (hi : i < 60) : w.cell? ⟨M, 5 + i, none⟩ = some (.int .i64 (p.lf.getD i 0)) := (h.blk.cell _).trans (by rw [List.getElem?_toArray]; exact Pm.g_left h.l hi)
theorem PAt.c65 (h : PAt w M p) : w.cell? ⟨M, 65, none⟩ = some (.int .i64 (p.cn : Int)) := (h.blk.cell _).trans (by rw [List.getElem?_toArray]; exact Pm.g_right h.l 0)
theorem PAt.done (h : PAt w M p) {i : Nat} (hi : i < 60) : w.cell? ⟨M, 66 + i, none⟩ = some (.int .i64 (p.dn.getD i 0)) := (h.blk.cell _).trans (by rw [List.getElem?_toArray]; exact Pm.g_done h.l h.d hi)
theorem PAt.c126 (h : PAt w M p) : w.cell? ⟨M, 126, none⟩ = some p.E := (h.blk.cell _).trans (by rw [List.getElem?_toArray]; exact Pm.g_end h.l h.d 0)
theorem PAt.c127 (h : PAt w M p) : w.cell? ⟨M, 127, none⟩ = some p.T := (h.blk.cell _).trans (by rw [List.getElem?_toArray]; exact Pm.g_end h.l h.d 1)
theorem PAt.c128 (h : PAt w M p) : w.cell? ⟨M, 128, none⟩ = some p.S := (h.blk.cell _).trans (by rw [List.getElem?_toArray]; exact Pm.g_end h.l h.d 2)
theorem PAt.c129 (h : PAt w M p) : w.cell? ⟨M, 129, none⟩ = some (.bool p.hi) := (h.blk.cell _).trans (by rw [List.getElem?_toArray]; exact Pm.g_end h.l h.d 3)
theorem PAt.drew (h : PAt w M p) : PAt w.drew M p := ⟨h.l, h.d, h.blk⟩
theorem PAt.drewN (h : PAt w M p) (n : Nat) : PAt (w.drewN n) M p := ⟨h.l, h.d, h.blk⟩
theorem PAt.alloc (h : PAt w M p) (o : Obj) : PAt (w.alloc o) M p := ⟨h.l, h.d, h.blk.alloc o⟩
theorem PAt.far (h : PAt w M p) {a : Addr} (ha : M ≠ a.block) (u : Value) : PAt (w.setCell a u) M p := ⟨h.l, h.d, h.blk.far ha u⟩
theorem PAt.bel (h : PAt w M p) (hb : Below w.heap.size w w') : PAt w' M p := ⟨h.l, h.d, h.blk.below hb h.lt⟩
theorem PAt.kp {S : Nat → Prop} (h : PAt w M p) (hk : Kp w w' S) (hn : ¬ S M) : PAt w' M p := ⟨h.l, h.d, h.blk.kp hk hn⟩
theorem PAt.grown {row : Option Nat} (h : PAt w M p) (hb : w.grownBy w' row) (hg : some M ≠ row) : PAt w' M p := ⟨h.l, h.d, h.blk.grown hb hg⟩
theorem PAt.same (h : PAt w M p) (e : w'.heap[M]? = w.heap[M]?) : PAt w' M p := ⟨h.l, h.d, e.trans h.blk⟩
theorem PAt.setc (h : PAt w M p) {q : Pm} (i : Nat) (u : Value) (e : p.cs.set i u = q.cs) (hl : q.lf.length = 60) (hd : q.dn.length = 60) : PAt (w.setCell ⟨M, i, none⟩ u) M q := by
  refine ⟨hl, hd, ?_⟩
  have h1 := h.blk.set_ i u
  rw [List.setIfInBounds_toArray, e] at h1
  exact h1
theorem PAt.sO (h : PAt w M p) (u : Value) : PAt (w.setCell ⟨M, 2, none⟩ u) M { p with O := u } := h.setc 2 u rfl h.l h.d
theorem PAt.sMo (h : PAt w M p) (u : Value) : PAt (w.setCell ⟨M, 3, none⟩ u) M { p with mo := u } := h.setc 3 u rfl h.l h.d
theorem PAt.sCm (h : PAt w M p) (n : Nat) : PAt (w.setCell ⟨M, 4, none⟩ (.int .i64 (n : Int))) M { p with cm := n } := h.setc 4 _ rfl h.l h.d
theorem PAt.sLf (h : PAt w M p) {i : Nat} (hi : i < 60) (z : Int) : PAt (w.setCell ⟨M, 5 + i, none⟩ (.int .i64 z)) M { p with lf := p.lf.set i z } := h.setc (5 + i) _ (Pm.s_left h.l hi z) (by simp [h.l]) h.d
theorem PAt.sCn (h : PAt w M p) (n : Nat) : PAt (w.setCell ⟨M, 65, none⟩ (.int .i64 (n : Int))) M { p with cn := n } := h.setc 65 _ (Pm.s_cnt h.l n) h.l h.d
theorem PAt.sDn (h : PAt w M p) {i : Nat} (hi : i < 60) (z : Int) : PAt (w.setCell ⟨M, 66 + i, none⟩ (.int .i64 z)) M { p with dn := p.dn.set i z } := h.setc (66 + i) _ (Pm.s_done h.l h.d hi z) h.l (by simp [h.d])
theorem PAt.sE (h : PAt w M p) (u : Value) : PAt (w.setCell ⟨M, 126, none⟩ u) M { p with E := u } := h.setc 126 u (Pm.s_end h.l h.d 0 u) h.l h.d
theorem PAt.sT (h : PAt w M p) (u : Value) : PAt (w.setCell ⟨M, 127, none⟩ u) M { p with T := u } := h.setc 127 u (Pm.s_end h.l h.d 1 u) h.l h.d
theorem PAt.sS (h : PAt w M p) (u : Value) : PAt (w.setCell ⟨M, 128, none⟩ u) M { p with S := u } := h.setc 128 u (Pm.s_end h.l h.d 2 u) h.l h.d
theorem PAt.sHi (h : PAt w M p) (b : Bool) : PAt (w.setCell ⟨M, 129, none⟩ (.bool b)) M { p with hi := b } := h.setc 129 _ (Pm.s_end h.l h.d 3 _) h.l h.d
end
theorem blB {B : Nat} {w w1 w2 : World} (h : Below B w w1) (hB : B ≤ w1.heap.size) (k : Below w1.heap.size w1 w2) : Below B w w2 := h.trans (k.mono hB)
/-- The mode as the machine keeps it. -/
def moV : Bool → Value
  | true => .iface 162 (.agg #[])
  | false => .iface 124 (.agg #[])
end Go.Proofs.YtgponahmkjohiabGreatDoor

namespace Go.Proofs.YtgponahmkjohiabGreatDoor
section
open Go.RowKit
set_option linter.unusedVariables false
def BRes (b : Bool) (w : World) (e : Ending) (w' : World) : Prop := e = .returned (.bool b) ∧ Below w.heap.size w w'
theorem no_of {b : Bool} (h : b = true → False) : b = false := by
  cases b
  · rfl
  · exact (h rfl).elim
theorem tk_get {ts : List Tk} {z : Int} (h0 : 0 ≤ z) (h1 : z < (ts.length : Int)) : ∃ (k : Nat) (t : Tk), z = (k : Int) ∧ k < ts.length ∧ ts[k]? = some t ∧ tkOf ts z = t := by
  have hk : z.toNat < ts.length := by omega
  refine ⟨z.toNat, ts[z.toNat], by omega, hk, List.getElem?_eq_getElem hk, ?_⟩
  unfold tkOf; simp [List.getD, List.getElem?_eq_getElem hk]
/-- When a job is due, and whether it is one. -/
def DueRes (z : Int) (b : Bool) (w : World) (e : Ending) (w' : World) : Prop := e = .returned (.tuple #[.int .i64 z, .bool b]) ∧ Below w.heap.size w w'
end
end Go.Proofs.YtgponahmkjohiabGreatDoor

namespace Go.Proofs.YtgponahmkjohiabGreatDoor
open Go.RowKit
set_option linter.unusedVariables false
theorem m_drL : ∀ w : World, (method 340 124 (.agg #[]) "loop.example/dualmodes/impl.drops").run Tryz.prog w = .ok (187, .agg #[]) w := fun _ => by kernel_rfl
theorem m_drH : ∀ w : World, (method 340 162 (.agg #[]) "loop.example/dualmodes/impl.drops").run Tryz.prog w = .ok (191, .agg #[]) w := fun _ => by kernel_rfl
theorem m_exL : ∀ w : World, (method 340 124 (.agg #[]) "loop.example/dualmodes/impl.exceeded").run Tryz.prog w = .ok (189, .agg #[]) w := fun _ => by kernel_rfl
theorem m_exH : ∀ w : World, (method 340 162 (.agg #[]) "loop.example/dualmodes/impl.exceeded").run Tryz.prog w = .ok (193, .agg #[]) w := fun _ => by kernel_rfl
theorem m_duL : ∀ w : World, (method 340 124 (.agg #[]) "loop.example/dualmodes/impl.dueAfter").run Tryz.prog w = .ok (188, .agg #[]) w := fun _ => by kernel_rfl
theorem m_duH : ∀ w : World, (method 340 162 (.agg #[]) "loop.example/dualmodes/impl.dueAfter").run Tryz.prog w = .ok (192, .agg #[]) w := fun _ => by kernel_rfl
theorem m_hiL : ∀ w : World, (method 340 124 (.agg #[]) "loop.example/dualmodes/impl.high").run Tryz.prog w = .ok (190, .agg #[]) w := fun _ => by kernel_rfl
theorem m_hiH : ∀ w : World, (method 340 162 (.agg #[]) "loop.example/dualmodes/impl.high").run Tryz.prog w = .ok (194, .agg #[]) w := fun _ => by kernel_rfl
def tkV (t : Tk) : Value := .agg #[.int .i64 t.lo, .int .i64 t.hi, .int .i64 t.du, .int .i64 t.ev, .bool t.cr]
theorem hiL_is (w : World) : Calls Tryz.prog 190 #[.agg #[]] w (BRes false w) := by
  go_enter Tryz.func190, Tryz.ntmps190
  go_wp2
  go_ret
  exact ⟨rfl, (by repeat (first | exact Below.refl _ _ | refine bl_alloc ?_ _))⟩
theorem hiH_is (w : World) : Calls Tryz.prog 194 #[.agg #[]] w (BRes true w) := by
  go_enter Tryz.func194, Tryz.ntmps194
  go_wp2
  go_ret
  exact ⟨rfl, (by repeat (first | exact Below.refl _ _ | refine bl_alloc ?_ _))⟩
theorem drL_is (w : World) (t : Tk) : Calls Tryz.prog 187 #[.agg #[], tkV t] w (BRes false w) := by
  unfold tkV
  go_enter Tryz.func187, Tryz.ntmps187
  go_wp2
  go_ret
  exact ⟨rfl, (by repeat (first | exact Below.refl _ _ | refine bl_alloc ?_ _))⟩
theorem drH_is (w : World) (t : Tk) (b : Bool) (hb : (!t.cr) = b) : Calls Tryz.prog 191 #[.agg #[], tkV t] w (BRes b w) := by
  unfold tkV
  obtain ⟨lo, hi, du, ev, cr⟩ := t
  subst hb
  cases cr
  all_goals (
    go_enter Tryz.func191, Tryz.ntmps191
    go_wp2
    go_ret
    exact ⟨rfl, (by repeat (first | exact Below.refl _ _ | refine bl_alloc ?_ _))⟩)
theorem exH_is (w : World) (t : Tk) (d : Int) : Calls Tryz.prog 193 #[.agg #[], tkV t, .int .i64 d] w (BRes false w) := by
  unfold tkV
  go_enter Tryz.func193, Tryz.ntmps193
  go_wp2
  go_ret
  exact ⟨rfl, (by repeat (first | exact Below.refl _ _ | refine bl_alloc ?_ _))⟩
theorem exL_is (w : World) (t : Tk) (d : Int) (b : Bool) (hb : (t.cr && decide (d = t.lo)) = b) : Calls Tryz.prog 189 #[.agg #[], tkV t, .int .i64 d] w (BRes b w) := by
  unfold tkV
  obtain ⟨lo, hi, du, ev, cr⟩ := t
  dsimp only at hb ⊢
  cases cr
  · obtain rfl : b = false := by rw [← hb]; rfl
    clear hb
    go_enter Tryz.func189, Tryz.ntmps189
    go_wp2
    go_ret
    exact ⟨rfl, (by repeat (first | exact Below.refl _ _ | refine bl_alloc ?_ _))⟩
  · rw [Bool.true_and] at hb
    by_cases hd : d = lo
    · obtain rfl : b = true := by rw [← hb]; exact decide_eq_true hd
      subst hd
      clear hb
      have t1 : (d == d) = true := beq_self_eq_true d
      go_enter Tryz.func189, Tryz.ntmps189
      go_wp2
      go_ret
      exact ⟨rfl, (by repeat (first | exact Below.refl _ _ | refine bl_alloc ?_ _))⟩
    · obtain rfl : b = false := by rw [← hb]; exact decide_eq_false hd
      have t1 : (d == lo) = false := by rw [beq_eq_false_iff_ne]; exact hd
      have t2 : decide (d = lo) = false := decide_eq_false hd
      have HD := Lib.hid hd
      clear hb hd
      go_enter Tryz.func189, Tryz.ntmps189
      go_wp2
      go_ret
      exact ⟨rfl, (by repeat (first | exact Below.refl _ _ | refine bl_alloc ?_ _))⟩
def duB (hi : Bool) (t : Tk) (xn xd : Int) : Int := if t.cr && !hi then t.du * xn else t.du * xd
theorem duH_is (w : World) (t : Tk) (xn xd : Int) (h0 : 0 ≤ t.du) (h1 : t.du ≤ 20) (x0 : 0 ≤ xd) (x1 : xd ≤ 1000000000) : Calls Tryz.prog 192 #[.agg #[], tkV t, .agg #[.int .i64 xn, .int .i64 xd]] w fun e w' => e = .returned (.int .i64 (duB true t xn xd)) ∧ Below w.heap.size w w' := by
  unfold tkV
  obtain ⟨lo, hi, du, ev, cr⟩ := t
  dsimp only at h0 h1
  have hb : 0 ≤ du * xd ∧ du * xd ≤ 20 * 1000000000 := ⟨Int.mul_nonneg h0 x0, Int.mul_le_mul h1 x1 x0 (by omega)⟩
  have hw : IntKind.i64.wrap (du * xd) = du * xd := IntWalk.i64_in _ (by omega)
  have e : duB true ⟨lo, hi, du, ev, cr⟩ xn xd = du * xd := by unfold duB; simp
  have HE := Lib.hid e
  clear e hb
  go_enter Tryz.func192, Tryz.ntmps192
  go_wp2
  go_ret
  exact ⟨by rw [HE.out]; rfl, (by repeat (first | exact Below.refl _ _ | refine bl_alloc ?_ _))⟩
theorem duL_is (w : World) (t : Tk) (xn xd : Int) (h0 : 0 ≤ t.du) (h1 : t.du ≤ 20) (y0 : 0 ≤ xn) (y1 : xn ≤ 1000000000) (x0 : 0 ≤ xd) (x1 : xd ≤ 1000000000) : Calls Tryz.prog 188 #[.agg #[], tkV t, .agg #[.int .i64 xn, .int .i64 xd]] w fun e w' => e = .returned (.int .i64 (duB false t xn xd)) ∧ Below w.heap.size w w' := by
  unfold tkV
  obtain ⟨lo, hi, du, ev, cr⟩ := t
  dsimp only at h0 h1
  have hb : 0 ≤ du * xd ∧ du * xd ≤ 20 * 1000000000 := ⟨Int.mul_nonneg h0 x0, Int.mul_le_mul h1 x1 x0 (by omega)⟩
  have hb2 : 0 ≤ du * xn ∧ du * xn ≤ 20 * 1000000000 := ⟨Int.mul_nonneg h0 y0, Int.mul_le_mul h1 y1 y0 (by omega)⟩
  have hw : IntKind.i64.wrap (du * xd) = du * xd := IntWalk.i64_in _ (by omega)
  have hw2 : IntKind.i64.wrap (du * xn) = du * xn := IntWalk.i64_in _ (by omega)
  cases cr
  · have HE := Lib.hid (show duB false ⟨lo, hi, du, ev, false⟩ xn xd = du * xd from rfl)
    clear hb hb2
    go_enter Tryz.func188, Tryz.ntmps188
    go_wp2
    go_ret
    exact ⟨by rw [HE.out]; rfl, (by repeat (first | exact Below.refl _ _ | refine bl_alloc ?_ _))⟩
  · have HE := Lib.hid (show duB false ⟨lo, hi, du, ev, true⟩ xn xd = du * xn from rfl)
    clear hb hb2
    go_enter Tryz.func188, Tryz.ntmps188
    go_wp2
    go_ret
    exact ⟨by rw [HE.out]; rfl, (by repeat (first | exact Below.refl _ _ | refine bl_alloc ?_ _))⟩
end Go.Proofs.YtgponahmkjohiabGreatDoor

namespace Go.Proofs.YtgponahmkjohiabGreatDoor
open Go.RowKit
set_option linter.unusedVariables false
set_option maxHeartbeats 2000000 in
theorem iTaken_is (w : World) (M : Nat) (p : Pm) (h : PAt w M p) (hc : p.cn ≤ 60) :
    Calls Tryz.prog 137 #[.pointer (some ⟨M, 5, none⟩)] w fun e w' => e = .returned (.slice (some ⟨M, 5, none⟩) p.cn 60) ∧ Below w.heap.size w w' := by
  have c65 := h.c65
  have h0 : (0 : Int) ≤ (p.cn : Int) := by omega
  have h1 : (p.cn : Int) ≤ 60 := by omega
  clear h
  go_enter Tryz.func137, Tryz.ntmps137
  go_wp2
  go_quiet (fail)
  go_wp2
  go_ret
  exact ⟨rfl, (by repeat (first | exact Below.refl _ _ | refine bl_drewN ?_ _ | refine Below.drew ?_))⟩
/-- What keep leaves: those places for which something is so. -/
def KeepRes (M : Nat) (p : Pm) (stay : Int → Bool) (I : Nat → World → Prop) (e : Ending) (w' : World) : Prop :=
  ∃ lf : List Int, e = .returned (.tuple #[]) ∧ PAt w' M { p with lf := lf, cn := ((p.lf.take p.cn).filter stay).length } ∧ lf.take ((p.lf.take p.cn).filter stay).length = (p.lf.take p.cn).filter stay ∧ I p.cn w'
theorem filt_take {stay : Int → Bool} {l : List Int} {k : Nat} {z : Int} (h : l[k]? = some z) : (l.take (k + 1)).filter stay = (l.take k).filter stay ++ (if stay z then [z] else []) := by
  rw [List.take_add_one, List.filter_append, h]
  by_cases hs : stay z <;> simp [hs]
theorem take_set_snoc {l : List Int} {m : Nat} (hm : m < l.length) (z : Int) : (l.set m z).take (m + 1) = l.take m ++ [z] := by
  rw [List.take_add_one, List.take_set_of_le (Nat.le_refl _), List.getElem?_set_self hm]
  rfl
set_option maxRecDepth 100000 in
set_option maxHeartbeats 4000000 in
theorem iPlKeep_is (w : World) (M k : Nat) (cap : Array Value) (p : Pm) (stay : Int → Bool) (I : Nat → World → Prop) (hp : PAt w M p) (hc : p.cn ≤ 60)
    (ek : ∀ args w, (callFunc k args).run Tryz.prog w = .ok (.enter k args) w)
    (h0 : I 0 w) (hset : ∀ i W j u, I i W → I i (W.setCell ⟨M, j, none⟩ u)) (hbel : ∀ i W W', I i W → Below W.heap.size W W' → I i W')
    (hcall : ∀ (i : Nat) (lf : List Int) (W : World), i < p.cn → I i W → PAt W M { p with lf := lf } → Calls Tryz.prog k (#[.int .i64 (p.lf.getD i 0)] ++ cap) W fun e W' => e = .returned (.bool (stay (p.lf.getD i 0))) ∧ I (i + 1) W' ∧ PAt W' M { p with lf := lf }) :
    Calls Tryz.prog 138 #[.pointer (some ⟨M, 5, none⟩), .func (.func k) #[] cap] w (KeepRes M p stay I) := by
  have HP := Lib.hid hp
  have HI0 := Lib.hid h0
  have HST := Lib.hid hset
  have HBL := Lib.hid hbel
  have HC := Lib.hid hcall
  have HL := Lib.hid hp.l
  clear hp h0 hset hbel hcall
  go_enter Tryz.func138, Tryz.ntmps138
  go_wp2_with fail
  refine (iTaken_is _ M p HP.out hc).mono ?_
  rintro e w1 ⟨rfl, hb⟩
  have HP1 := Lib.hid (HP.out.bel hb)
  have HI1 := Lib.hid (HBL.out 0 _ _ HI0.out hb)
  clear hb
  go_wp2
  go_loopw [4, 10] (fun v i wr => ∃ (j m : Nat) (lf : List Int), j ≤ p.cn ∧ m ≤ j ∧ i = .int .i64 j ∧ v = .int .i64 m ∧ Hid (m = ((p.lf.take j).filter stay).length) ∧ Hid (lf.take m = (p.lf.take j).filter stay) ∧ Hid (∀ i, j ≤ i → lf.getD i 0 = p.lf.getD i 0) ∧ Hid (PAt wr M { p with lf := lf }) ∧ Hid (I j wr)) (fun _ i _ => p.cn - (intOf i).toNat)
  case atStart => exact ⟨0, 0, p.lf, Nat.zero_le _, Nat.le_refl _, rfl, rfl, Lib.hid (by simp), Lib.hid (by simp), Lib.hid (fun _ _ => rfl), HP1, HI1⟩
  case round =>
    obtain ⟨j, m, lf, hj, hm, rfl, rfl, HM, HTK, HSM, HPR, HIR⟩ := hrel
    by_cases hlt : j < p.cn
    · have cj : wr.cell? ⟨M, 5 + j, none⟩ = some (.int .i64 (p.lf.getD j 0)) := by
        have := HPR.out.left (i := j) (by omega)
        dsimp only at this
        rw [HSM.out j (Nat.le_refl _)] at this
        exact this
      have q0 : (0 : Int) ≤ (j : Int) := by omega
      have q1 : (j : Int) < (p.cn : Int) := by omega
      obtain ⟨z, hz⟩ : ∃ z, p.lf.getD j 0 = z := ⟨_, rfl⟩
      have hzj : p.lf[j]? = some z := by
        have : j < p.lf.length := by have := HL.out; omega
        rw [List.getElem?_eq_getElem this, ← hz]
        simp [List.getD, List.getElem?_eq_getElem this]
      have hcc := HC.out j lf wr hlt HIR.out HPR.out
      rw [hz] at hcc cj
      have HZ := Lib.hid hzj
      have HCC := Lib.hid hcc
      have HL1 := Lib.hid (HPR.out.l)
      clear hz hzj hcc
      cases hs : stay z
      · have HS := Lib.hid hs
        rw [hs] at HCC
        clear hs
        go_wp2_with (go_at_fn k; refine HCC.out.mono ?_; rintro e w2 ⟨rfl, hi2, hp2⟩; have HI2 := Lib.hid hi2; have HP2 := Lib.hid hp2; clear hi2 hp2 cj)
        have HF : Hid ((p.lf.take (j + 1)).filter stay = (p.lf.take j).filter stay) := Lib.hid (by rw [filt_take HZ.out, if_neg (by rw [HS.out]; decide), List.append_nil])
        go_roundw
        case rel => exact ⟨j + 1, m, lf, by omega, by omega, by go_num, rfl, Lib.hid (by rw [HF.out]; exact HM.out), Lib.hid (by rw [HF.out]; exact HTK.out), Lib.hid (fun i hi => HSM.out i (by omega)), HP2, HI2⟩
        case measure => simp [intOf]; omega
      · have HS := Lib.hid hs
        rw [hs] at HCC
        clear hs
        have m0 : (0 : Int) ≤ (m : Int) := by omega
        have m1 : (m : Int) < 60 := by omega
        go_wp2_with (go_at_fn k; refine HCC.out.mono ?_; rintro e w2 ⟨rfl, hi2, hp2⟩; have HI2 := Lib.hid (HST.out _ _ (5 + m) (.int .i64 z) hi2); have HP2 := Lib.hid (hp2.sLf (i := m) (by omega) z); have f2 := hp2.frozen; have e2 := hp2.left (i := m) (by omega); clear hi2 hp2 cj)
        have HF : Hid ((p.lf.take (j + 1)).filter stay = (p.lf.take j).filter stay ++ [z]) := Lib.hid (by rw [filt_take HZ.out, if_pos HS.out])
        go_roundw
        case rel => exact ⟨j + 1, m + 1, lf.set m z, by omega, by omega, by go_num, by go_num, Lib.hid (by rw [HF.out, List.length_append, ← HM.out]; rfl), Lib.hid (by rw [take_set_snoc (by have := HL1.out; (try dsimp only at this); omega), HF.out, HTK.out]), Lib.hid (fun i hi => by
          have := HSM.out i (by omega)
          rw [← this]
          simp only [List.getD]
          rw [List.getElem?_set_ne (by omega)]), HP2, HI2⟩
        case measure => simp [intOf]; omega
    · obtain rfl : j = p.cn := by omega
      have f2 := HPR.out.frozen
      have e65 := HPR.out.c65
      have HX : Hid (KeepRes M p stay I (.returned (.tuple #[])) (wr.setCell ⟨M, 65, none⟩ (.int .i64 (m : Int)))) := Lib.hid (by
        refine ⟨lf, rfl, ?_, ?_, HST.out _ _ 65 _ HIR.out⟩
        · have h := HPR.out.sCn m
          rw [← HM.out]
          exact h
        · rw [← HM.out]; exact HTK.out)
      go_wp2
      go_end0
      exact HX.out
end Go.Proofs.YtgponahmkjohiabGreatDoor
