import Derived.Test.YtgponahmkjohiabGreatDoorT2ND
namespace Go.Proofs.YtgponahmkjohiabGreatDoor
open Go.RowKit
set_option linter.unusedVariables false
theorem info_work : (Tryz.prog.info? 136).map (fun i => (i.zero, i.size, i.bytes)) = some (some (.agg #[.int .i64 0, .int .i64 0]), 2, 16) := by kernel_rfl
def wkC (q : Nat × Int) : List Value := [.int .i64 (q.1 : Int), .int .i64 q.2]
/-- The slice value v is the call's own and holds the jobs that are left with the ticks that are done. -/
def OwnW (w : World) (B : Nat) (v : Value) (wk : List (Nat × Int)) : Prop := w.ownsRow B 136 2 v wk.length (wk.flatMap wkC)
theorem wkC_len (wk : List (Nat × Int)) : (wk.flatMap wkC).length = wk.length * 2 := by
  induction wk with
  | nil => rfl
  | cons t ts ih => simp [List.flatMap_cons, wkC, ih]; omega
theorem wkC_one (wk : List (Nat × Int)) : ∀ u ∈ wk.flatMap wkC, u.oneCell' = true := by
  intro u hu
  simp only [List.mem_flatMap, wkC] at hu
  obtain ⟨t, _, h⟩ := hu
  simp at h
  rcases h with rfl | rfl <;> rfl
theorem wkC_get : ∀ (wk : List (Nat × Int)) (k : Nat) (q : Nat × Int), wk[k]? = some q → (wk.flatMap wkC)[k * 2]? = some (.int .i64 (q.1 : Int)) ∧ (wk.flatMap wkC)[k * 2 + 1]? = some (.int .i64 q.2)
  | [], k, q, h => by simp at h
  | t :: ts, 0, q, h => by
    simp at h
    subst h
    simp [List.flatMap_cons, wkC]
  | t :: ts, k + 1, q, h => by
    have ih := wkC_get ts k q (by simpa using h)
    have e0 : (k + 1) * 2 = k * 2 + 1 + 1 := by omega
    rw [List.flatMap_cons, e0]
    simpa [wkC] using ih
theorem wkC_set : ∀ (wk : List (Nat × Int)) (k : Nat) (q : Nat × Int) (d : Int), wk[k]? = some q → (wk.flatMap wkC).set (k * 2 + 1) (.int .i64 d) = (wk.set k (q.1, d)).flatMap wkC
  | [], k, q, d, h => by simp at h
  | t :: ts, 0, q, d, h => by
    simp at h
    subst h
    simp [List.flatMap_cons, wkC]
  | t :: ts, k + 1, q, d, h => by
    have ih := wkC_set ts k q d (by simpa using h)
    have e0 : (k + 1) * 2 + 1 = k * 2 + 1 + 1 + 1 := by omega
    rw [List.set_cons_succ, List.flatMap_cons, List.flatMap_cons, ← ih, e0]
    simp [wkC]
section
variable {w w' : World} {B g n c : Nat} {v : Value} {wk : List (Nat × Int)}
theorem OwnW.form (h : OwnW w B v wk) : ∃ A c, v = .slice A wk.length c := by
  rcases h.2 with ⟨rfl, h0⟩ | ⟨g, cap, cur, rfl, _⟩
  · exact ⟨none, 0, by rw [h0]⟩
  · exact ⟨_, _, rfl⟩
theorem OwnW.le {A : Option Addr} (h : OwnW w B (.slice A n c) wk) : n = wk.length ∧ wk.length ≤ c := by
  rcases h.2 with ⟨h1, h0⟩ | ⟨g, cap, cur, h1, _, _, h2, _⟩
  · injection h1 with e1 e2 e3; subst e2; exact ⟨h0.symm, by omega⟩
  · injection h1 with e1 e2 e3; subst e2; exact ⟨rfl, by omega⟩
theorem OwnW.some_ (h : OwnW w B v wk) (hn : 0 < wk.length) : ∃ g c, v = .slice (some ⟨g, 0, none⟩) wk.length c := by
  obtain ⟨g, c, e, _⟩ := World.ownsRow.form h hn
  exact ⟨g, c, e⟩
theorem OwnW.nil_ (w : World) (B : Nat) : OwnW w B (.slice none 0 0) [] := ⟨rfl, .inl ⟨rfl, rfl⟩⟩
theorem OwnW.empty (w : World) : OwnW (w.alloc (.cells #[] 136)) w.heap.size (.slice (some ⟨w.heap.size, 0, none⟩) 0 0) [] :=
  World.ownsRow_made w #[] 0 (Nat.le_refl _) (by unfold maxLen; omega) rfl
theorem OwnW.snoc {q : Nat × Int} (h : w.ownsRow B 136 2 v (wk.length + 1) (wk.flatMap wkC ++ wkC q)) : OwnW w B v (wk ++ [q]) := by
  unfold OwnW
  simpa [List.flatMap_append] using h
theorem OwnW.at_ (h : OwnW w B (.slice (some ⟨g, 0, none⟩) n c) wk) {k : Nat} {q : Nat × Int} (hq : wk[k]? = some q) :
    w.cell? ⟨g, k * 2, none⟩ = some (.int .i64 (q.1 : Int)) ∧ w.cell? ⟨g, k * 2 + 1, none⟩ = some (.int .i64 q.2) := by
  obtain rfl := h.le.1
  have hk : k < wk.length := (List.getElem?_eq_some_iff.1 hq).1
  have hc := wkC_get wk k q hq
  exact ⟨(World.ownsRow.cellAt h _ (by omega)).trans hc.1, (World.ownsRow.cellAt h _ (by omega)).trans hc.2⟩
theorem OwnW.frozen (h : OwnW w B (.slice (some ⟨g, 0, none⟩) n c) wk) : ∀ i, w.frozen? ⟨g, i, none⟩ = false := by
  obtain rfl := h.le.1
  exact World.ownsRow.frozenAt h
theorem OwnW.put (h : OwnW w B (.slice (some ⟨g, 0, none⟩) n c) wk) {k : Nat} {q : Nat × Int} (hq : wk[k]? = some q) (d : Int) :
    OwnW (w.setCell ⟨g, k * 2 + 1, none⟩ (.int .i64 d)) B (.slice (some ⟨g, 0, none⟩) n c) (wk.set k (q.1, d)) := by
  obtain rfl := h.le.1
  have h1 := (World.ownsRow.stored h (k * 2 + 1) (.int .i64 d)).1
  rw [wkC_set wk k q d hq] at h1
  unfold OwnW
  rw [List.length_set]
  exact h1
end
theorem OwnZ.celld {w : World} {B g n c : Nat} {zs : List Int} (h : OwnZ w B (.slice (some ⟨g, 0, none⟩) n c) zs) {j : Nat} (hj : j < zs.length) : w.cell? ⟨g, j, none⟩ = some (.int .i64 (zs.getD j 0)) := by
  have hn : n = zs.length := by
    rcases h.2 with ⟨e, h0⟩ | ⟨g', cap, cur, e, _⟩
    · cases e
    · injection e
  subst hn
  have h1 := World.ownsRow.cellAt h j (by omega)
  rw [h1, List.getElem?_map]
  simp [List.getD, List.getElem?_eq_getElem hj]
theorem add_at (g o j : Nat) : (⟨g, o, none⟩ : Addr).add j = ⟨g, o + j, none⟩ := by unfold Addr.add; split <;> simp_all
theorem OwnW.newsTake {w w' : World} {B g n c : Nat} {wk : List (Nat × Int)} (h : OwnW w B (.slice (some ⟨g, 0, none⟩) n c) wk) (hk : ∀ i, w'.cell? ⟨g, i, none⟩ = w.cell? ⟨g, i, none⟩) (m : Nat) : ∀ j u, ((wk.take m).flatMap wkC)[j]? = some u → w'.cell? ((⟨g, 0, none⟩ : Addr).add j) = some u := by
  intro j u hu
  obtain rfl := h.le.1
  have hj : j < ((wk.take m).flatMap wkC).length := (List.getElem?_eq_some_iff.1 hu).1
  have hl := wkC_len (wk.take m)
  have hle : (wk.take m).length ≤ wk.length := by rw [List.length_take]; omega
  rw [add_at, hk, Nat.zero_add, World.ownsRow.cellAt h j (by omega)]
  conv => lhs; rw [← List.take_append_drop m wk, List.flatMap_append]
  rw [List.getElem?_append_left hj]
  exact hu
theorem OwnW.newsDrop {w w' : World} {B g n c : Nat} {wk : List (Nat × Int)} (h : OwnW w B (.slice (some ⟨g, 0, none⟩) n c) wk) (hk : ∀ i, w'.cell? ⟨g, i, none⟩ = w.cell? ⟨g, i, none⟩) (m : Nat) (hm : m ≤ wk.length) : ∀ j u, ((wk.drop m).flatMap wkC)[j]? = some u → w'.cell? ((⟨g, m * 2, none⟩ : Addr).add j) = some u := by
  intro j u hu
  obtain rfl := h.le.1
  have hj : j < ((wk.drop m).flatMap wkC).length := (List.getElem?_eq_some_iff.1 hu).1
  have hl := wkC_len (wk.drop m)
  have hl2 := wkC_len (wk.take m)
  rw [List.length_drop] at hl
  rw [List.length_take] at hl2
  rw [add_at, hk, World.ownsRow.cellAt h (m * 2 + j) (by omega)]
  conv => lhs; rw [← List.take_append_drop m wk, List.flatMap_append]
  rw [List.getElem?_append_right (by omega), show m * 2 + j - ((wk.take m).flatMap wkC).length = j by omega]
  exact hu
theorem set_takeM {α : Type} (l : List α) (m : Nat) (x : α) : (l.set m x).take m ++ (l.set m x).drop (m + 1) = l.eraseIdx m := by
  rw [List.eraseIdx_eq_take_drop_succ, List.take_set_of_le (Nat.le_refl _), List.drop_set_of_lt (Nat.lt_succ_self _)]
/-- What a call leaves that writes blocks of S alone: all else that was there is as it was. -/
structure Kp (w w' : World) (S : Nat → Prop) : Prop where
  os : w'.os = w.os
  tape : w'.tape = w.tape
  output : w'.output = w.output
  size : w.heap.size ≤ w'.heap.size
  block : ∀ k, k < w.heap.size → ¬ S k → w'.heap[k]? = w.heap[k]?
section
variable {w w' w2 : World} {S S2 : Nat → Prop}
theorem Kp.refl (w : World) (S : Nat → Prop) : Kp w w S := ⟨rfl, rfl, rfl, Nat.le_refl _, fun _ _ _ => rfl⟩
theorem Kp.drew (h : Kp w w' S) : Kp w w'.drew S := ⟨h.os, h.tape, h.output, h.size, h.block⟩
theorem Kp.drewN (h : Kp w w' S) (n : Nat) : Kp w (w'.drewN n) S := ⟨h.os, h.tape, h.output, h.size, h.block⟩
theorem Kp.alloc (h : Kp w w' S) (o : Obj) : Kp w (w'.alloc o) S :=
  ⟨h.os, h.tape, h.output, by simp; have := h.size; omega, fun k hk h1 => (Below.heap_alloc w' o k (Nat.lt_of_lt_of_le hk h.size)).trans (h.block k hk h1)⟩
theorem Kp.set (h : Kp w w' S) {a : Addr} (ha : S a.block ∨ w.heap.size ≤ a.block) (u : Value) : Kp w (w'.setCell a u) S :=
  ⟨h.os, h.tape, h.output, by simp [World.setCell]; exact h.size, fun k hk h1 => (Below.heap_setCell w' a u k (fun e => by rcases ha with h2 | h2; exact h1 (e ▸ h2); omega)).trans (h.block k hk h1)⟩
theorem Kp.trans (h : Kp w w' S) (k : Kp w' w2 S2) (hs : ∀ x, S2 x → S x ∨ w.heap.size ≤ x) : Kp w w2 S :=
  ⟨k.os.trans h.os, k.tape.trans h.tape, k.output.trans h.output, Nat.le_trans h.size k.size, fun i hi h1 =>
    (k.block i (Nat.lt_of_lt_of_le hi h.size) (fun e => by rcases hs i e with e2 | e2; exact h1 e2; omega)).trans (h.block i hi h1)⟩
theorem Kp.grown (h : Kp w w' S) {row : Option Nat} (k : w'.grownBy w2 row) (hs : ∀ x, row = some x → S x ∨ w.heap.size ≤ x) : Kp w w2 S :=
  h.trans (S2 := fun x => row = some x) ⟨k.os, k.tape, k.output, k.size, fun i hi h1 => k.block i hi (fun e => h1 e.symm)⟩ hs
theorem Kp.bel (h : Kp w w' S) (k : Below w'.heap.size w' w2) : Kp w w2 S :=
  h.trans (S2 := fun x => False) ⟨k.os, k.tape, k.output, k.size, fun i hi _ => k.block i hi⟩ (fun _ e => e.elim)
theorem Kp.below (h : Kp w w' S) {B : Nat} (hB : B ≤ w.heap.size) (hs : ∀ x, S x → B ≤ x) : Below B w w' :=
  ⟨h.os, h.tape, h.output, h.size, fun k hk => h.block k (by omega) (fun e => by have := hs k e; omega)⟩
theorem Kp.more (h : Kp w w' S) (hs : ∀ x, S x → S2 x ∨ w.heap.size ≤ x) : Kp w w' S2 :=
  ⟨h.os, h.tape, h.output, h.size, fun k hk h1 => h.block k hk (fun e => by rcases hs k e with e2 | e2; exact h1 e2; omega)⟩
theorem ownsRow_kp {B n size : Nat} {e : TypeId} {v : Value} {xs : List Value} (h : w.ownsRow B e size v n xs) (hk : Kp w w' S) (hn : ∀ k, v.ownBlock = some k → ¬ S k) : w'.ownsRow B e size v n xs := by
  refine ⟨h.1, ?_⟩
  rcases h.2 with h2 | ⟨g, cap, cur, e1, hb, hg, rest⟩
  · exact .inl h2
  · have hl : g < w.heap.size := (World.ownsRow.lt h g (by rw [e1]; rfl)).2
    exact .inr ⟨g, cap, cur, e1, hb, (hk.block g hl (hn g (by rw [e1]; rfl))).trans hg, rest⟩
theorem Blk.kp {g : Nat} {t : TypeId} {cs : Array Value} (h : Blk w g t cs) (hk : Kp w w' S) (hn : ¬ S g) : Blk w' g t cs := (hk.block g h.lt hn).trans h
end
def apart (u v : Value) : Prop := ∀ k, u.ownBlock = some k → v.ownBlock ≠ some k
theorem apart.symm {u v : Value} (h : apart u v) : apart v u := fun k e1 e2 => h k e2 e1
/-- The blocks of four slice values. -/
def RowS (ve vt vs vk : Value) (k : Nat) : Prop := ve.ownBlock = some k ∨ vt.ownBlock = some k ∨ vs.ownBlock = some k ∨ vk.ownBlock = some k
/-- The four lists of a state lie in memory, each in a block of its own. -/
structure StM (w : World) (B : Nat) (ve vt vs vk : Value) (s : Mc) : Prop where
  e : OwnZ w B ve s.en
  t : OwnZ w B vt s.tr
  z : OwnZ w B vs s.sw
  k : OwnW w B vk s.wk
  et : apart ve vt
  es : apart ve vs
  ek : apart ve vk
  ts : apart vt vs
  tk : apart vt vk
  sk : apart vs vk
def stV (ve vt vs vk : Value) (hi : Bool) (nx : Nat) (xn xd : Int) : Value := .agg #[ve, vt, vs, .bool hi, vk, .int .i64 (nx : Int), .int .i64 xn, .int .i64 xd]
def stC (ve vt vs vk : Value) (hi : Bool) (nx : Nat) (xn xd : Int) : Array Value := #[ve, vt, vs, .bool hi, vk, .int .i64 (nx : Int), .int .i64 xn, .int .i64 xd]
/-- From a state in memory to another one: nothing but its own rows is written, the new rows are old ones or new. -/
structure Fol (w : World) (R : Nat → Prop) (w' : World) (R' : Nat → Prop) : Prop where
  kp : Kp w w' R
  sub : ∀ k, R' k → R k ∨ w.heap.size ≤ k
theorem Fol.refl (w : World) (R : Nat → Prop) : Fol w R w R := ⟨Kp.refl _ _, fun _ h => .inl h⟩
theorem Fol.trans {a b c : World} {R R2 R3 : Nat → Prop} (h : Fol a R b R2) (k : Fol b R2 c R3) : Fol a R c R3 :=
  ⟨h.kp.trans k.kp h.sub, fun x hx => by
    rcases k.sub x hx with e | e
    · exact h.sub x e
    · have := h.kp.size; right; omega⟩
section
variable {ve vt vs vk v' : Value} {R : Nat → Prop} {H : Nat}
theorem RowS.subT (hu : ∀ k, RowS ve vt vs vk k → R k ∨ H ≤ k) (hat : ∀ k, v'.ownBlock = some k → vt.ownBlock = some k ∨ H ≤ k) : ∀ k, RowS ve v' vs vk k → R k ∨ H ≤ k := by
  rintro k (e | e | e)
  · exact hu k (.inl e)
  · rcases hat k e with e | e
    · exact hu k (.inr (.inl e))
    · exact .inr e
  · exact hu k (.inr (.inr e))
theorem RowS.subS (hu : ∀ k, RowS ve vt vs vk k → R k ∨ H ≤ k) (hat : ∀ k, v'.ownBlock = some k → vs.ownBlock = some k ∨ H ≤ k) : ∀ k, RowS ve vt v' vk k → R k ∨ H ≤ k := by
  rintro k (e | e | e | e)
  · exact hu k (.inl e)
  · exact hu k (.inr (.inl e))
  · rcases hat k e with e | e
    · exact hu k (.inr (.inr (.inl e)))
    · exact .inr e
  · exact hu k (.inr (.inr (.inr e)))
theorem RowS.subK (hu : ∀ k, RowS ve vt vs vk k → R k ∨ H ≤ k) (hat : ∀ k, v'.ownBlock = some k → vk.ownBlock = some k ∨ H ≤ k) : ∀ k, RowS ve vt vs v' k → R k ∨ H ≤ k := by
  rintro k (e | e | e | e)
  · exact hu k (.inl e)
  · exact hu k (.inr (.inl e))
  · exact hu k (.inr (.inr (.inl e)))
  · rcases hat k e with e | e
    · exact hu k (.inr (.inr (.inr e)))
    · exact .inr e
end
def StRes (B : Nat) (R : Nat → Prop) (s' : Mc) (xn xd : Int) (w : World) (e : Ending) (w' : World) : Prop :=
  ∃ ve vt vs vk, e = .returned (stV ve vt vs vk s'.hi s'.nx xn xd) ∧ StM w' B ve vt vs vk s' ∧ Fol w R w' (RowS ve vt vs vk)
section
variable {w w' : World} {B : Nat} {ve vt vs vk : Value} {s : Mc}
theorem StM.lt (h : StM w B ve vt vs vk s) : ∀ k, RowS ve vt vs vk k → B ≤ k ∧ k < w.heap.size := by
  rintro k (e | e | e | e)
  · exact World.ownsRow.lt h.e k e
  · exact World.ownsRow.lt h.t k e
  · exact World.ownsRow.lt h.z k e
  · exact World.ownsRow.lt h.k k e
theorem StM.kp {S : Nat → Prop} (h : StM w B ve vt vs vk s) (hk : Kp w w' S) (hn : ∀ k, RowS ve vt vs vk k → ¬ S k) : StM w' B ve vt vs vk s :=
  ⟨ownsRow_kp h.e hk fun k e => hn k (.inl e), ownsRow_kp h.t hk fun k e => hn k (.inr (.inl e)), ownsRow_kp h.z hk fun k e => hn k (.inr (.inr (.inl e))), ownsRow_kp h.k hk fun k e => hn k (.inr (.inr (.inr e))), h.et, h.es, h.ek, h.ts, h.tk, h.sk⟩
theorem StM.bel (h : StM w B ve vt vs vk s) (hb : Below w.heap.size w w') : StM w' B ve vt vs vk s := h.kp (S := fun _ => False) ((Kp.refl w _).bel hb) (fun _ _ => id)
theorem StM.drew (h : StM w B ve vt vs vk s) : StM w.drew B ve vt vs vk s := h.kp (Kp.refl w (fun _ => False)).drew (fun _ _ => id)
theorem StM.drewN (h : StM w B ve vt vs vk s) (n : Nat) : StM (w.drewN n) B ve vt vs vk s := h.kp ((Kp.refl w (fun _ => False)).drewN n) (fun _ _ => id)
theorem StM.alloc (h : StM w B ve vt vs vk s) (o : Obj) : StM (w.alloc o) B ve vt vs vk s := h.kp ((Kp.refl w (fun _ => False)).alloc o) (fun _ _ => id)
theorem StM.setb (h : StM w B ve vt vs vk s) {a : Addr} (ha : ¬ RowS ve vt vs vk a.block) (u : Value) : StM (w.setCell a u) B ve vt vs vk s :=
  h.kp ((Kp.refl w (fun k => k = a.block)).set (.inl rfl) u) (fun k hk e => ha (e ▸ hk))
theorem StM.less {B' : Nat} (h : StM w B ve vt vs vk s) (hB : B' ≤ B) : StM w B' ve vt vs vk s := by
  have ho : ∀ {e : TypeId} {size n : Nat} {v : Value} {xs : List Value}, w.ownsRow B e size v n xs → w.ownsRow B' e size v n xs := fun h => ⟨h.1, by
    rcases h.2 with h2 | ⟨g, cap, cur, e1, hb, rest⟩
    · exact .inl h2
    · exact .inr ⟨g, cap, cur, e1, by omega, rest⟩⟩
  exact ⟨ho h.e, ho h.t, ho h.z, ho h.k, h.et, h.es, h.ek, h.ts, h.tk, h.sk⟩
theorem ap_new {u v v' : Value} {H : Nat} (h : apart u v) (hu : ∀ k, u.ownBlock = some k → k < H) (hat : ∀ k, v'.ownBlock = some k → v.ownBlock = some k ∨ H ≤ k) : apart u v' := fun k e1 e2 => by
  rcases hat k e2 with e | e
  · exact h k e1 e
  · have := hu k e1; omega
theorem kpG {row : Option Nat} (h : w.grownBy w' row) : Kp w w' (fun k => row = some k) := (Kp.refl w _).grown h (fun x e => .inl e)
theorem StM.putE (h : StM w B ve vt vs vk s) (hg : w.grownBy w' ve.ownBlock) {v' : Value} {zs : List Int} (ho : OwnZ w' B v' zs) (hat : ∀ k, v'.ownBlock = some k → ve.ownBlock = some k ∨ w.heap.size ≤ k) : StM w' B v' vt vs vk { s with en := zs } :=
  ⟨ho, ownsRow_kp h.t (kpG hg) fun k e e2 => h.et k e2 e, ownsRow_kp h.z (kpG hg) fun k e e2 => h.es k e2 e, ownsRow_kp h.k (kpG hg) fun k e e2 => h.ek k e2 e,
    (ap_new h.et.symm (fun k e => (World.ownsRow.lt h.t k e).2) hat).symm, (ap_new h.es.symm (fun k e => (World.ownsRow.lt h.z k e).2) hat).symm, (ap_new h.ek.symm (fun k e => (World.ownsRow.lt h.k k e).2) hat).symm, h.ts, h.tk, h.sk⟩
theorem StM.putT (h : StM w B ve vt vs vk s) (hg : w.grownBy w' vt.ownBlock) {v' : Value} {zs : List Int} (ho : OwnZ w' B v' zs) (hat : ∀ k, v'.ownBlock = some k → vt.ownBlock = some k ∨ w.heap.size ≤ k) : StM w' B ve v' vs vk { s with tr := zs } :=
  ⟨ownsRow_kp h.e (kpG hg) fun k e e2 => h.et k e e2, ho, ownsRow_kp h.z (kpG hg) fun k e e2 => h.ts k e2 e, ownsRow_kp h.k (kpG hg) fun k e e2 => h.tk k e2 e,
    ap_new h.et (fun k e => (World.ownsRow.lt h.e k e).2) hat, h.es, h.ek, (ap_new h.ts.symm (fun k e => (World.ownsRow.lt h.z k e).2) hat).symm, (ap_new h.tk.symm (fun k e => (World.ownsRow.lt h.k k e).2) hat).symm, h.sk⟩
theorem StM.putS (h : StM w B ve vt vs vk s) (hg : w.grownBy w' vs.ownBlock) {v' : Value} {zs : List Int} (ho : OwnZ w' B v' zs) (hat : ∀ k, v'.ownBlock = some k → vs.ownBlock = some k ∨ w.heap.size ≤ k) : StM w' B ve vt v' vk { s with sw := zs } :=
  ⟨ownsRow_kp h.e (kpG hg) fun k e e2 => h.es k e e2, ownsRow_kp h.t (kpG hg) fun k e e2 => h.ts k e e2, ho, ownsRow_kp h.k (kpG hg) fun k e e2 => h.sk k e2 e,
    h.et, ap_new h.es (fun k e => (World.ownsRow.lt h.e k e).2) hat, h.ek, ap_new h.ts (fun k e => (World.ownsRow.lt h.t k e).2) hat, h.tk, (ap_new h.sk.symm (fun k e => (World.ownsRow.lt h.k k e).2) hat).symm⟩
theorem StM.putK (h : StM w B ve vt vs vk s) {row : Option Nat} (hg : w.grownBy w' row) (hr : ∀ k, row = some k → ¬ (ve.ownBlock = some k ∨ vt.ownBlock = some k ∨ vs.ownBlock = some k)) {v' : Value} {zs : List (Nat × Int)} (ho : OwnW w' B v' zs)
    (hat : ∀ k, v'.ownBlock = some k → vk.ownBlock = some k ∨ w.heap.size ≤ k) : StM w' B ve vt vs v' { s with wk := zs } :=
  ⟨ownsRow_kp h.e (kpG hg) fun k e e2 => hr k e2 (.inl e), ownsRow_kp h.t (kpG hg) fun k e e2 => hr k e2 (.inr (.inl e)), ownsRow_kp h.z (kpG hg) fun k e e2 => hr k e2 (.inr (.inr e)), ho,
    h.et, h.es, ap_new h.ek (fun k e => (World.ownsRow.lt h.e k e).2) hat, h.ts, ap_new h.tk (fun k e => (World.ownsRow.lt h.t k e).2) hat, ap_new h.sk (fun k e => (World.ownsRow.lt h.z k e).2) hat⟩
theorem StM.newK (h : StM w B ve vt vs vk s) {v' : Value} {zs : List (Nat × Int)} (ho : OwnW w B v' zs) (h1 : apart ve v') (h2 : apart vt v') (h3 : apart vs v') : StM w B ve vt vs v' { s with wk := zs } :=
  ⟨h.e, h.t, h.z, ho, h.et, h.es, h1, h.ts, h2, h3⟩
theorem OwnW.less {B' : Nat} {v : Value} {wk : List (Nat × Int)} (h : OwnW w B v wk) (hB : B' ≤ B) : OwnW w B' v wk := ⟨h.1, by
    rcases h.2 with h2 | ⟨g, cap, cur, e1, hb, rest⟩
    · exact .inl h2
    · exact .inr ⟨g, cap, cur, e1, by omega, rest⟩⟩
theorem StM.rowK (h : StM w B ve vt vs vk s) : ∀ k, vk.ownBlock = some k → ¬ (ve.ownBlock = some k ∨ vt.ownBlock = some k ∨ vs.ownBlock = some k) := by
  rintro k e (e2 | e2 | e2)
  · exact h.ek k e2 e
  · exact h.tk k e2 e
  · exact h.sk k e2 e
theorem StM.hi (h : StM w B ve vt vs vk s) (hi : Bool) : StM w B ve vt vs vk { s with hi := hi } := ⟨h.e, h.t, h.z, h.k, h.et, h.es, h.ek, h.ts, h.tk, h.sk⟩
theorem StM.nx (h : StM w B ve vt vs vk s) (n : Nat) : StM w B ve vt vs vk { s with nx := n } := ⟨h.e, h.t, h.z, h.k, h.et, h.es, h.ek, h.ts, h.tk, h.sk⟩
end
theorem Blk.eight {w : World} {g : Nat} {t : TypeId} {a b c d e f x y : Value} (h : Blk w g t #[a, b, c, d, e, f, x, y]) : w.cell? ⟨g, 0, none⟩ = some a ∧ w.cell? ⟨g, 1, none⟩ = some b ∧ w.cell? ⟨g, 2, none⟩ = some c ∧ w.cell? ⟨g, 3, none⟩ = some d ∧ w.cell? ⟨g, 4, none⟩ = some e ∧ w.cell? ⟨g, 5, none⟩ = some f ∧ w.cell? ⟨g, 6, none⟩ = some x ∧ w.cell? ⟨g, 7, none⟩ = some y :=
  ⟨h.cell 0, h.cell 1, h.cell 2, h.cell 3, h.cell 4, h.cell 5, h.cell 6, h.cell 7⟩
/-- A state is written into a block. -/
def fill8 (w : World) (b : Nat) (v0 v1 v2 v3 v4 v5 v6 v7 : Value) : World :=
  (((((((w.setCell ⟨b, 0, none⟩ v0).setCell ⟨b, 1, none⟩ v1).setCell ⟨b, 2, none⟩ v2).setCell ⟨b, 3, none⟩ v3).setCell ⟨b, 4, none⟩ v4).setCell ⟨b, 5, none⟩ v5).setCell ⟨b, 6, none⟩ v6).setCell ⟨b, 7, none⟩ v7
section
variable {w w' : World} {b : Nat} {v0 v1 v2 v3 v4 v5 v6 v7 : Value}
theorem Blk.fill8 {t : TypeId} {a0 a1 a2 a3 a4 a5 a6 a7 : Value} (h : Blk w b t #[a0, a1, a2, a3, a4, a5, a6, a7]) : Blk (Go.Proofs.YtgponahmkjohiabGreatDoor.fill8 w b v0 v1 v2 v3 v4 v5 v6 v7) b t #[v0, v1, v2, v3, v4, v5, v6, v7] := by
  have h8 := (((((((h.set_ 0 v0).set_ 1 v1).set_ 2 v2).set_ 3 v3).set_ 4 v4).set_ 5 v5).set_ 6 v6).set_ 7 v7
  simpa [Go.Proofs.YtgponahmkjohiabGreatDoor.fill8] using h8
theorem Blk.off8 {g : Nat} {t : TypeId} {cs : Array Value} (h : Blk w g t cs) (hg : g ≠ b) : Blk (Go.Proofs.YtgponahmkjohiabGreatDoor.fill8 w b v0 v1 v2 v3 v4 v5 v6 v7) g t cs :=
  (((((((h.far (p := ⟨b, 0, none⟩) hg v0).far (p := ⟨b, 1, none⟩) hg v1).far (p := ⟨b, 2, none⟩) hg v2).far (p := ⟨b, 3, none⟩) hg v3).far (p := ⟨b, 4, none⟩) hg v4).far (p := ⟨b, 5, none⟩) hg v5).far (p := ⟨b, 6, none⟩) hg v6).far (p := ⟨b, 7, none⟩) hg v7
theorem Kp.fill8 {S : Nat → Prop} (h : Kp w w' S) (ha : S b ∨ w.heap.size ≤ b) : Kp w (Go.Proofs.YtgponahmkjohiabGreatDoor.fill8 w' b v0 v1 v2 v3 v4 v5 v6 v7) S :=
  (((((((h.set (a := ⟨b, 0, none⟩) ha v0).set (a := ⟨b, 1, none⟩) ha v1).set (a := ⟨b, 2, none⟩) ha v2).set (a := ⟨b, 3, none⟩) ha v3).set (a := ⟨b, 4, none⟩) ha v4).set (a := ⟨b, 5, none⟩) ha v5).set (a := ⟨b, 6, none⟩) ha v6).set (a := ⟨b, 7, none⟩) ha v7
theorem StM.fill8 {B : Nat} {ve vt vs vk : Value} {s : Mc} (h : StM w B ve vt vs vk s) (ha : ¬ RowS ve vt vs vk b) : StM (Go.Proofs.YtgponahmkjohiabGreatDoor.fill8 w b v0 v1 v2 v3 v4 v5 v6 v7) B ve vt vs vk s :=
  h.kp (S := fun k => k = b) ((Kp.refl w _).fill8 (.inl rfl)) (fun k hk e => ha (e ▸ hk))
end
/-- A task is written into a block. -/
def fill5 (w : World) (b : Nat) (v0 v1 v2 v3 v4 : Value) : World :=
  ((((w.setCell ⟨b, 0, none⟩ v0).setCell ⟨b, 1, none⟩ v1).setCell ⟨b, 2, none⟩ v2).setCell ⟨b, 3, none⟩ v3).setCell ⟨b, 4, none⟩ v4
section
variable {w w' : World} {b : Nat} {v0 v1 v2 v3 v4 : Value}
theorem Blk.fill5 {t : TypeId} {a0 a1 a2 a3 a4 : Value} (h : Blk w b t #[a0, a1, a2, a3, a4]) : Blk (Go.Proofs.YtgponahmkjohiabGreatDoor.fill5 w b v0 v1 v2 v3 v4) b t #[v0, v1, v2, v3, v4] := by
  have h8 := ((((h.set_ 0 v0).set_ 1 v1).set_ 2 v2).set_ 3 v3).set_ 4 v4
  simpa [Go.Proofs.YtgponahmkjohiabGreatDoor.fill5] using h8
theorem Blk.off5 {g : Nat} {t : TypeId} {cs : Array Value} (h : Blk w g t cs) (hg : g ≠ b) : Blk (Go.Proofs.YtgponahmkjohiabGreatDoor.fill5 w b v0 v1 v2 v3 v4) g t cs :=
  ((((h.far (p := ⟨b, 0, none⟩) hg v0).far (p := ⟨b, 1, none⟩) hg v1).far (p := ⟨b, 2, none⟩) hg v2).far (p := ⟨b, 3, none⟩) hg v3).far (p := ⟨b, 4, none⟩) hg v4
theorem Kp.fill5 {S : Nat → Prop} (h : Kp w w' S) (ha : S b ∨ w.heap.size ≤ b) : Kp w (Go.Proofs.YtgponahmkjohiabGreatDoor.fill5 w' b v0 v1 v2 v3 v4) S :=
  ((((h.set (a := ⟨b, 0, none⟩) ha v0).set (a := ⟨b, 1, none⟩) ha v1).set (a := ⟨b, 2, none⟩) ha v2).set (a := ⟨b, 3, none⟩) ha v3).set (a := ⟨b, 4, none⟩) ha v4
theorem Blk.five {g : Nat} {t : TypeId} {a b c d e : Value} (h : Blk w g t #[a, b, c, d, e]) : w.cell? ⟨g, 0, none⟩ = some a ∧ w.cell? ⟨g, 1, none⟩ = some b ∧ w.cell? ⟨g, 2, none⟩ = some c ∧ w.cell? ⟨g, 3, none⟩ = some d ∧ w.cell? ⟨g, 4, none⟩ = some e :=
  ⟨h.cell 0, h.cell 1, h.cell 2, h.cell 3, h.cell 4⟩
theorem Blk.tri {g : Nat} {t : TypeId} {a b c : Value} (h : Blk w g t #[a, b, c]) : w.cell? ⟨g, 0, none⟩ = some a ∧ w.cell? ⟨g, 1, none⟩ = some b ∧ w.cell? ⟨g, 2, none⟩ = some c := ⟨h.cell 0, h.cell 1, h.cell 2⟩
end
theorem gb_set1 (w : World) (g k : Nat) (u : Value) : w.grownBy (w.setCell ⟨g, k, none⟩ u) (some g) :=
  ⟨rfl, rfl, rfl, by simp [World.setCell], fun i _ hne => Below.heap_setCell w ⟨g, k, none⟩ u i (fun e => hne (by rw [e]))⟩
end Go.Proofs.YtgponahmkjohiabGreatDoor
