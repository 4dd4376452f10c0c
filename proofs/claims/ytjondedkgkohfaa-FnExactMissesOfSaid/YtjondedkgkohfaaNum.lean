/- Contracts of the reader of random bytes in the reference: num(list) returns an element of the list. -/
import Derived.Test.YtjondedkgkohfaaRd
import Derived.Maps.AppendAt
import Derived.Deep.AppendLies
namespace Go.Proofs.Ytjondedkgkohfaa
open Go.RowKit

/-- Block g is just the cells cs of element type t, none frozen. -/
def Blk (w : World) (g : Nat) (t : TypeId) (cs : Array Value) : Prop := w.heap[g]? = some (.cells cs t (0, 0))

section
variable {w w' : World} {g : Nat} {t : TypeId} {cs : Array Value}
theorem Blk.lt (h : Blk w g t cs) : g < w.heap.size := by
  rcases Nat.lt_or_ge g w.heap.size with hlt | hge
  · exact hlt
  · unfold Blk at h; rw [Array.getElem?_eq_none hge] at h; cases h
theorem Blk.cell (h : Blk w g t cs) (i : Nat) : w.cell? ⟨g, i, none⟩ = cs[i]? := cell_of_row w g i cs t (0, 0) h
theorem Blk.frozen (h : Blk w g t cs) (i : Nat) : w.frozen? ⟨g, i, none⟩ = false := by
  unfold Blk at h
  simp [World.frozen?, h]
theorem Blk.new (w : World) (t : TypeId) (cs : Array Value) : Blk (w.alloc (.cells cs t)) w.heap.size t cs := heap_alloc_new w _
theorem Blk.drewN (h : Blk w g t cs) (n : Nat) : Blk (w.drewN n) g t cs := h
theorem Blk.alloc (h : Blk w g t cs) (o : Obj) : Blk (w.alloc o) g t cs := (Below.heap_alloc w o g h.lt).trans h
theorem Blk.set_ (h : Blk w g t cs) (i : Nat) (u : Value) : Blk (w.setCell ⟨g, i, none⟩ u) g t (cs.setIfInBounds i u) := by
  unfold Blk at h ⊢
  simp [World.setCell, Array.getElem?_modify, h]
theorem Blk.far (h : Blk w g t cs) {p : Addr} (hp : g ≠ p.block) (u : Value) : Blk (w.setCell p u) g t cs := (Below.heap_setCell w p u g hp).trans h
theorem Blk.below {B : Nat} (h : Blk w g t cs) (hb : Below B w w') (hg : g < B) : Blk w' g t cs := (hb.block g hg).trans h
theorem Blk.grown {row : Option Nat} (h : Blk w g t cs) (hb : w.grownBy w' row) (hg : some g ≠ row) : Blk w' g t cs := (hb.block g h.lt hg).trans h
end

theorem Rd.lt {w : World} {B g : Nat} {A : Option Addr} {n c : Nat} {f : Nat → Int} {p : Nat} (h : Rd w B g A n c f p) : g < w.heap.size := Blk.lt h.blk
theorem Rd.alloc {w : World} {B g : Nat} {A : Option Addr} {n c : Nat} {f : Nat → Int} {p : Nat} (h : Rd w B g A n c f p) (o : Obj) : Rd (w.alloc o) B g A n c f p :=
  ⟨Blk.alloc h.blk o, h.ge, h.len, fun i hi => by
    obtain ⟨b, of, e, hb, hc⟩ := h.at_ i hi
    exact ⟨b, of, e, hb, by rw [World.cell?_alloc_lt w o _ (by have := h.ge; have := h.lt; show b < _; omega)]; exact hc⟩, h.byte⟩
theorem Rd.set {w : World} {B g : Nat} {A : Option Addr} {n c : Nat} {f : Nat → Int} {p : Nat} (h : Rd w B g A n c f p) {q : Addr} (hq : B ≤ q.block) (hg : q.block ≠ g) (u : Value) : Rd (w.setCell q u) B g A n c f p :=
  ⟨Blk.far h.blk (fun e => hg e.symm) u, h.ge, h.len, fun i hi => by
    obtain ⟨b, of, e, hb, hc⟩ := h.at_ i hi
    exact ⟨b, of, e, hb, by rw [World.cell?_setCell_other w _ _ _ (fun e => by subst e; simp at hq; omega)]; exact hc⟩, h.byte⟩
theorem Rd.drewN {w : World} {B g : Nat} {A : Option Addr} {n c : Nat} {f : Nat → Int} {p : Nat} (h : Rd w B g A n c f p) (k : Nat) : Rd (w.drewN k) B g A n c f p :=
  ⟨h.blk, h.ge, h.len, h.at_, h.byte⟩
theorem Rd.grown {w w' : World} {B g : Nat} {A : Option Addr} {n c : Nat} {f : Nat → Int} {p : Nat} (h : Rd w B g A n c f p) {row : Option Nat} (hb : w.grownBy w' row) (hr : ∀ k, row = some k → B ≤ k ∧ k ≠ g) : Rd w' B g A n c f p :=
  ⟨Blk.grown h.blk hb (fun e => (hr g e.symm).2 rfl), h.ge, h.len, fun i hi => by
    obtain ⟨b, of, e, hbb, hc⟩ := h.at_ i hi
    exact ⟨b, of, e, hbb, (World.cell?_of_block (hb.block b (by have := h.ge; have := h.lt; omega) (fun e => by have := (hr b e.symm).1; omega))).trans hc⟩, h.byte⟩

/-- grownBy, over more steps. -/
theorem gb_drewN {a w : World} {row : Option Nat} (h : a.grownBy w row) (n : Nat) : a.grownBy (w.drewN n) row := ⟨h.os, h.tape, h.output, h.size, h.block⟩
theorem gb_alloc {a w : World} {row : Option Nat} (h : a.grownBy w row) (o : Obj) : a.grownBy (w.alloc o) row :=
  ⟨h.os, h.tape, h.output, Nat.le_trans h.size (by simp), fun i hi hne => (Below.heap_alloc w o i (Nat.lt_of_lt_of_le hi h.size)).trans (h.block i hi hne)⟩
theorem gb_set {a w : World} {g : Nat} (h : a.grownBy w (some g)) {p : Addr} (hp : p.block = g ∨ a.heap.size ≤ p.block) (u : Value) : a.grownBy (w.setCell p u) (some g) :=
  ⟨h.os, h.tape, h.output, by simpa [World.setCell] using h.size, fun i hi hne => (Below.heap_setCell w p u i (by
    rintro rfl
    rcases hp with hp | hp
    · exact hne (by rw [hp])
    · omega)).trans (h.block i hi hne)⟩
theorem gb_trans {a b c : World} {g : Nat} (h : a.grownBy b (some g)) {row : Option Nat} (k : b.grownBy c row) (hr : ∀ x, row = some x → x = g ∨ a.heap.size ≤ x) : a.grownBy c (some g) :=
  ⟨k.os.trans h.os, k.tape.trans h.tape, k.output.trans h.output, Nat.le_trans h.size k.size, fun i hi hne =>
    (k.block i (Nat.lt_of_lt_of_le hi h.size) (fun e => by
      rcases hr i e.symm with e' | e'
      · exact hne (by rw [e'])
      · omega)).trans (h.block i hi hne)⟩
theorem below_of_gb {a w w' : World} {B g : Nat} (h : Below B a w) (k : w.grownBy w' (some g)) (hB : B ≤ w.heap.size) (hg : B ≤ g) : Below B a w' :=
  h.grown k hB (fun x e => by injection e with e; omega)

theorem bl_alloc {w w' : World} (h : Below w.heap.size w w') (o : Obj) : Below w.heap.size w (w'.alloc o) := h.alloc h.size o
theorem bl_set {w w' : World} (h : Below w.heap.size w w') {p : Addr} (hp : w.heap.size ≤ p.block) (u : Value) : Below w.heap.size w (w'.setCell p u) := h.setCell hp u
theorem bl_drewN {w w' : World} (h : Below w.heap.size w w') (n : Nat) : Below w.heap.size w (w'.drewN n) := ⟨h.os, h.tape, h.output, h.size, h.block⟩
theorem bl_trans {w w' w'' : World} (h : Below w.heap.size w w') (k : Below w'.heap.size w' w'') : Below w.heap.size w w'' := h.trans (k.mono h.size)

/-- What num leaves: a number between a and b; the reader one on. -/
def Numbered (B g : Nat) (A : Option Addr) (n c : Nat) (f : Nat → Int) (p : Nat) (a b : Int) (w : World) (e : Ending) (w' : World) : Prop :=
  ∃ v : Int, e = .returned (.int .i64 v) ∧ a ≤ v ∧ v ≤ b ∧ Rd w' B g A n c f (p + 1) ∧ w.grownBy w' (some g)

set_option maxHeartbeats 1000000 in
theorem num_any (w : World) (B g : Nat) (A : Option Addr) (n c : Nat) (f : Nat → Int) (p : Nat) (h k : Nat) (a b : Int) (hr : Rd w B g A n c f p) (hp : p ≤ 1000000)
    (hk1 : 1 ≤ k) (hk2 : k ≤ 1000) (hne : h ≠ g) (hcells : ∀ i, i < k → ∃ v, w.cell? ⟨h, i, none⟩ = some (.int .i64 v) ∧ a ≤ v ∧ v ≤ b) :
    Calls Try.prog 63 #[.pointer (some ⟨g, 0, none⟩), .slice (some ⟨h, 0, none⟩) k k] w (Numbered B g A n c f p a b w) := by
  have HR := Lib.hid hr
  have HC := Lib.hid hcells
  clear hr hcells
  go_enter Try.func63, Try.ntmps63
  go_wp2_with fail
  refine (pick_any w B g A n c f p k HR.out hp (by omega)).mono ?_
  rintro e w' ⟨v, rfl, h0, h1, h2, hr', hg⟩
  have h1' := h1 (by omega)
  clear h1 h2
  obtain ⟨j, rfl⟩ := Int.eq_ofNat_of_zero_le h0
  have hj : j < k := by omega
  obtain ⟨x, hx, hx1, hx2⟩ := HC.out j hj
  have hx' : w'.cell? ⟨h, j, none⟩ = some (.int .i64 x) := hg.cell hx (fun e => hne (by injection e))
  have HR' := Lib.hid hr'
  have HG := Lib.hid hg
  clear hr' hg hx
  go_wp2_with fail
  go_ret
  exact ⟨x, rfl, hx1, hx2, HR'.out, HG.out⟩

end Go.Proofs.Ytjondedkgkohfaa
