import Derived.WalkKit
import Derived.WalkSpells
import Derived.WalkLawsBesides
import Derived.Lib.Hide
import Derived.Deep.QuietTactic
import Derived.Deep.Draws
import Derived.BigQuiet
import Derived.IntWalk
import Derived.Maps.AppendAt
import Derived.Deep.AppendLies
import Derived.Deep.RegionHeld3
import Derived.Deep.RegionLaw
import Derived.LoopTactic
import Derived.Laws.CopyRow
import Derived.Laws.Externs
import Derived.Lib.Overlaps
import Derived.Laws.AppendOwnNone
import Derived.Test.YtgponahmkjohiabGreatDoorProg
namespace Go.Proofs.YtgponahmkjohiabGreatDoor
section
open Go.RowKit
/-- Block g is a reader over n bytes f 0, f 1, .. at p. -/
structure Rd (w : World) (B g : Nat) (A : Option Addr) (n c : Nat) (f : Nat → Int) (p : Nat) : Prop where
  blk : w.heap[g]? = some (.cells #[.slice A n c, .int .i64 p] 118 (0, 0))
  ge : B ≤ g
  len : n ≤ 2000
  at_ : ∀ i, i < n → ∃ b o, A = some ⟨b, o, none⟩ ∧ b < B ∧ w.cell? ⟨b, o + i, none⟩ = some (.int .u8 (f i))
  byte : ∀ i, 0 ≤ f i ∧ f i < 256
/-- What pick leaves: a number below m (0 if m is less than 1), the reader one on. -/
def Picked (B g : Nat) (A : Option Addr) (n c : Nat) (f : Nat → Int) (p : Nat) (m : Int) (w : World) (e : Ending) (w' : World) : Prop :=
  ∃ v : Int, e = .returned (.int .i64 v) ∧ 0 ≤ v ∧ (1 ≤ m → v < m) ∧ (m < 1 → v = 0) ∧ Rd w' B g A n c f (p + 1) ∧ w.grownBy w' (some g)
theorem i64_xor_nat (a b : Nat) (ha : a < 9223372036854775808) (hb : b < 9223372036854775808) : bits .xor .i64 (a : Int) (b : Int) = ((a ^^^ b : Nat) : Int) := by
  have hx : a ^^^ b < 2 ^ 63 := Nat.xor_lt_two_pow (by omega) (by omega)
  have e (x : Nat) (h : x < 9223372036854775808) : (BitVec.ofInt 64 (x : Int)).toNat = x := by
    rw [BitVec.ofInt_natCast, BitVec.toNat_ofNat]; exact Nat.mod_eq_of_lt (by omega)
  show IntKind.i64.wrap ((BitVec.ofInt 64 (a : Int) ^^^ BitVec.ofInt 64 (b : Int)).toNat : Int) = _
  rw [BitVec.toNat_xor, e a ha, e b hb, IntKind.wrap_i64]
  omega
theorem xor_nonneg (x : Int) (h : 0 ≤ x) (h' : x < 9223372036854775808) : 0 ≤ bits .xor .i64 x (x / 64) := by
  obtain ⟨k, rfl⟩ := Int.eq_ofNat_of_zero_le h
  have e : ((k : Int) / 64) = ((k / 64 : Nat) : Int) := by omega
  rw [e, i64_xor_nat k (k / 64) (by omega) (by omega)]
  omega
theorem rd_moved {w : World} {B g : Nat} {A : Option Addr} {n c : Nat} {f : Nat → Int} {p : Nat} (h : Rd w B g A n c f p) (k : Nat) (q : Int) (hq : q = ((p + 1 : Nat) : Int)) :
    Rd ((w.setCell ⟨g, 1, none⟩ (.int .i64 q)).drewN k) B g A n c f (p + 1) ∧ w.grownBy ((w.setCell ⟨g, 1, none⟩ (.int .i64 q)).drewN k) (some g) := by
  subst hq
  refine ⟨⟨?_, h.ge, h.len, fun i hi => ?_, h.byte⟩, ⟨rfl, rfl, rfl, by simp [World.setCell], fun k hk hne => ?_⟩⟩
  · show ((w.setCell ⟨g, 1, none⟩ (.int .i64 ((p + 1 : Nat) : Int)))).heap[g]? = _
    simp [World.setCell, Array.getElem?_modify, h.blk]
  · obtain ⟨b, o, rfl, hb, hc⟩ := h.at_ i hi
    refine ⟨b, o, rfl, hb, ?_⟩
    show ((w.setCell ⟨g, 1, none⟩ (.int .i64 ((p + 1 : Nat) : Int)))).cell? ⟨b, o + i, none⟩ = _
    rw [World.cell?_setCell_other w _ _ _ (fun e => by injection e with e1; have := h.ge; omega)]
    exact hc
  · exact Below.heap_setCell _ _ _ _ (fun e => hne (by rw [e]))
set_option maxHeartbeats 1000000 in
theorem pick_any (w : World) (B g : Nat) (A : Option Addr) (n c : Nat) (f : Nat → Int) (p : Nat) (m : Int) (hr : Rd w B g A n c f p) (hp : p ≤ 1000000) (hm : m ≤ 1000000) :
    Calls Tryz.prog 43 #[.pointer (some ⟨g, 0, none⟩), .int .i64 m] w (Picked B g A n c f p m w) := by
  have hc0 : w.cell? ⟨g, 0, none⟩ = some (.slice A n c) := by rw [cell_of_row w g 0 _ _ _ hr.blk]; rfl
  have hc1 : w.cell? ⟨g, 1, none⟩ = some (.int .i64 p) := by rw [cell_of_row w g 1 _ _ _ hr.blk]; rfl
  have hf1 : w.frozen? ⟨g, 1, none⟩ = false := frozen_of_row w g 1 _ _ hr.blk
  have HR := Lib.hid hr
  clear hr
  by_cases h1 : m < 1
  · go_enter Tryz.func43, Tryz.ntmps43
    go_wp2
    go_ret
    have h := rd_moved HR.out 0 _ rfl
    exact ⟨0, rfl, by omega, fun h => by omega, fun _ => rfl, h.1, h.2⟩
  by_cases h0 : n = 0
  · subst h0
    go_enter Tryz.func43, Tryz.ntmps43
    go_wp2
    go_ret
    have h := rd_moved HR.out 0 _ rfl
    exact ⟨0, rfl, by omega, fun h => by omega, fun _ => rfl, h.1, h.2⟩
  have hn : n ≤ 2000 := HR.out.len
  have hn0 : ((n : Int) == 0) = false := by simp; omega
  have hn1 : 0 < n := by omega
  have hne : ¬ (n : Int) = 0 := by omega
  have hm1 : 1 ≤ m := by omega
  clear h0 h1
  by_cases h2 : p < n
  · obtain ⟨b, o, rfl, hb, hc⟩ := HR.out.at_ p h2
    have hge := HR.out.ge
    have hb1 := (HR.out.byte p).1
    have hb2 := (HR.out.byte p).2
    generalize hu : f p = u at hc hb1 hb2
    have HU := Lib.hid hu
    clear hu
    have hcs : ∀ q : Int, (w.setCell ⟨g, 1, none⟩ (.int .i64 q)).cell? ⟨b, o + p, none⟩ = some (.int .u8 u) := fun q => by
      rw [World.cell?_setCell_other w _ _ _ (fun e => by injection e with e1; omega)]; exact hc
    go_enter Tryz.func43, Tryz.ntmps43
    go_wp2
    go_ret
    have h := rd_moved HR.out 0 _ rfl
    exact ⟨_, rfl, Int.emod_nonneg _ (by omega), fun _ => Int.emod_lt_of_pos _ (by omega), fun h => by omega, h.1, h.2⟩
  · have i1 : p % n < n := Nat.mod_lt _ hn1
    have i2 : (p * 7 + 3) % n < n := Nat.mod_lt _ hn1
    obtain ⟨b, o, rfl, hb, hc⟩ := HR.out.at_ (p % n) i1
    obtain ⟨b', o', e', _, hc'⟩ := HR.out.at_ ((p * 7 + 3) % n) i2
    injection e' with e'
    injection e' with e1 e2
    subst e1 e2
    have hge := HR.out.ge
    have hb1 := (HR.out.byte (p % n)).1
    have hb2 := (HR.out.byte (p % n)).2
    have hb3 := (HR.out.byte ((p * 7 + 3) % n)).1
    have hb4 := (HR.out.byte ((p * 7 + 3) % n)).2
    generalize f (p % n) = u at hc hb1 hb2
    generalize f ((p * 7 + 3) % n) = u' at hc' hb3 hb4
    have hcs : ∀ q : Int, (w.setCell ⟨g, 1, none⟩ (.int .i64 q)).cell? ⟨b, o + p % n, none⟩ = some (.int .u8 u) := fun q => by
      rw [World.cell?_setCell_other w _ _ _ (fun e => by injection e with e1; omega)]; exact hc
    have hcs' : ∀ q : Int, (w.setCell ⟨g, 1, none⟩ (.int .i64 q)).cell? ⟨b, o + (p * 7 + 3) % n, none⟩ = some (.int .u8 u') := fun q => by
      rw [World.cell?_setCell_other w _ _ _ (fun e => by injection e with e1; omega)]; exact hc'
    have hnp : (0 : Int) < (n : Int) := by omega
    have j1 : (0 : Int) ≤ (p : Int) % (n : Int) := Int.emod_nonneg _ (by omega)
    have j2 : (p : Int) % (n : Int) < (n : Int) := Int.emod_lt_of_pos _ hnp
    have j3 : (0 : Int) ≤ ((p : Int) * 7 + 3) % (n : Int) := Int.emod_nonneg _ (by omega)
    have j4 : ((p : Int) * 7 + 3) % (n : Int) < (n : Int) := Int.emod_lt_of_pos _ hnp
    have j5 : (0 : Int) ≤ (p : Int) / (n : Int) := Int.ediv_nonneg (by omega) (by omega)
    have j6 : (p : Int) / (n : Int) ≤ (p : Int) := Int.ediv_le_self _ (by omega)
    clear hc hc'
    go_enter Tryz.func43, Tryz.ntmps43
    go_wp2
    go_quiet (fail)
    go_wp2
    go_ret
    have h := rd_moved HR.out nq _ rfl
    have hx := xor_nonneg (u * 131 + u' * 1117 + (p : Int) * 29 + (p : Int) / (n : Int) * 53) (by omega) (by omega)
    refine ⟨_, rfl, ?_, ?_, fun h => by omega, h.1, h.2⟩
    · rw [Int.tmod_eq_emod_of_nonneg hx]; exact Int.emod_nonneg _ (by omega)
    · intro _; rw [Int.tmod_eq_emod_of_nonneg hx]; exact Int.emod_lt_of_pos _ (by omega)
end
section
open Go.RowKit
/-- Block g is just the cells cs of element type t, none frozen. -/
def Blk (w : World) (g : Nat) (t : TypeId) (cs : Array Value) : Prop := w.heap[g]? = some (.cells cs t (0, 0))
section
variable {w w' : World} {g : Nat} {t : TypeId} {cs : Array Value}
theorem Blk.lt (h : Blk w g t cs) : g < w.heap.size := by
  rcases Nat.lt_or_ge g w.heap.size with hlt | hge
  · exact hlt
  · unfold Blk at h; rw [Array.getElem?_eq_none hge] at h; cases h
theorem Blk.cell (h : Blk w g t cs) (i : Nat) : w.cell? ⟨g, i, none⟩ = cs[i]? := cell_of_row w g i cs t (0, 0) h
theorem Blk.frozen (h : Blk w g t cs) (i : Nat) : w.frozen? ⟨g, i, none⟩ = false := by
  unfold Blk at h
  simp [World.frozen?, h]
theorem Blk.new (w : World) (t : TypeId) (cs : Array Value) : Blk (w.alloc (.cells cs t)) w.heap.size t cs := heap_alloc_new w _
theorem Blk.drewN (h : Blk w g t cs) (n : Nat) : Blk (w.drewN n) g t cs := h
theorem Blk.alloc (h : Blk w g t cs) (o : Obj) : Blk (w.alloc o) g t cs := (Below.heap_alloc w o g h.lt).trans h
theorem Blk.set_ (h : Blk w g t cs) (i : Nat) (u : Value) : Blk (w.setCell ⟨g, i, none⟩ u) g t (cs.setIfInBounds i u) := by
  unfold Blk at h ⊢
  simp [World.setCell, Array.getElem?_modify, h]
theorem Blk.far (h : Blk w g t cs) {p : Addr} (hp : g ≠ p.block) (u : Value) : Blk (w.setCell p u) g t cs := (Below.heap_setCell w p u g hp).trans h
theorem Blk.below {B : Nat} (h : Blk w g t cs) (hb : Below B w w') (hg : g < B) : Blk w' g t cs := (hb.block g hg).trans h
theorem Blk.grown {row : Option Nat} (h : Blk w g t cs) (hb : w.grownBy w' row) (hg : some g ≠ row) : Blk w' g t cs := (hb.block g h.lt hg).trans h
end
theorem Rd.lt {w : World} {B g : Nat} {A : Option Addr} {n c : Nat} {f : Nat → Int} {p : Nat} (h : Rd w B g A n c f p) : g < w.heap.size := Blk.lt h.blk
theorem Rd.alloc {w : World} {B g : Nat} {A : Option Addr} {n c : Nat} {f : Nat → Int} {p : Nat} (h : Rd w B g A n c f p) (o : Obj) : Rd (w.alloc o) B g A n c f p :=
  ⟨Blk.alloc h.blk o, h.ge, h.len, fun i hi => by
    obtain ⟨b, of, e, hb, hc⟩ := h.at_ i hi
    exact ⟨b, of, e, hb, by rw [World.cell?_alloc_lt w o _ (by have := h.ge; have := h.lt; show b < _; omega)]; exact hc⟩, h.byte⟩
theorem Rd.set {w : World} {B g : Nat} {A : Option Addr} {n c : Nat} {f : Nat → Int} {p : Nat} (h : Rd w B g A n c f p) {q : Addr} (hq : B ≤ q.block) (hg : q.block ≠ g) (u : Value) : Rd (w.setCell q u) B g A n c f p :=
  ⟨Blk.far h.blk (fun e => hg e.symm) u, h.ge, h.len, fun i hi => by
    obtain ⟨b, of, e, hb, hc⟩ := h.at_ i hi
    exact ⟨b, of, e, hb, by rw [World.cell?_setCell_other w _ _ _ (fun e => by subst e; simp at hq; omega)]; exact hc⟩, h.byte⟩
theorem Rd.drewN {w : World} {B g : Nat} {A : Option Addr} {n c : Nat} {f : Nat → Int} {p : Nat} (h : Rd w B g A n c f p) (k : Nat) : Rd (w.drewN k) B g A n c f p :=
  ⟨h.blk, h.ge, h.len, h.at_, h.byte⟩
theorem Rd.grown {w w' : World} {B g : Nat} {A : Option Addr} {n c : Nat} {f : Nat → Int} {p : Nat} (h : Rd w B g A n c f p) {row : Option Nat} (hb : w.grownBy w' row) (hr : ∀ k, row = some k → B ≤ k ∧ k ≠ g) : Rd w' B g A n c f p :=
  ⟨Blk.grown h.blk hb (fun e => (hr g e.symm).2 rfl), h.ge, h.len, fun i hi => by
    obtain ⟨b, of, e, hbb, hc⟩ := h.at_ i hi
    exact ⟨b, of, e, hbb, (World.cell?_of_block (hb.block b (by have := h.ge; have := h.lt; omega) (fun e => by have := (hr b e.symm).1; omega))).trans hc⟩, h.byte⟩
theorem gb_alloc {a w : World} {row : Option Nat} (h : a.grownBy w row) (o : Obj) : a.grownBy (w.alloc o) row :=
  ⟨h.os, h.tape, h.output, Nat.le_trans h.size (by simp), fun i hi hne => (Below.heap_alloc w o i (Nat.lt_of_lt_of_le hi h.size)).trans (h.block i hi hne)⟩
theorem gb_set {a w : World} {g : Nat} (h : a.grownBy w (some g)) {p : Addr} (hp : p.block = g ∨ a.heap.size ≤ p.block) (u : Value) : a.grownBy (w.setCell p u) (some g) :=
  ⟨h.os, h.tape, h.output, by simpa [World.setCell] using h.size, fun i hi hne => (Below.heap_setCell w p u i (by
    rintro rfl
    rcases hp with hp | hp
    · exact hne (by rw [hp])
    · omega)).trans (h.block i hi hne)⟩
theorem gb_trans {a b c : World} {g : Nat} (h : a.grownBy b (some g)) {row : Option Nat} (k : b.grownBy c row) (hr : ∀ x, row = some x → x = g ∨ a.heap.size ≤ x) : a.grownBy c (some g) :=
  ⟨k.os.trans h.os, k.tape.trans h.tape, k.output.trans h.output, Nat.le_trans h.size k.size, fun i hi hne =>
    (k.block i (Nat.lt_of_lt_of_le hi h.size) (fun e => by
      rcases hr i e.symm with e' | e'
      · exact hne (by rw [e'])
      · omega)).trans (h.block i hi hne)⟩
theorem below_of_gb {a w w' : World} {B g : Nat} (h : Below B a w) (k : w.grownBy w' (some g)) (hB : B ≤ w.heap.size) (hg : B ≤ g) : Below B a w' :=
  h.grown k hB (fun x e => by injection e with e; omega)
theorem bl_alloc {w w' : World} (h : Below w.heap.size w w') (o : Obj) : Below w.heap.size w (w'.alloc o) := h.alloc h.size o
theorem bl_set {w w' : World} (h : Below w.heap.size w w') {p : Addr} (hp : w.heap.size ≤ p.block) (u : Value) : Below w.heap.size w (w'.setCell p u) := h.setCell hp u
theorem bl_drewN {w w' : World} (h : Below w.heap.size w w') (n : Nat) : Below w.heap.size w (w'.drewN n) := ⟨h.os, h.tape, h.output, h.size, h.block⟩
theorem bl_trans {w w' w'' : World} (h : Below w.heap.size w w') (k : Below w'.heap.size w' w'') : Below w.heap.size w w'' := h.trans (k.mono h.size)
/-- What num leaves: a number between a and b; the reader one on. -/
def Numbered (B g : Nat) (A : Option Addr) (n c : Nat) (f : Nat → Int) (p : Nat) (a b : Int) (w : World) (e : Ending) (w' : World) : Prop :=
  ∃ v : Int, e = .returned (.int .i64 v) ∧ a ≤ v ∧ v ≤ b ∧ Rd w' B g A n c f (p + 1) ∧ w.grownBy w' (some g)
set_option maxHeartbeats 1000000 in
theorem num_any (w : World) (B g : Nat) (A : Option Addr) (n c : Nat) (f : Nat → Int) (p : Nat) (h k : Nat) (a b : Int) (hr : Rd w B g A n c f p) (hp : p ≤ 1000000)
    (hk1 : 1 ≤ k) (hk2 : k ≤ 1000) (hne : h ≠ g) (hcells : ∀ i, i < k → ∃ v, w.cell? ⟨h, i, none⟩ = some (.int .i64 v) ∧ a ≤ v ∧ v ≤ b) :
    Calls Tryz.prog 45 #[.pointer (some ⟨g, 0, none⟩), .slice (some ⟨h, 0, none⟩) k k] w (Numbered B g A n c f p a b w) := by
  have HR := Lib.hid hr
  have HC := Lib.hid hcells
  clear hr hcells
  go_enter Tryz.func45, Tryz.ntmps45
  go_wp2_with fail
  refine (pick_any w B g A n c f p k HR.out hp (by omega)).mono ?_
  rintro e w' ⟨v, rfl, h0, h1, h2, hr', hg⟩
  have h1' := h1 (by omega)
  clear h1 h2
  obtain ⟨j, rfl⟩ := Int.eq_ofNat_of_zero_le h0
  have hj : j < k := by omega
  obtain ⟨x, hx, hx1, hx2⟩ := HC.out j hj
  have hx' : w'.cell? ⟨h, j, none⟩ = some (.int .i64 x) := hg.cell hx (fun e => hne (by injection e))
  have HR' := Lib.hid hr'
  have HG := Lib.hid hg
  clear hr' hg hx
  go_wp2_with fail
  go_ret
  exact ⟨x, rfl, hx1, hx2, HR'.out, HG.out⟩
end
section
open Go.RowKit
theorem lit_cells (w : World) (cs : Array Value) (k : Nat) (a b : Int) (h : ∀ i, i < k → ∃ v, cs[i]? = some (.int .i64 v) ∧ a ≤ v ∧ v ≤ b) :
    ∀ i, i < k → ∃ v, (w.alloc (.cells cs 3)).cell? ⟨w.heap.size, i, none⟩ = some (.int .i64 v) ∧ a ≤ v ∧ v ≤ b := fun i hi => by
  obtain ⟨v, hv, h1⟩ := h i hi
  exact ⟨v, by rw [(Blk.new w 3 cs).cell i]; exact hv, h1⟩
theorem lit_cells_at (w : World) (cs : Array Value) (g k : Nat) (a b : Int) (hg : g = w.heap.size) (h : ∀ i, i < k → ∃ v, cs[i]? = some (.int .i64 v) ∧ a ≤ v ∧ v ≤ b) :
    ∀ i, i < k → ∃ v, (w.alloc (.cells cs 3)).cell? ⟨g, i, none⟩ = some (.int .i64 v) ∧ a ≤ v ∧ v ≤ b := by
  subst hg; exact lit_cells w cs k a b h
end
section
open Go.RowKit
/-- Whether the bounds of a task hold. -/
def validB (lo hi du ev : Int) (c : Bool) : Bool :=
  decide (1 ≤ lo) && (decide (lo ≤ hi) && (decide (hi ≤ du) && (decide (du ≤ ev) && (decide (ev ≤ 20) && (c || lo == hi)))))
set_option maxHeartbeats 400000 in
theorem iTaskValid_any (lo hi du ev : Int) (c : Bool) (w : World) :
    Calls Tryz.prog 105 #[.agg #[.int .i64 lo, .int .i64 hi, .int .i64 du, .int .i64 ev, .bool c]] w fun e w' =>
      e = .returned (.bool (validB lo hi du ev c)) ∧ w.alloc (.cells #[.int .i64 lo, .int .i64 hi, .int .i64 du, .int .i64 ev, .bool c] 43) = w' := by
  go_enter Tryz.func105, Tryz.ntmps105
  go_wp2
  all_goals go_ret
  all_goals exact ⟨by simp [validB, *] <;> (intros; exfalso; omega), by simp [*]⟩
set_option maxHeartbeats 400000 in
theorem sTaskValid_any (lo hi du ev : Int) (c : Bool) (w : World) :
    Calls Tryz.prog 142 #[.agg #[.int .i64 lo, .int .i64 hi, .int .i64 du, .int .i64 ev, .bool c]] w fun e w' =>
      e = .returned (.bool (validB lo hi du ev c)) ∧ w.alloc (.cells #[.int .i64 lo, .int .i64 hi, .int .i64 du, .int .i64 ev, .bool c] 43) = w' := by
  go_enter Tryz.func142, Tryz.ntmps142
  go_wp2
  all_goals go_ret
  all_goals exact ⟨by simp [validB, *] <;> (intros; exfalso; omega), by simp [*]⟩
end
section
open Go.RowKit
/-- The numbers of a task are small. -/
def smallT (lo hi du ev : Int) (_ : Bool) : Prop := (-1 ≤ lo ∧ lo ≤ 21) ∧ (-1 ≤ hi ∧ hi ≤ 21) ∧ (-1 ≤ du ∧ du ≤ 21) ∧ (-1 ≤ ev ∧ ev ≤ 21)
/-- What a draw of a task leaves: a task of the kind 'good'; the reader at most d on. -/
def TkOut (B g : Nat) (A : Option Addr) (n c : Nat) (f : Nat → Int) (p d : Nat) (good : Int → Int → Int → Int → Bool → Prop) (w : World) (e : Ending) (w' : World) : Prop :=
  ∃ (lo hi du ev : Int) (cr : Bool) (p' : Nat), e = .returned (.agg #[.int .i64 lo, .int .i64 hi, .int .i64 du, .int .i64 ev, .bool cr]) ∧ good lo hi du ev cr ∧ p' ≤ p + d ∧ Rd w' B g A n c f p' ∧ w.grownBy w' (some g)
end
section
open Go.RowKit
def goodT (lo hi du ev : Int) (cr : Bool) : Prop := 1 ≤ lo ∧ lo ≤ hi ∧ hi ≤ du ∧ du ≤ ev ∧ ev ≤ 20 ∧ (cr = false → lo = hi)
theorem goodT.small {lo hi du ev : Int} {cr : Bool} (h : goodT lo hi du ev cr) : smallT lo hi du ev cr := by
  obtain ⟨h1, h2, h3, h4, h5, _⟩ := h; exact ⟨⟨by omega, by omega⟩, ⟨by omega, by omega⟩, ⟨by omega, by omega⟩, ⟨by omega, by omega⟩⟩
theorem goodT.valid {lo hi du ev : Int} {cr : Bool} (h : goodT lo hi du ev cr) : validB lo hi du ev cr = true := by
  obtain ⟨h1, h2, h3, h4, h5, h6⟩ := h
  cases cr
  · obtain rfl := h6 rfl
    simp [validB]; omega
  · simp [validB]; omega
set_option maxHeartbeats 2000000 in
theorem task_any (w : World) (B g : Nat) (A : Option Addr) (n c : Nat) (f : Nat → Int) (p : Nat) (hr : Rd w B g A n c f p) (hp : p ≤ 100000) :
    Calls Tryz.prog 125 #[.pointer (some ⟨g, 0, none⟩)] w (TkOut B g A n c f p 6 goodT w) := by
  have HR := Lib.hid hr
  have hgl := hr.lt
  have hBg := hr.ge
  clear hr
  go_enter Tryz.func125, Tryz.ntmps125
  go_wp2_with fail
  -- every
  refine (num_any _ B g A n c f p _ 8 2 20 ((HR.out.alloc _).alloc _) (by omega) (by omega) (by omega) (by simp; omega) ?_).mono ?_
  · exact lit_cells_at _ _ _ _ _ _ (by simp) (fun i hi => by rcases (by omega : i = 0 ∨ i = 1 ∨ i = 2 ∨ i = 3 ∨ i = 4 ∨ i = 5 ∨ i = 6 ∨ i = 7) with rfl | rfl | rfl | rfl | rfl | rfl | rfl | rfl <;> exact ⟨_, rfl, by decide, by decide⟩)
  rintro e w1 ⟨ev, rfl, hev1, hev2, hr1, hg1⟩
  have hsz1 : w.heap.size + 1 < w1.heap.size := by have := hg1.size; simp at this; omega
  have bR : Blk w1 w.heap.size 43 #[.int .i64 0, .int .i64 0, .int .i64 0, .int .i64 0, .bool false] := ((Blk.new w 43 _).alloc _).grown hg1 (by intro e; injection e; omega)
  have hgw1 : w.grownBy w1 (some g) := gb_trans (gb_alloc (gb_alloc (World.grownBy.refl w _) _) _) hg1 (fun x e => .inl (by injection e with e; exact e.symm))
  have HR1 := Lib.hid hr1
  have HG1 := Lib.hid hgw1
  have BR1 := Lib.hid bR
  clear hr1 hg1 hgw1 bR
  -- low
  go_wp2_with fail
  refine (pick_any _ B g A n c f _ (ev / 3 + 1) HR1.out (by omega) (by omega)).mono ?_
  rintro e w2 ⟨x, rfl, hx0, hx1, hx2, hr2, hg2⟩
  have hx := hx1 (by omega)
  clear hx1 hx2
  have hsz2 : w.heap.size + 1 < w2.heap.size := by have := hg2.size; omega
  have HR2 := Lib.hid hr2
  have HG2 := Lib.hid (gb_trans HG1.out hg2 (fun x e => .inl (by injection e with e; exact e.symm)))
  have BR2 := Lib.hid (BR1.out.grown hg2 (by intro e; injection e; omega))
  clear hr2 hg2 BR1 HR1 HG1
  -- the task; critical?
  go_wp2_with fail
  refine (pick_any _ B g A n c f _ 2 (HR2.out.alloc _) (by omega) (by omega)).mono ?_
  rintro e w3 ⟨y, rfl, hy0, _, _, hr3, hg3⟩
  have hsz3 : w2.heap.size < w3.heap.size := by have := hg3.size; simp at this; omega
  have HR3 := Lib.hid hr3
  have HG3 := Lib.hid (gb_trans (gb_alloc HG2.out _) hg3 (fun x e => .inl (by injection e with e; exact e.symm)))
  have BR3 := Lib.hid ((BR2.out.alloc (.cells #[.int .i64 (1 + x), .int .i64 (1 + x), .int .i64 ev, .int .i64 ev, .bool false] 43)).grown hg3 (by intro e; injection e; omega))
  have BT3 := Lib.hid ((Blk.new w2 43 #[.int .i64 (1 + x), .int .i64 (1 + x), .int .i64 ev, .int .i64 ev, .bool false]).grown hg3 (by intro e; injection e; omega))
  clear hr3 hg3 BR2 HR2 HG2
  by_cases hy : y = 0
  · subst hy
    have cT := BT3.out.cell; have fT := BT3.out.frozen
    go_wp2_with fail
    refine (pick_any _ B g A n c f (p + 1 + 1 + 1) (ev / 3 + 1) (HR3.out.set (by dsimp only; omega) (by dsimp only; omega) _) (by omega) (by omega)).mono ?_
    rintro e w4 ⟨z, rfl, hz0, hz1, hz2, hr4, hg4⟩
    have hz := hz1 (by omega)
    clear hz1 hz2 cT fT
    have hsz4 : w2.heap.size < w4.heap.size := by have := hg4.size; simp [World.setCell] at this; omega
    have HR4 := Lib.hid hr4
    have HG4 := Lib.hid (gb_trans (gb_set HG3.out (.inr (by dsimp only; omega)) _) hg4 (fun x e => .inl (by injection e with e; exact e.symm)))
    have BR4 := Lib.hid ((BR3.out.far (by dsimp only; omega) _).grown hg4 (by intro e; injection e; omega))
    have BT4 : Hid (Blk w4 w2.heap.size 43 #[.int .i64 (1 + x), .int .i64 (1 + x), .int .i64 ev, .int .i64 ev, .bool true]) := (BT3.out.set_ 4 (.bool true)).grown hg4 (by intro e; injection e; omega)
    clear hr4 hg4 HR3 HG3 BR3 BT3
    have cT := BT4.out.cell; have fT := BT4.out.frozen
    have hc : ¬ ev < 1 + x + z := by omega
    go_wp2_with fail
    clear cT fT
    refine (pick_any _ B g A n c f (p + 1 + 1 + 1 + 1) 3 ?_ (by omega) (by omega)).mono ?_
    · repeat (refine Rd.set ?_ (by dsimp only; omega) (by dsimp only; omega) _)
      exact HR4.out
    rintro e w5 ⟨u, rfl, hu0, _, _, hr5, hg5⟩
    have hsz5 : w2.heap.size < w5.heap.size := by have := hg5.size; first | omega | (simp [World.setCell] at this; omega)
    have HR5 := Lib.hid hr5
    have HG5 : Hid (w.grownBy w5 (some g)) := gb_trans (by
      repeat (refine gb_set ?_ (.inr (by dsimp only; omega)) _)
      exact HG4.out) hg5 (fun x e => .inl (by injection e with e; exact e.symm))
    have BR5 : Hid (Blk w5 w.heap.size 43 #[.int .i64 0, .int .i64 0, .int .i64 0, .int .i64 0, .bool false]) := Blk.grown (by
      repeat (refine Blk.far ?_ (by dsimp only; omega) _)
      exact BR4.out) hg5 (by intro e; injection e; omega)
    have BT5 : Hid (Blk w5 w2.heap.size 43 #[.int .i64 (1 + x), .int .i64 (1 + x + z), .int .i64 ev, .int .i64 ev, .bool true]) := Blk.grown (by
      first
        | exact BT4.out
        | exact BT4.out.set_ _ _
        | exact (BT4.out.set_ _ _).set_ _ _) hg5 (by intro e; injection e; omega)
    clear hr5 hg5
    have cT5 := BT5.out.cell; have fT5 := BT5.out.frozen; have cR5 := BR5.out.cell; have fR5 := BR5.out.frozen
    by_cases hu : u = 0
    · subst hu
      go_wp2_with fail
      have b1 : p + 1 + 1 + 1 + 1 + 1 ≤ 1000000 := by omega
      have b2 : ev - (1 + x + z) + 1 ≤ 1000000 := by omega
      have b3 : 1 ≤ ev - (1 + x + z) + 1 := by omega
      have b4 : ∀ q : Int, 0 ≤ q → q < ev - (1 + x + z) + 1 → IntKind.i64.wrap (1 + x + z + q) = 1 + x + z + q := fun q _ _ => IntWalk.i64_in _ (by omega)
      have b5 : some w2.heap.size ≠ some g := by intro e; injection e; omega
      have B4 := Lib.hid b4
      have B5 := Lib.hid b5
      clear b4 b5
      have k1 : IntKind.i64.wrap (ev - (1 + x + z)) = ev - (1 + x + z) := IntWalk.i64_in _ (by omega)
      have k2 : IntKind.i64.wrap (ev - (1 + x + z) + 1) = ev - (1 + x + z) + 1 := IntWalk.i64_in _ (by clear k1; omega)
      go_region_held3 (fun W => W.cell? ⟨w2.heap.size, 1, none⟩ = some (.int .i64 (1 + x + z))) (first | assumption | (simp [go_sem, *]; done))
        ((go_at_call 43; refine (pick_any _ B g A n c f (p + 1 + 1 + 1 + 1 + 1) (ev - (1 + x + z) + 1) (by exact ⟨HR5.out.blk, HR5.out.ge, HR5.out.len, HR5.out.at_, HR5.out.byte⟩) b1 b2).mono ?_; rintro e w6 ⟨q, rfl, hq0, hq1, hq2, hr6, hg6⟩; have k3 := B4.out q hq0 (hq1 b3); have BT6 := Lib.hid (BT5.out.grown (w' := w6) ⟨hg6.os, hg6.tape, hg6.output, hg6.size, hg6.block⟩ B5.out); have cT6 := BT6.out.cell; have fT6 := BT6.out.frozen; clear cT5 fT5; have HR6 := Lib.hid hr6; have HG6 := Lib.hid hg6; clear hr6 hg6))
      clear k1 k2 k3
      have hq := hq1 b3
      have hg6 : w5.grownBy w6 (some g) := ⟨HG6.out.os, HG6.out.tape, HG6.out.output, HG6.out.size, HG6.out.block⟩
      have HG7 := Lib.hid (gb_trans HG5.out hg6 (fun x e => .inl (by injection e with e; exact e.symm)))
      have BR6 := Lib.hid (BR5.out.grown hg6 (by intro e; injection e; omega))
      clear hg6 cR5 fR5 hq1 hq2
      have cR6 := BR6.out.cell; have fR6 := BR6.out.frozen
      go_wp2
      refine bodyPost_ret (v := .agg #[.int .i64 (1 + x), .int .i64 (1 + x + z), .int .i64 (1 + x + z + q), .int .i64 ev, .bool true]) (by simp [results, Tryz.results125, go_sem, cR6]) rfl ⟨1 + x, 1 + x + z, 1 + x + z + q, ev, true, p + 1 + 1 + 1 + 1 + 1 + 1, rfl, ⟨by omega, by omega, by omega, by omega, by omega, fun h => by cases h⟩, by omega, ?_, ?_⟩
      · repeat (refine Rd.set ?_ (by dsimp only; omega) (by dsimp only; omega) _)
        exact HR6.out
      · repeat (refine gb_set ?_ (.inr (by dsimp only; omega)) _)
        exact HG7.out
    · have tu : (u == 0) = false := by simpa using hu
      clear hu
      go_wp2
      refine bodyPost_ret (v := .agg #[.int .i64 (1 + x), .int .i64 (1 + x + z), .int .i64 ev, .int .i64 ev, .bool true]) (by simp [results, Tryz.results125, go_sem, cR5]) rfl ⟨1 + x, 1 + x + z, ev, ev, true, p + 1 + 1 + 1 + 1 + 1, rfl, ⟨by omega, by omega, by omega, by omega, by omega, fun h => by cases h⟩, by omega, ?_, ?_⟩
      · repeat (refine Rd.set ?_ (by dsimp only; omega) (by dsimp only; omega) _)
        exact HR5.out
      · repeat (refine gb_set ?_ (.inr (by dsimp only; omega)) _)
        exact HG5.out
  · have ty : (y == 0) = false := by simpa using hy
    clear hy
    have cT := BT3.out.cell; have fT := BT3.out.frozen
    have hc : ¬ ev < 1 + x := by omega
    go_wp2_with fail
    clear cT fT
    refine (pick_any _ B g A n c f (p + 1 + 1 + 1) 3 ?_ (by omega) (by omega)).mono ?_
    · repeat (refine Rd.set ?_ (by dsimp only; omega) (by dsimp only; omega) _)
      exact HR3.out
    rintro e w5 ⟨u, rfl, hu0, _, _, hr5, hg5⟩
    have hsz5 : w2.heap.size < w5.heap.size := by have := hg5.size; first | omega | (simp [World.setCell] at this; omega)
    have HR5 := Lib.hid hr5
    have HG5 : Hid (w.grownBy w5 (some g)) := gb_trans (by
      repeat (refine gb_set ?_ (.inr (by dsimp only; omega)) _)
      exact HG3.out) hg5 (fun x e => .inl (by injection e with e; exact e.symm))
    have BR5 : Hid (Blk w5 w.heap.size 43 #[.int .i64 0, .int .i64 0, .int .i64 0, .int .i64 0, .bool false]) := Blk.grown (by
      repeat (refine Blk.far ?_ (by dsimp only; omega) _)
      exact BR3.out) hg5 (by intro e; injection e; omega)
    have BT5 : Hid (Blk w5 w2.heap.size 43 #[.int .i64 (1 + x), .int .i64 (1 + x), .int .i64 ev, .int .i64 ev, .bool false]) := Blk.grown (by
      first
        | exact BT3.out
        | exact BT3.out.set_ _ _
        | exact (BT3.out.set_ _ _).set_ _ _) hg5 (by intro e; injection e; omega)
    clear hr5 hg5
    have cT5 := BT5.out.cell; have fT5 := BT5.out.frozen; have cR5 := BR5.out.cell; have fR5 := BR5.out.frozen
    by_cases hu : u = 0
    · subst hu
      go_wp2_with fail
      have b1 : p + 1 + 1 + 1 + 1 ≤ 1000000 := by omega
      have b2 : ev - (1 + x) + 1 ≤ 1000000 := by omega
      have b3 : 1 ≤ ev - (1 + x) + 1 := by omega
      have b4 : ∀ q : Int, 0 ≤ q → q < ev - (1 + x) + 1 → IntKind.i64.wrap (1 + x + q) = 1 + x + q := fun q _ _ => IntWalk.i64_in _ (by omega)
      have b5 : some w2.heap.size ≠ some g := by intro e; injection e; omega
      have B4 := Lib.hid b4
      have B5 := Lib.hid b5
      clear b4 b5
      have k1 : IntKind.i64.wrap (ev - (1 + x)) = ev - (1 + x) := IntWalk.i64_in _ (by omega)
      have k2 : IntKind.i64.wrap (ev - (1 + x) + 1) = ev - (1 + x) + 1 := IntWalk.i64_in _ (by clear k1; omega)
      go_region_held3 (fun W => W.cell? ⟨w2.heap.size, 1, none⟩ = some (.int .i64 (1 + x))) (first | assumption | (simp [go_sem, *]; done))
        ((go_at_call 43; refine (pick_any _ B g A n c f (p + 1 + 1 + 1 + 1) (ev - (1 + x) + 1) (by exact ⟨HR5.out.blk, HR5.out.ge, HR5.out.len, HR5.out.at_, HR5.out.byte⟩) b1 b2).mono ?_; rintro e w6 ⟨q, rfl, hq0, hq1, hq2, hr6, hg6⟩; have k3 := B4.out q hq0 (hq1 b3); have BT6 := Lib.hid (BT5.out.grown (w' := w6) ⟨hg6.os, hg6.tape, hg6.output, hg6.size, hg6.block⟩ B5.out); have cT6 := BT6.out.cell; have fT6 := BT6.out.frozen; clear cT5 fT5; have HR6 := Lib.hid hr6; have HG6 := Lib.hid hg6; clear hr6 hg6))
      clear k1 k2 k3
      have hq := hq1 b3
      have hg6 : w5.grownBy w6 (some g) := ⟨HG6.out.os, HG6.out.tape, HG6.out.output, HG6.out.size, HG6.out.block⟩
      have HG7 := Lib.hid (gb_trans HG5.out hg6 (fun x e => .inl (by injection e with e; exact e.symm)))
      have BR6 := Lib.hid (BR5.out.grown hg6 (by intro e; injection e; omega))
      clear hg6 cR5 fR5 hq1 hq2
      have cR6 := BR6.out.cell; have fR6 := BR6.out.frozen
      go_wp2
      refine bodyPost_ret (v := .agg #[.int .i64 (1 + x), .int .i64 (1 + x), .int .i64 (1 + x + q), .int .i64 ev, .bool false]) (by simp [results, Tryz.results125, go_sem, cR6]) rfl ⟨1 + x, 1 + x, 1 + x + q, ev, false, p + 1 + 1 + 1 + 1 + 1, rfl, ⟨by omega, by omega, by omega, by omega, by omega, fun _ => by omega⟩, by omega, ?_, ?_⟩
      · repeat (refine Rd.set ?_ (by dsimp only; omega) (by dsimp only; omega) _)
        exact HR6.out
      · repeat (refine gb_set ?_ (.inr (by dsimp only; omega)) _)
        exact HG7.out
    · have tu : (u == 0) = false := by simpa using hu
      clear hu
      go_wp2
      refine bodyPost_ret (v := .agg #[.int .i64 (1 + x), .int .i64 (1 + x), .int .i64 ev, .int .i64 ev, .bool false]) (by simp [results, Tryz.results125, go_sem, cR5]) rfl ⟨1 + x, 1 + x, ev, ev, false, p + 1 + 1 + 1 + 1, rfl, ⟨by omega, by omega, by omega, by omega, by omega, fun _ => by omega⟩, by omega, ?_, ?_⟩
      · repeat (refine Rd.set ?_ (by dsimp only; omega) (by dsimp only; omega) _)
        exact HR5.out
      · repeat (refine gb_set ?_ (.inr (by dsimp only; omega)) _)
        exact HG5.out
end
section
open Go.RowKit
/-- A slice of n bytes f 0, f 1, .. below block B. -/
structure Code (w : World) (B : Nat) (A : Option Addr) (n c : Nat) (f : Nat → Int) : Prop where
  le : n ≤ c
  max : c ≤ maxLen
  at_ : ∀ i, i < n → ∃ b o, A = some ⟨b, o, none⟩ ∧ b < B ∧ w.cell? ⟨b, o + i, none⟩ = some (.int .u8 (f i))
  byte : ∀ i, 0 ≤ f i ∧ f i < 256
theorem Code.alloc {w : World} {A : Option Addr} {n c : Nat} {f : Nat → Int} (h : Code w w.heap.size A n c f) (o : Obj) : Code (w.alloc o) (w.alloc o).heap.size A n c f :=
  ⟨h.le, h.max, fun i hi => by
    obtain ⟨b, of, e, hb, hc⟩ := h.at_ i hi
    exact ⟨b, of, e, by simp; omega, by rw [World.cell?_alloc_lt w o _ hb]; exact hc⟩, h.byte⟩
def Opened (A : Option Addr) (c : Nat) (f : Nat → Int) (w : World) (e : Ending) (w' : World) : Prop :=
  e = .returned (.pointer (some ⟨w.heap.size, 0, none⟩)) ∧ ∃ n, Rd w' w.heap.size w.heap.size A n c f 0 ∧ Below w.heap.size w w'
theorem rd_new {w : World} {A : Option Addr} {n c m : Nat} {f : Nat → Int} (h : Code w w.heap.size A n c f) (hm : m ≤ n) (hm2 : m ≤ 2000) :
    Rd (w.alloc (.cells #[.slice A m c, .int .i64 0] 118)) w.heap.size w.heap.size A m c f 0 :=
  ⟨heap_alloc_new w _, Nat.le_refl _, hm2, fun i hi => by
    obtain ⟨b, of, e, hb, hc⟩ := h.at_ i (by omega)
    exact ⟨b, of, e, hb, by rw [World.cell?_alloc_lt w _ _ hb]; exact hc⟩, h.byte⟩
set_option maxHeartbeats 1000000 in
theorem open_any (w : World) (A : Option Addr) (n c : Nat) (f : Nat → Int) (h : Code w w.heap.size A n c f) :
    Calls Tryz.prog 41 #[.slice A n c] w (Opened A c f w) := by
  have H := Lib.hid h
  have hle := h.le
  have hmax := h.max
  unfold maxLen at hmax
  by_cases hn : 2000 < n
  · obtain ⟨b, o, rfl, _, _⟩ := h.at_ 0 (by omega)
    clear h
    go_enter Tryz.func41, Tryz.ntmps41
    go_wp2
    go_ret
    exact ⟨rfl, 2000, rd_new H.out (by omega) (by omega), (Below.refl _ _).alloc (Nat.le_refl _) _⟩
  · clear h
    go_enter Tryz.func41, Tryz.ntmps41
    go_wp2
    go_ret
    exact ⟨rfl, n, rd_new H.out (by omega) (by omega), (Below.refl _ _).alloc (Nat.le_refl _) _⟩
end
section
open Go.RowKit
/-- A task as plain data. -/
structure Tk where
  lo : Int
  hi : Int
  du : Int
  ev : Int
  cr : Bool
def Tk.ok (t : Tk) : Bool := validB t.lo t.hi t.du t.ev t.cr
def Tk.cells (t : Tk) : List Value := [.int .i64 t.lo, .int .i64 t.hi, .int .i64 t.du, .int .i64 t.ev, .bool t.cr]
def Tk.val (t : Tk) : Value := .agg #[.int .i64 t.lo, .int .i64 t.hi, .int .i64 t.du, .int .i64 t.ev, .bool t.cr]
/-- At (b, o) lies the task t. -/
structure TkAt (w : World) (b o : Nat) (t : Tk) : Prop where
  c0 : w.cell? ⟨b, o, none⟩ = some (.int .i64 t.lo)
  c1 : w.cell? ⟨b, o + 1, none⟩ = some (.int .i64 t.hi)
  c2 : w.cell? ⟨b, o + 2, none⟩ = some (.int .i64 t.du)
  c3 : w.cell? ⟨b, o + 3, none⟩ = some (.int .i64 t.ev)
  c4 : w.cell? ⟨b, o + 4, none⟩ = some (.bool t.cr)
/-- The slice (A, n) reads as the tasks ts; it lies below block B. -/
structure Tks (w : World) (B : Nat) (A : Option Addr) (n : Nat) (ts : List Tk) : Prop where
  len : ts.length = n
  at_ : ∀ i t, ts[i]? = some t → ∃ b o, A = some ⟨b, o, none⟩ ∧ b < B ∧ TkAt w b (o + i * 5) t
theorem TkAt.keep {w w' : World} {b o : Nat} {t : Tk} (h : TkAt w b o t) (hk : ∀ i, w'.cell? ⟨b, i, none⟩ = w.cell? ⟨b, i, none⟩) : TkAt w' b o t :=
  ⟨(hk _).trans h.c0, (hk _).trans h.c1, (hk _).trans h.c2, (hk _).trans h.c3, (hk _).trans h.c4⟩
theorem Tks.keep {w w' : World} {B : Nat} {A : Option Addr} {n : Nat} {ts : List Tk} (h : Tks w B A n ts) (hk : ∀ b i, b < B → w'.cell? ⟨b, i, none⟩ = w.cell? ⟨b, i, none⟩) : Tks w' B A n ts :=
  ⟨h.len, fun i t ht => by
    obtain ⟨b, o, e, hb, hc⟩ := h.at_ i t ht
    exact ⟨b, o, e, hb, hc.keep fun i => hk b i hb⟩⟩
theorem Tks.below {w w' : World} {B : Nat} {A : Option Addr} {n : Nat} {ts : List Tk} (h : Tks w B A n ts) (hb : Below B w w') : Tks w' B A n ts :=
  h.keep fun b i hbB => hb.cell (p := ⟨b, i, none⟩) hbB
theorem Tks.more {w : World} {B B' : Nat} {A : Option Addr} {n : Nat} {ts : List Tk} (h : Tks w B A n ts) (hB : B ≤ B') : Tks w B' A n ts :=
  ⟨h.len, fun i t ht => by
    obtain ⟨b, o, e, hb, hc⟩ := h.at_ i t ht
    exact ⟨b, o, e, by omega, hc⟩⟩
def setB (ts : List Tk) : Bool := decide (ts.length ≤ 5) && ts.all Tk.ok
theorem setB_take_false {ts : List Tk} {k : Nat} {t : Tk} (h : ts[k]? = some t) (hv : t.ok = false) : setB ts = false := by
  unfold setB
  have : ts.all Tk.ok = false := by
    rw [List.all_eq_false]
    exact ⟨t, List.mem_of_getElem? h, by simp [hv]⟩
  simp [this]
theorem all_take_succ {ts : List Tk} {k : Nat} {t : Tk} (h : ts[k]? = some t) (hv : t.ok = true) (ha : (ts.take k).all Tk.ok = true) : (ts.take (k + 1)).all Tk.ok = true := by
  obtain ⟨hk, rfl⟩ := List.getElem?_eq_some_iff.1 h
  rw [List.take_succ_eq_append_getElem hk, List.all_append, ha]
  simp [hv]
theorem ret_bool {a b : Bool} (h : a = b) : Ending.returned (.bool a) = .returned (.bool b) := by rw [h]
def SetRes (ts : List Tk) (w : World) (e : Ending) (w' : World) : Prop := e = .returned (.bool (setB ts)) ∧ Below w.heap.size w w'
set_option maxHeartbeats 1000000 in
theorem iSetValid_any (w : World) (A : Option Addr) (n c : Nat) (ts : List Tk) (h : Tks w w.heap.size A n ts) (hn : n ≤ 1048576) :
    Calls Tryz.prog 53 #[.slice A n c] w (SetRes ts w) := by
  have H := Lib.hid h
  have hlen := h.len
  clear h
  by_cases h5 : 5 < n
  · have hs : Hid (setB ts = false) := by show setB ts = false; unfold setB; simp; omega
    clear hlen
    go_enter Tryz.func53, Tryz.ntmps53
    go_wp2
    go_ret
    exact ⟨by rw [hs.out]; rfl, Below.refl _ _⟩
  have HL := Lib.hid hlen
  clear hlen
  go_enter Tryz.func53, Tryz.ntmps53
  go_wp2
  go_loopw [10] (fun i wr => ∃ k : Nat, k ≤ n ∧ i = .int .i64 k ∧ Hid ((ts.take k).all Tk.ok = true) ∧ Below w.heap.size w wr) (fun i _ => n - (intOf i).toNat)
  case atStart => exact ⟨0, Nat.zero_le _, rfl, by show _ = _; rfl, Below.refl _ _⟩
  case round =>
    obtain ⟨k, hk, rfl, hall, hb⟩ := hrel
    by_cases hlt : k < n
    · obtain ⟨t, ht⟩ : ∃ t, ts[k]? = some t := ⟨ts[k]'(by rw [HL.out]; exact hlt), List.getElem?_eq_getElem _⟩
      obtain ⟨b, o, rfl, hbl, c0, c1, c2, c3, c4⟩ := (H.out.below hb).at_ k t ht
      have hsz := hb.size
      have HB := Lib.hid hb
      have HT := Lib.hid ht
      clear hb ht
      cases hv : t.ok
      · have hv' : validB t.lo t.hi t.du t.ev t.cr = false := hv
        have hs : Hid (setB ts = false) := setB_take_false HT.out hv
        clear hv
        go_wp2_with (go_at_call 105; refine (iTaskValid_any _ _ _ _ _ _).mono ?_; rintro e w' ⟨rfl, rfl⟩)
        go_ret
        exact ⟨by rw [hs.out]; rfl, bl_alloc (bl_alloc HB.out _) _⟩
      · have hv' : validB t.lo t.hi t.du t.ev t.cr = true := hv
        have ha : Hid ((ts.take (k + 1)).all Tk.ok = true) := all_take_succ HT.out hv hall.out
        clear hv
        go_wp2_with (go_at_call 105; refine (iTaskValid_any _ _ _ _ _ _).mono ?_; rintro e w' ⟨rfl, rfl⟩)
        go_roundw
        case rel => exact ⟨k + 1, by omega, by go_num, ha, bl_alloc (bl_alloc HB.out _) _⟩
        case measure => simp [intOf]; omega
    · obtain rfl : k = n := by omega
      have hs : Hid (setB ts = true) := by
        show setB ts = true
        unfold setB
        have h := hall.out
        rw [List.take_of_length_le (by rw [HL.out]; omega)] at h
        rw [h]; simp [HL.out]; omega
      have HB := Lib.hid hb
      clear hb
      go_wp2
      go_ret
      exact ⟨by rw [hs.out]; rfl, HB.out⟩
set_option maxHeartbeats 1000000 in
theorem sSetValid_any (w : World) (A : Option Addr) (n c : Nat) (ts : List Tk) (h : Tks w w.heap.size A n ts) (hn : n ≤ 1048576) :
    Calls Tryz.prog 99 #[.slice A n c] w (SetRes ts w) := by
  have H := Lib.hid h
  have HL := Lib.hid h.len
  clear h
  go_enter Tryz.func99, Tryz.ntmps99
  go_wp2
  go_loopw [3] (fun i wr => ∃ k : Nat, k ≤ n ∧ k ≤ 6 ∧ i = .int .i64 k ∧ Hid ((ts.take k).all Tk.ok = true) ∧ Below w.heap.size w wr) (fun i _ => n - (intOf i).toNat)
  case atStart => exact ⟨0, Nat.zero_le _, Nat.zero_le _, rfl, by show _ = _; rfl, Below.refl _ _⟩
  case round =>
    obtain ⟨k, hk, hk6, rfl, hall, hb⟩ := hrel
    by_cases hlt : k < n
    · by_cases h5 : k ≤ 5
      · obtain ⟨t, ht⟩ : ∃ t, ts[k]? = some t := ⟨ts[k]'(by rw [HL.out]; exact hlt), List.getElem?_eq_getElem _⟩
        obtain ⟨b, o, rfl, hbl, c0, c1, c2, c3, c4⟩ := (H.out.below hb).at_ k t ht
        have hsz := hb.size
        have HB := Lib.hid hb
        have HT := Lib.hid ht
        clear hb ht
        cases hv : t.ok
        · have hv' : validB t.lo t.hi t.du t.ev t.cr = false := hv
          have hs : Hid (setB ts = false) := setB_take_false HT.out hv
          clear hv
          go_wp2_with (go_at_call 142; refine (sTaskValid_any _ _ _ _ _ _).mono ?_; rintro e w' ⟨rfl, rfl⟩)
          go_ret
          exact ⟨by rw [hs.out]; rfl, bl_alloc HB.out _⟩
        · have hv' : validB t.lo t.hi t.du t.ev t.cr = true := hv
          have ha : Hid ((ts.take (k + 1)).all Tk.ok = true) := all_take_succ HT.out hv hall.out
          clear hv
          go_wp2_with (go_at_call 142; refine (sTaskValid_any _ _ _ _ _ _).mono ?_; rintro e w' ⟨rfl, rfl⟩)
          go_roundw
          case rel => exact ⟨k + 1, by omega, by omega, by go_num, ha, bl_alloc HB.out _⟩
          case measure => simp [intOf]; omega
      · have hs : Hid (setB ts = false) := by show setB ts = false; unfold setB; simp [HL.out]; omega
        have HB := Lib.hid hb
        clear hb
        go_wp2
        go_ret
        exact ⟨ret_bool (a := decide ((n : Int) ≤ 5)) (by rw [hs.out]; exact decide_eq_false (by omega)), HB.out⟩
    · obtain rfl : k = n := by omega
      have h := hall.out
      rw [List.take_of_length_le (by rw [HL.out]; omega)] at h
      have hs : Hid (setB ts = decide (k ≤ 5)) := by
        show setB ts = _
        unfold setB
        rw [h]; simp [HL.out]
      clear h
      have HB := Lib.hid hb
      clear hb
      by_cases h5 : k ≤ 5
      · go_wp2
        go_ret
        exact ⟨ret_bool (a := decide ((k : Int) ≤ 5)) (by rw [hs.out, decide_eq_true h5]; exact decide_eq_true (by omega)), HB.out⟩
      · go_wp2
        go_ret
        exact ⟨ret_bool (a := decide ((k : Int) ≤ 5)) (by rw [hs.out, decide_eq_false h5]; exact decide_eq_false (by omega)), HB.out⟩
end
section
open Go.RowKit
theorem info_task : (Tryz.prog.info? 43).map (fun i => (i.zero, i.size, i.bytes)) = some (some (.agg #[.int .i64 0, .int .i64 0, .int .i64 0, .int .i64 0, .bool false]), 5, 40) := by kernel_rfl
/-- The slice value v is the call's own (a block from B on) and holds the tasks ts. -/
def Own (w : World) (B : Nat) (v : Value) (ts : List Tk) : Prop := w.ownsRow B 43 5 v ts.length (ts.flatMap Tk.cells)
theorem cells_length (ts : List Tk) : (ts.flatMap Tk.cells).length = ts.length * 5 := by
  induction ts with
  | nil => rfl
  | cons t ts ih => simp [List.flatMap_cons, Tk.cells, ih]; omega
theorem cells_one (ts : List Tk) : ∀ u ∈ ts.flatMap Tk.cells, u.oneCell' = true := by
  intro u hu
  simp only [List.mem_flatMap, Tk.cells] at hu
  obtain ⟨t, _, h⟩ := hu
  simp at h
  rcases h with rfl | rfl | rfl | rfl | rfl <;> rfl
theorem cells_get (ts : List Tk) : ∀ (i : Nat) (t : Tk), ts[i]? = some t → ∀ (j : Nat), j < 5 → (ts.flatMap Tk.cells)[i * 5 + j]? = t.cells[j]? := by
  induction ts with
  | nil => intro i t h; simp at h
  | cons a ts ih =>
    intro i t h j hj
    cases i with
    | zero =>
      simp at h
      subst h
      rw [List.flatMap_cons, List.getElem?_append_left (by simp [Tk.cells]; omega)]
      simp
    | succ i =>
      rw [List.flatMap_cons, List.getElem?_append_right (by simp [Tk.cells]; omega)]
      have e : (i + 1) * 5 + j - a.cells.length = i * 5 + j := by simp [Tk.cells]; omega
      rw [e]
      exact ih i t (by simpa using h) j hj
/-- An owned row reads as its tasks. -/
theorem Own.reads {w : World} {B : Nat} {A : Option Addr} {n c : Nat} {ts : List Tk} (h : Own w B (.slice A n c) ts) : n = ts.length ∧ Tks w w.heap.size A n ts := by
  have hn : n = ts.length := by
    rcases h.2 with ⟨e, h0⟩ | ⟨g, cap, cur, e, _⟩
    · injection e; omega
    · injection e
  refine ⟨hn, hn.symm, fun i t ht => ?_⟩
  have hi : i < ts.length := (List.getElem?_eq_some_iff.1 ht).1
  rcases h.2 with ⟨e, h0⟩ | ⟨g, cap, cur, e, _, hg, _⟩
  · omega
  · injection e with e1 e2 e3
    subst e1
    have hlt : g < w.heap.size := by
      rcases Nat.lt_or_ge g w.heap.size with hlt | hge
      · exact hlt
      · rw [Array.getElem?_eq_none hge] at hg; cases hg
    have hc := h.cells (g := g) rfl
    have at_ : ∀ j u, j < 5 → t.cells[j]? = some u → w.cell? ⟨g, i * 5 + j, none⟩ = some u := by
      intro j u hj hu
      have := hc (i * 5 + j) u (by rw [cells_get ts i t ht j hj]; exact hu)
      have ea : (⟨g, 0, none⟩ : Addr).add (i * 5 + j) = ⟨g, i * 5 + j, none⟩ := by unfold Addr.add; split <;> simp_all
      rwa [ea] at this
    refine ⟨g, 0, rfl, hlt, ?_⟩
    rw [Nat.zero_add]
    exact ⟨at_ 0 _ (by omega) rfl, at_ 1 _ (by omega) rfl, at_ 2 _ (by omega) rfl, at_ 3 _ (by omega) rfl, at_ 4 _ (by omega) rfl⟩
theorem Own.kept {w w' : World} {B : Nat} {v : Value} {ts : List Tk} {row : Option Nat} (h : Own w B v ts) (hg : w.grownBy w' row) (hr : ∀ k, row = some k → k < B) : Own w' B v ts := by
  refine World.ownsRow.kept h hg ?_
  rcases he : v.ownBlock with _ | k
  · exact .inl rfl
  · right
    intro e
    have := (World.ownsRow.lt h k he).1
    have := hr k e.symm
    omega
theorem Own.alloc {w : World} {B : Nat} {v : Value} {ts : List Tk} (h : Own w B v ts) (o : Obj) : Own (w.alloc o) B v ts := World.ownsRow.alloc h o
theorem Own.form {w : World} {B : Nat} {v : Value} {ts : List Tk} (h : Own w B v ts) : ∃ A c, v = .slice A ts.length c := by
  rcases h.2 with ⟨e, h0⟩ | ⟨g, cap, cur, e, _⟩
  · exact ⟨none, 0, by rw [e, h0]⟩
  · exact ⟨_, cap, e⟩
theorem cell_new5 (w : World) (t : Tk) (ty : TypeId) : ∀ j u, t.cells[j]? = some u → (w.alloc (.cells #[.int .i64 t.lo, .int .i64 t.hi, .int .i64 t.du, .int .i64 t.ev, .bool t.cr] ty)).cell? ((⟨w.heap.size, 0, none⟩ : Addr).add j) = some u := by
  intro j u hj
  have ea : (⟨w.heap.size, 0, none⟩ : Addr).add j = ⟨w.heap.size, j, none⟩ := by unfold Addr.add; split <;> simp_all
  rw [ea, (Blk.new w ty _).cell j, ← hj]
  simp [Tk.cells]
theorem cell_new5_at (w : World) (t : Tk) (ty : TypeId) (g : Nat) (hg : g = w.heap.size) : ∀ j u, t.cells[j]? = some u → (w.alloc (.cells #[.int .i64 t.lo, .int .i64 t.hi, .int .i64 t.du, .int .i64 t.ev, .bool t.cr] ty)).cell? ((⟨g, 0, none⟩ : Addr).add j) = some u := by
  subst hg; exact cell_new5 w t ty
theorem Own.snoc {w : World} {B : Nat} {v : Value} {ts : List Tk} {t : Tk} (h : w.ownsRow B 43 5 v (ts.length + 1) (ts.flatMap Tk.cells ++ t.cells)) : Own w B v (ts ++ [t]) := by
  unfold Own
  rw [List.flatMap_append, List.length_append]
  simpa using h
def goodTk (t : Tk) : Prop := goodT t.lo t.hi t.du t.ev t.cr
/-- What a draw of a list of tasks leaves. -/
def LsOut (B g : Nat) (A : Option Addr) (n c : Nat) (f : Nat → Int) (p d m : Nat) (good : Tk → Prop) (w : World) (e : Ending) (w' : World) : Prop :=
  ∃ (v : Value) (ts : List Tk) (p' : Nat), e = .returned v ∧ ts.length ≤ m ∧ (∀ t ∈ ts, good t) ∧ p' ≤ p + d ∧ Rd w' B g A n c f p' ∧ w.grownBy w' (some g) ∧ Own w' w.heap.size v ts
set_option maxRecDepth 100000 in
set_option maxHeartbeats 1000000 in
theorem set_any (w : World) (B g : Nat) (A : Option Addr) (n c : Nat) (f : Nat → Int) (p : Nat) (hr : Rd w B g A n c f p) (hp : p ≤ 10000) :
    Calls Tryz.prog 84 #[.pointer (some ⟨g, 0, none⟩)] w (LsOut B g A n c f p 40 5 goodTk w) := by
  obtain ⟨i0, hi, hz0, hz1, hz2⟩ := info_parts info_task
  have HR := Lib.hid hr
  have hgl := hr.lt
  have hBg := hr.ge
  clear hr
  go_enter Tryz.func84, Tryz.ntmps84
  go_wp2_with fail
  refine (num_any _ B g A n c f p _ 6 0 5 ((HR.out.alloc _).alloc _) (by omega) (by omega) (by omega) (by simp; omega) ?_).mono ?_
  · exact lit_cells_at _ _ _ _ _ _ (by simp) (fun i hi => by rcases (by omega : i = 0 ∨ i = 1 ∨ i = 2 ∨ i = 3 ∨ i = 4 ∨ i = 5) with rfl | rfl | rfl | rfl | rfl | rfl <;> exact ⟨_, rfl, by decide, by decide⟩)
  rintro e w1 ⟨m, rfl, hm0, hm1, hr1, hg1⟩
  obtain ⟨m, rfl⟩ := Int.eq_ofNat_of_zero_le hm0
  have hm : m ≤ 5 := by omega
  have own1 : Own w1 w.heap.size (.slice (some ⟨w.heap.size, 0, none⟩) 0 0) [] := by
    have b0 : Blk w1 w.heap.size 43 #[] := ((Blk.new w 43 _).alloc _).grown hg1 (by intro e; injection e; omega)
    exact ⟨rfl, .inr ⟨w.heap.size, 0, #[], rfl, Nat.le_refl _, b0, Nat.le_refl _, Nat.zero_le _, rfl, rfl⟩⟩
  have hgw1 : w.grownBy w1 (some g) := gb_trans (gb_alloc (gb_alloc (World.grownBy.refl w _) _) _) hg1 (fun x e => .inl (by injection e with e; exact e.symm))
  have HR1 := Lib.hid hr1
  have HG1 := Lib.hid hgw1
  have HO1 := Lib.hid own1
  clear hr1 hg1 hgw1 own1
  go_wp2
  go_loopw [3, 4] (fun v i wr => ∃ (j : Nat) (ts : List Tk) (p' : Nat), i = .int .i64 j ∧ ts.length + j ≤ 5 ∧ p' ≤ p + 2 + ts.length * 6 ∧ Hid (∀ t ∈ ts, goodTk t) ∧ Rd wr B g A n c f p' ∧ w.grownBy wr (some g) ∧ Own wr w.heap.size v ts) (fun _ i _ => (intOf i).toNat)
  case atStart => exact ⟨m, [], p + 1, rfl, by simpa using hm, by omega, fun t ht => by simp at ht, HR1.out, HG1.out, HO1.out⟩
  case round =>
    obtain ⟨j, ts, p', rfl, hj, hp', hgood, hr2, hg2, ho2⟩ := hrel
    have HR2 := Lib.hid hr2
    have HG2 := Lib.hid hg2
    have HO2 := Lib.hid ho2
    clear hr2 hg2 ho2
    by_cases h0 : 0 < j
    · go_wp2_with fail
      refine (task_any _ B g A n c f p' HR2.out (by omega)).mono ?_
      rintro e w3 ⟨lo, hi', du, ev, cr, p3, rfl, hg, hp3, hr3, hgb3⟩
      have HO3 := Lib.hid (HO2.out.kept hgb3 (fun k e => by injection e with e; omega))
      have HG3 := Lib.hid (gb_trans HG2.out hgb3 (fun x e => .inl (by injection e with e; exact e.symm)))
      have HR3 := Lib.hid hr3
      have hsz3 : w.heap.size ≤ w3.heap.size := HG3.out.size
      clear hr3 hgb3
      have b1 : ts.length + 1 ≤ maxLen := by unfold maxLen; omega
      have b2 : (ts.length + 1) * 40 ≤ 140737488355328 := by omega
      go_wp2_with (at_builtin; refine wpList_append_own _ rfl (.tmp 13) (.tmp 16) 23 rfl w.heap.size 43 i0 _ 5 40 Tryz.underlying23 hi hz0 hz1 hz2 rfl (by decide) _ ts.length (ts.flatMap Tk.cells) rfl (HO3.out.alloc _) ⟨w3.heap.size, 0, none⟩ 1 1 (Tk.cells ⟨lo, hi', du, ev, cr⟩) rfl rfl (cell_new5 _ ⟨lo, hi', du, ev, cr⟩ _) (by intro u hu; exact cells_one [⟨lo, hi', du, ev, cr⟩] u (by simpa using hu)) b1 b2 (by simp; omega) ?_; intro v' w4 hown' hgrow _)
      have HO4 := Lib.hid (Own.snoc hown')
      have HG4 := Lib.hid (gb_trans (gb_alloc HG3.out _) hgrow (fun x e => .inr ((World.ownsRow.lt HO3.out x e).1)))
      have HR4 := Lib.hid ((HR3.out.alloc _).grown hgrow (fun k e => by have := (World.ownsRow.lt HO3.out k e).1; exact ⟨by omega, by omega⟩))
      have hgood' : Hid (∀ t ∈ ts ++ [⟨lo, hi', du, ev, cr⟩], goodTk t) := fun t ht => by
        rcases List.mem_append.1 ht with h | h
        · exact hgood.out t h
        · simp at h; subst h; exact hg
      clear hown' hgrow hg
      go_wp2
      go_roundw
      case rel => exact ⟨j - 1, ts ++ [⟨lo, hi', du, ev, cr⟩], p3, by go_num, by simp; omega, by simp; omega, hgood', HR4.out, HG4.out, HO4.out⟩
      case measure => simp [intOf]; omega
    · obtain rfl : j = 0 := by omega
      go_wp2
      go_ret
      exact ⟨_, ts, p', rfl, by omega, hgood.out, by omega, HR2.out, HG2.out, HO2.out⟩
end
section
open Go.RowKit
def sliceLen : Value → Nat
  | .slice _ n _ => n
  | _ => 0
theorem set_cells (ts : List Tk) : ∀ (k : Nat) (t : Tk), k < ts.length →
    (((((ts.flatMap Tk.cells).set (k * 5) (.int .i64 t.lo)).set (k * 5 + 1) (.int .i64 t.hi)).set (k * 5 + 2) (.int .i64 t.du)).set (k * 5 + 3) (.int .i64 t.ev)).set (k * 5 + 4) (.bool t.cr) = (ts.set k t).flatMap Tk.cells := by
  induction ts with
  | nil => intro k t h; simp at h
  | cons a ts ih =>
    intro k t h
    cases k with
    | zero => simp [List.flatMap_cons, Tk.cells]
    | succ k =>
      have e0 : (k + 1) * 5 = k * 5 + 5 := by omega
      simp only [List.flatMap_cons, Tk.cells, List.set_cons_succ, e0, List.cons_append, List.nil_append]
      rw [← ih k t (by simpa using h)]
theorem Own.put {w : World} {B h n c : Nat} {ts : List Tk} (ho : Own w B (.slice (some ⟨h, 0, none⟩) n c) ts) (k : Nat) (t : Tk) (hk : k < ts.length) :
    Own (((((w.setCell ⟨h, k * 5, none⟩ (.int .i64 t.lo)).setCell ⟨h, k * 5 + 1, none⟩ (.int .i64 t.hi)).setCell ⟨h, k * 5 + 2, none⟩ (.int .i64 t.du)).setCell ⟨h, k * 5 + 3, none⟩ (.int .i64 t.ev)).setCell ⟨h, k * 5 + 4, none⟩ (.bool t.cr)) B (.slice (some ⟨h, 0, none⟩) n c) (ts.set k t) := by
  have hn := ho.reads.1
  subst hn
  have h5 := (((((World.ownsRow.stored ho (k * 5) (.int .i64 t.lo)).1.stored (k * 5 + 1) (.int .i64 t.hi)).1.stored (k * 5 + 2) (.int .i64 t.du)).1.stored (k * 5 + 3) (.int .i64 t.ev)).1.stored (k * 5 + 4) (.bool t.cr)).1
  unfold Own
  rw [List.length_set, ← set_cells ts k t hk]
  exact h5
end
section
open Go.RowKit
theorem own_block {w : World} {B g n N : Nat} {ts : List Tk} (h : Own w B (.slice (some ⟨g, 0, none⟩) n N) ts) :
    n = ts.length ∧ B ≤ g ∧ ∃ cur, w.heap[g]? = some (.cells cur 43 (0, 0)) ∧ n ≤ N ∧ N ≤ maxLen ∧ cur.size = N * 5 ∧ cur.toList.take (n * 5) = ts.flatMap Tk.cells := by
  have hn := h.reads.1
  rcases h.2 with ⟨e, h0⟩ | ⟨g', cap, cur, e, hb, hg, h1, h2, h3, h4⟩
  · cases e
  · injection e with e1 e2 e3
    injection e1 with e1
    injection e1 with e1
    subst e1 e3
    exact ⟨hn, hb, cur, hg, by omega, h2, h3, by rw [hn]; exact h4⟩
theorem drop_cells (ts : List Tk) : ∀ i, (ts.flatMap Tk.cells).drop (i * 5) = (ts.drop i).flatMap Tk.cells := by
  induction ts with
  | nil => intro i; simp
  | cons t ts ih =>
    intro i
    cases i with
    | zero => simp
    | succ i =>
      have e : (i + 1) * 5 = t.cells.length + i * 5 := by simp [Tk.cells]; omega
      rw [List.flatMap_cons, e, List.drop_append, List.drop_succ_cons]
      simp [ih]
theorem take_cells (ts : List Tk) : ∀ i, (ts.flatMap Tk.cells).take (i * 5) = (ts.take i).flatMap Tk.cells := by
  induction ts with
  | nil => intro i; simp
  | cons t ts ih =>
    intro i
    cases i with
    | zero => simp
    | succ i =>
      have e : (i + 1) * 5 = t.cells.length + i * 5 := by simp [Tk.cells]; omega
      rw [List.flatMap_cons, e, List.take_append, List.take_succ_cons]
      simp [ih]
      exact List.take_of_length_le (by omega)
end
section
open Go.RowKit
theorem setB_len {ts : List Tk} (h : setB ts = true) : ts.length ≤ 5 := by
  unfold setB at h; simp at h; exact h.1
/-- A list of tasks as the result: in memory of its own; nothing that was there is written. -/
def LsRes (ts : List Tk) (w : World) (e : Ending) (w' : World) : Prop :=
  ∃ (A : Option Addr) (c : Nat), e = .returned (.slice A ts.length c) ∧ Own w' w.heap.size (.slice A ts.length c) ts ∧ Below w.heap.size w w'
theorem Own.nil_ (w : World) (B : Nat) : Own w B (.slice none 0 0) [] := ⟨rfl, .inl ⟨rfl, rfl⟩⟩
theorem lsRes_of {w w' : World} {v : Value} {ts ts' : List Tk} (ho : Own w' w.heap.size v ts) (hb : Below w.heap.size w w') (he : ts = ts') : LsRes ts' w (.returned v) w' := by
  subst he
  obtain ⟨A, c, rfl⟩ := ho.form
  exact ⟨A, c, rfl, ho, hb⟩
theorem Own.empty (w : World) : Own (w.alloc (.cells #[] 43)) w.heap.size (.slice (some ⟨w.heap.size, 0, none⟩) 0 0) [] :=
  ⟨rfl, .inr ⟨w.heap.size, 0, #[], rfl, Nat.le_refl _, heap_alloc_new w _, Nat.le_refl _, Nat.zero_le _, rfl, rfl⟩⟩
theorem Own.below {w w' : World} {B : Nat} {v : Value} {ts : List Tk} (h : Own w B v ts) (hb : Below w.heap.size w w') : Own w' B v ts :=
  h.kept (row := none) ⟨hb.os, hb.tape, hb.output, hb.size, fun k hk _ => hb.block k hk⟩ (fun k e => by cases e)
theorem own_more {w : World} {B B' : Nat} {v : Value} {ts : List Tk} (h : Own w B v ts) (hB : B' ≤ B) : Own w B' v ts := by
  refine ⟨h.1, ?_⟩
  rcases h.2 with h | ⟨g, cap, cur, e, hb, rest⟩
  · exact .inl h
  · exact .inr ⟨g, cap, cur, e, Nat.le_trans hB hb, rest⟩
end
section
open Go.RowKit
def critL (ts : List Tk) : List Tk := (ts.filter Tk.cr).map fun t => ⟨t.hi, t.hi, t.du, t.ev, t.cr⟩
def critOf (ts : List Tk) : List Tk := if setB ts then critL ts else []
theorem critL_yes {ts : List Tk} {k : Nat} {t : Tk} (h : ts[k]? = some t) (hc : t.cr = true) : critL (ts.take (k + 1)) = critL (ts.take k) ++ [⟨t.hi, t.hi, t.du, t.ev, t.cr⟩] := by
  obtain ⟨hk, rfl⟩ := List.getElem?_eq_some_iff.1 h
  rw [List.take_succ_eq_append_getElem hk]
  simp only [critL, List.filter_append, List.map_append, List.filter_cons, hc, if_true, List.filter_nil, List.map_cons, List.map_nil]
theorem critL_no {ts : List Tk} {k : Nat} {t : Tk} (h : ts[k]? = some t) (hc : t.cr = false) : critL (ts.take (k + 1)) = critL (ts.take k) := by
  obtain ⟨hk, rfl⟩ := List.getElem?_eq_some_iff.1 h
  rw [List.take_succ_eq_append_getElem hk]
  simp only [critL, List.filter_append, List.filter_cons, hc, Bool.false_eq_true, if_false, List.filter_nil, List.append_nil]
theorem critL_len (ts : List Tk) : (critL ts).length ≤ ts.length := by
  unfold critL; rw [List.length_map]; exact List.length_filter_le _ _
set_option maxHeartbeats 1000000 in
theorem iCriticalOf_any (w : World) (A : Option Addr) (n c : Nat) (ts : List Tk) (h : Tks w w.heap.size A n ts) (hn : n ≤ 1048576) :
    Calls Tryz.prog 148 #[.slice A n c] w (LsRes (critOf ts) w) := by
  obtain ⟨i0, hi, hz0, hz1, hz2⟩ := info_parts info_task
  have H := Lib.hid h
  have HL := Lib.hid h.len
  clear h
  cases hs : setB ts
  · go_enter Tryz.func148, Tryz.ntmps148
    go_wp2_with (go_at_call 53; refine (iSetValid_any _ _ _ _ ts H.out hn).mono ?_; rintro e w1 ⟨rfl, hb⟩)
    go_ret
    exact lsRes_of (Own.nil_ _ _) hb (by simp [critOf, hs])
  have h5 : n ≤ 5 := by have := setB_len hs; rw [HL.out] at this; exact this
  go_enter Tryz.func148, Tryz.ntmps148
  go_wp2_with fail
  refine (iSetValid_any _ _ _ _ ts H.out hn).mono ?_
  rintro e w1 ⟨rfl, hb⟩
  have HB1 := Lib.hid hb
  have hsz1 : w.heap.size ≤ w1.heap.size := hb.size
  have HS := Lib.hid hs
  clear hb
  go_wp2_with (at_make; refine wpList_make_own _ rfl _ _ 23 rfl w.heap.size 43 i0 _ 5 Tryz.underlying23 hi hz0 hz1 .i64 .i64 _ n rfl rfl rfl (by rw [hz2]; omega) (by unfold maxLen; omega) hsz1 ?_; intro w2 hown0 hgrow0)
  have HO0 := Lib.hid (show Own w2 w.heap.size _ [] from hown0)
  have HB2 := Lib.hid (HB1.out.grown hgrow0 hsz1 (fun k e => by cases e))
  clear hown0 hgrow0 hs
  go_loopw [3, 14] (fun v i wr => ∃ k : Nat, k ≤ n ∧ i = .int .i64 k ∧ Own wr w.heap.size v (critL (ts.take k)) ∧ Below w.heap.size w wr) (fun _ i _ => n - (intOf i).toNat)
  case atStart => exact ⟨0, Nat.zero_le _, rfl, HO0.out, HB2.out⟩
  case round =>
    obtain ⟨k, hk, rfl, ho, hb⟩ := hrel
    have HO := Lib.hid ho
    have HB := Lib.hid hb
    have hsz : w.heap.size ≤ wr.heap.size := hb.size
    clear ho hb
    by_cases hlt : k < n
    · obtain ⟨t, ht⟩ : ∃ t, ts[k]? = some t := ⟨ts[k]'(by rw [HL.out]; exact hlt), List.getElem?_eq_getElem _⟩
      obtain ⟨b, o, rfl, hbl, c0, c1, c2, c3, c4⟩ := (H.out.below HB.out).at_ k t ht
      obtain ⟨lo, hi', du, ev, cr⟩ := t
      dsimp only at c0 c1 c2 c3 c4
      have HT := Lib.hid ht
      clear ht
      cases cr
      · go_wp2
        go_roundw
        case rel => exact ⟨k + 1, by omega, by go_num, by rw [critL_no HT.out rfl]; exact HO.out.alloc _, bl_alloc HB.out _⟩
        case measure => simp [intOf]; omega
      · have hlen : (critL (ts.take k)).length ≤ 5 := Nat.le_trans (critL_len _) (by rw [List.length_take]; omega)
        have b1 : (critL (ts.take k)).length + 1 ≤ maxLen := by unfold maxLen; omega
        have b2 : ((critL (ts.take k)).length + 1) * 40 ≤ 140737488355328 := by omega
        go_wp2_with (at_builtin; refine wpList_append_own _ rfl (.tmp 23) (.tmp 25) 23 rfl w.heap.size 43 i0 _ 5 40 Tryz.underlying23 hi hz0 hz1 hz2 rfl (by decide) _ (critL (ts.take k)).length ((critL (ts.take k)).flatMap Tk.cells) rfl ((HO.out.alloc _).alloc _) ⟨wr.heap.size + 1, 0, none⟩ 1 1 (Tk.cells ⟨hi', hi', du, ev, true⟩) rfl rfl (cell_new5_at _ ⟨hi', hi', du, ev, true⟩ _ _ (by simp)) (by intro u hu; exact cells_one [⟨hi', hi', du, ev, true⟩] u (by simpa using hu)) b1 b2 (by simp; omega) ?_; intro v' w4 hown' hgrow _)
        have HO4 := Lib.hid (Own.snoc hown')
        have HB4 := Lib.hid ((bl_alloc (bl_alloc HB.out _) _).grown hgrow (by simp; omega) (fun k e => (World.ownsRow.lt HO.out k e).1))
        clear hown' hgrow hlen b1 b2
        go_wp2
        go_roundw
        case rel => exact ⟨k + 1, by omega, by go_num, by rw [critL_yes HT.out rfl]; exact HO4.out, HB4.out⟩
        case measure => simp [intOf]; omega
    · obtain rfl : k = n := by omega
      go_wp2
      go_ret
      exact lsRes_of HO.out HB.out (by rw [List.take_of_length_le (by rw [HL.out]; omega)]; simp [critOf, HS.out])
set_option maxHeartbeats 1000000 in
theorem sCriticalOf_any (w : World) (A : Option Addr) (n c : Nat) (ts : List Tk) (h : Tks w w.heap.size A n ts) (hn : n ≤ 1048576) :
    Calls Tryz.prog 151 #[.slice A n c] w (LsRes (critOf ts) w) := by
  obtain ⟨i0, hi, hz0, hz1, hz2⟩ := info_parts info_task
  have H := Lib.hid h
  have HL := Lib.hid h.len
  clear h
  cases hs : setB ts
  · have hn0 : 0 < n := by
      rcases Nat.eq_zero_or_pos n with h0 | h0
      · have : ts = [] := List.eq_nil_of_length_eq_zero (by rw [HL.out, h0])
        rw [this] at hs; cases hs
      · exact h0
    go_enter Tryz.func151, Tryz.ntmps151
    go_wp2
    go_loopw [3, 4] (fun v i wr => i = .int .i64 0 ∧ Own wr w.heap.size v [] ∧ Below w.heap.size w wr) (fun _ _ _ => 0)
    case atStart => exact ⟨rfl, Own.empty w, bl_alloc (Below.refl _ _) _⟩
    case round =>
      obtain ⟨rfl, ho, hb⟩ := hrel
      have HO := Lib.hid ho
      have HB := Lib.hid hb
      have hsz : w.heap.size ≤ wr.heap.size := hb.size
      clear ho hb
      go_wp2_with fail
      refine (sSetValid_any _ _ _ _ ts ((H.out.below HB.out).more hsz) hn).mono ?_
      rintro e w2 ⟨rfl, hb2⟩
      have HB2 := Lib.hid (bl_trans HB.out hb2)
      have HO2 := Lib.hid (HO.out.below hb2)
      clear hb2
      go_wp2
      go_ret
      exact lsRes_of HO2.out HB2.out (by simp [critOf, hs])
  have h5 : n ≤ 5 := by have := setB_len hs; rw [HL.out] at this; exact this
  have HS := Lib.hid hs
  go_enter Tryz.func151, Tryz.ntmps151
  go_wp2
  go_loopw [3, 4] (fun v i wr => ∃ k : Nat, k ≤ n ∧ i = .int .i64 k ∧ Own wr w.heap.size v (critL (ts.take k)) ∧ Below w.heap.size w wr) (fun _ i _ => n - (intOf i).toNat)
  case atStart => exact ⟨0, Nat.zero_le _, rfl, Own.empty w, bl_alloc (Below.refl _ _) _⟩
  case round =>
    obtain ⟨k, hk, rfl, ho, hb⟩ := hrel
    have HO0 := Lib.hid ho
    have HB0 := Lib.hid hb
    have hsz0 : w.heap.size ≤ wr.heap.size := hb.size
    clear ho hb
    by_cases hlt : k < n
    · go_wp2_with fail
      refine (sSetValid_any _ _ _ _ ts ((H.out.below HB0.out).more hsz0) (by omega)).mono ?_
      rintro e w2 ⟨rfl, hb2⟩
      have HB := Lib.hid (bl_trans HB0.out hb2)
      have HO := Lib.hid (HO0.out.below hb2)
      have hsz : w.heap.size ≤ w2.heap.size := HB.out.size
      clear hb2
      obtain ⟨t, ht⟩ : ∃ t, ts[k]? = some t := ⟨ts[k]'(by rw [HL.out]; exact hlt), List.getElem?_eq_getElem _⟩
      obtain ⟨b, o, rfl, hbl, c0, c1, c2, c3, c4⟩ := (H.out.below HB.out).at_ k t ht
      obtain ⟨lo, hi', du, ev, cr⟩ := t
      dsimp only at c0 c1 c2 c3 c4
      have HT := Lib.hid ht
      clear ht
      cases cr
      · go_wp2
        go_roundw
        case rel => exact ⟨k + 1, by omega, by go_num, by rw [critL_no HT.out rfl]; exact HO.out.alloc _, bl_alloc HB.out _⟩
        case measure => simp [intOf]; omega
      · have hlen : (critL (ts.take k)).length ≤ 5 := Nat.le_trans (critL_len _) (by rw [List.length_take]; omega)
        have b1 : (critL (ts.take k)).length + 1 ≤ maxLen := by unfold maxLen; omega
        have b2 : ((critL (ts.take k)).length + 1) * 40 ≤ 140737488355328 := by omega
        go_wp2_with (at_builtin; refine wpList_append_own _ rfl (.tmp 26) (.tmp 28) 23 rfl w.heap.size 43 i0 _ 5 40 Tryz.underlying23 hi hz0 hz1 hz2 rfl (by decide) _ (critL (ts.take k)).length ((critL (ts.take k)).flatMap Tk.cells) rfl ((HO.out.alloc _).alloc _) ⟨w2.heap.size + 1, 0, none⟩ 1 1 (Tk.cells ⟨hi', hi', du, ev, true⟩) rfl rfl (cell_new5_at _ ⟨hi', hi', du, ev, true⟩ _ _ (by simp)) (by intro u hu; exact cells_one [⟨hi', hi', du, ev, true⟩] u (by simpa using hu)) b1 b2 (by simp; omega) ?_; intro v' w4 hown' hgrow _)
        have HO4 := Lib.hid (Own.snoc hown')
        have HB4 := Lib.hid ((bl_alloc (bl_alloc HB.out _) _).grown hgrow (by simp; omega) (fun k e => (World.ownsRow.lt HO.out k e).1))
        clear hown' hgrow hlen b1 b2
        go_wp2
        go_roundw
        case rel => exact ⟨k + 1, by omega, by go_num, by rw [critL_yes HT.out rfl]; exact HO4.out, HB4.out⟩
        case measure => simp [intOf]; omega
    · obtain rfl : k = n := by omega
      go_wp2
      go_ret
      exact lsRes_of HO0.out HB0.out (by rw [List.take_of_length_le (by rw [HL.out]; omega)]; simp [critOf, HS.out])
end
section
open Go.RowKit
theorem iCriticalOf_is (w : World) (A : Option Addr) (n c : Nat) (ts us : List Tk) (hu : us = critOf ts) (h : Tks w w.heap.size A n ts) (hn : n ≤ 1048576) :
    Calls Tryz.prog 148 #[.slice A n c] w (LsRes us w) := by subst hu; exact iCriticalOf_any w A n c ts h hn
theorem sCriticalOf_is (w : World) (A : Option Addr) (n c : Nat) (ts us : List Tk) (hu : us = critOf ts) (h : Tks w w.heap.size A n ts) (hn : n ≤ 1048576) :
    Calls Tryz.prog 151 #[.slice A n c] w (LsRes us w) := by subst hu; exact sCriticalOf_any w A n c ts h hn
theorem critOf_len (ts : List Tk) : (critOf ts).length ≤ ts.length := by
  unfold critOf; split
  · exact critL_len ts
  · simp
theorem ok_crit {t : Tk} (h : t.ok = true) : Tk.ok ⟨t.hi, t.hi, t.du, t.ev, t.cr⟩ = true := by
  unfold Tk.ok validB at *
  simp at h ⊢
  omega
theorem critL_mem {ts : List Tk} {t : Tk} (h : t ∈ critL ts) : ∃ u ∈ ts, u.cr = true ∧ t = ⟨u.hi, u.hi, u.du, u.ev, u.cr⟩ := by
  unfold critL at h
  rw [List.mem_map] at h
  obtain ⟨u, hu, rfl⟩ := h
  rw [List.mem_filter] at hu
  exact ⟨u, hu.1, hu.2, rfl⟩
theorem crit_facts {ts us : List Tk} (hs : setB ts = true) (hu : us = critOf ts) : setB us = true ∧ critOf us = us ∧ us.length ≤ ts.length ∧ ∀ t ∈ us, t.cr = true ∧ t.lo = t.hi := by
  have e : us = critL ts := by rw [hu]; simp [critOf, hs]
  have hall : ∀ t ∈ us, t.cr = true ∧ t.lo = t.hi := fun t ht => by
    rw [e] at ht
    obtain ⟨u, _, h2, rfl⟩ := critL_mem ht
    exact ⟨h2, rfl⟩
  have hsu : setB us = true := by
    unfold setB at hs ⊢
    simp at hs ⊢
    refine ⟨by rw [e]; exact Nat.le_trans (critL_len ts) hs.1, fun t ht => ?_⟩
    rw [e] at ht
    obtain ⟨u, hu, _, rfl⟩ := critL_mem ht
    exact ok_crit (hs.2 u hu)
  refine ⟨hsu, ?_, by rw [e]; exact critL_len ts, hall⟩
  have e1 : critOf us = critL us := by simp [critOf, hsu]
  rw [e1]
  clear e e1 hsu hu hs
  induction us with
  | nil => rfl
  | cons t us ih =>
    obtain ⟨a, b⟩ := hall t (by simp)
    have := ih (fun t ht => hall t (by simp [ht]))
    unfold critL at this ⊢
    rw [List.filter_cons, a]
    simp only [if_true, List.map_cons, this]
    obtain ⟨lo, hi, du, ev, cr⟩ := t
    simp at a b
    subst b
    rfl
end
section
open Go.RowKit
/-- Whether one task goes before another one. -/
def beforeB (du ev du' ev' : Int) : Bool := if du = du' then decide (ev < ev') else decide (du < du')
def Tk.bef (t u : Tk) : Bool := beforeB t.du t.ev u.du u.ev
theorem sBefore_any (lo hi du ev : Int) (cr : Bool) (lo' hi' du' ev' : Int) (cr' : Bool) (w : World) :
    Calls Tryz.prog 124 #[.agg #[.int .i64 lo, .int .i64 hi, .int .i64 du, .int .i64 ev, .bool cr], .agg #[.int .i64 lo', .int .i64 hi', .int .i64 du', .int .i64 ev', .bool cr']] w fun e w' =>
      e = .returned (.bool (beforeB du ev du' ev')) ∧ Below w.heap.size w w' := by
  by_cases h : du = du'
  · subst h
    go_enter Tryz.func124, Tryz.ntmps124
    go_wp2
    go_ret
    exact ⟨by simp [beforeB], bl_alloc (bl_alloc (Below.refl _ _) _) _⟩
  · have h' : (du != du') = true := by simpa using h
    have H := Lib.hid h
    clear h
    go_enter Tryz.func124, Tryz.ntmps124
    go_wp2
    go_ret
    exact ⟨by simp [beforeB, H.out], bl_alloc (bl_alloc (Below.refl _ _) _) _⟩
/-- The place of t in a list, looked for from place p downwards. -/
def posB (t : Tk) (out : List Tk) : Nat → Nat
  | 0 => 0
  | p + 1 => match out[p]? with
    | some u => if t.bef u then posB t out p else p + 1
    | none => p + 1
theorem posB_le (t : Tk) (out : List Tk) : ∀ p, posB t out p ≤ p
  | 0 => Nat.le_refl _
  | p + 1 => by
    unfold posB
    split
    · split
      · exact Nat.le_succ_of_le (posB_le t out p)
      · exact Nat.le_refl _
    · exact Nat.le_refl _
def insB (t : Tk) (out : List Tk) : List Tk := out.take (posB t out out.length) ++ t :: out.drop (posB t out out.length)
def sortL (ts : List Tk) : List Tk := ts.foldl (fun out t => insB t out) []
def sortOf (ts : List Tk) : List Tk := if setB ts then sortL ts else []
theorem insB_len (t : Tk) (out : List Tk) : (insB t out).length = out.length + 1 := by
  have := posB_le t out out.length
  simp [insB]; omega
theorem sortL_take {ts : List Tk} {k : Nat} {t : Tk} (h : ts[k]? = some t) : sortL (ts.take (k + 1)) = insB t (sortL (ts.take k)) := by
  obtain ⟨hk, rfl⟩ := List.getElem?_eq_some_iff.1 h
  rw [List.take_succ_eq_append_getElem hk]
  simp only [sortL, List.foldl_append, List.foldl_cons, List.foldl_nil]
theorem sortL_len (ts : List Tk) : (sortL ts).length = ts.length := by
  have : ∀ (ts out : List Tk), (ts.foldl (fun out t => insB t out) out).length = out.length + ts.length := by
    intro ts
    induction ts with
    | nil => intro out; rfl
    | cons t ts ih => intro out; rw [List.foldl_cons, ih, insB_len, List.length_cons]; omega
  have := this ts []
  simpa [sortL] using this
theorem posB_yes {t u : Tk} {out : List Tk} {q : Nat} (h : out[q]? = some u) (hb : t.bef u = true) : posB t out (q + 1) = posB t out q := by
  show (match out[q]? with | some u => if t.bef u then posB t out q else q + 1 | none => q + 1) = _
  rw [h]; simp [hb]
theorem posB_no {t u : Tk} {out : List Tk} {q : Nat} (h : out[q]? = some u) (hb : t.bef u = false) : posB t out (q + 1) = q + 1 := by
  show (match out[q]? with | some u => if t.bef u then posB t out q else q + 1 | none => q + 1) = _
  rw [h]; simp [hb]
end
section
open Go.RowKit
theorem Own.kept_dn {w w' : World} {B M : Nat} {v : Value} {ts : List Tk} {row : Option Nat} (h : Own w B v ts) (hg : w.grownBy w' row) (hv : ∀ k, v.ownBlock = some k → k < M) (hr : ∀ k, row = some k → M ≤ k) : Own w' B v ts := by
  refine World.ownsRow.kept h hg ?_
  rcases he : v.ownBlock with _ | k
  · exact .inl rfl
  · right
    intro e
    have := hv k he
    have := hr k e.symm
    omega
theorem own_first {w : World} {B q : Nat} {v : Value} {us : List Tk} (hl : us.length = 0 + q) (h : w.ownsRow B 43 5 v (0 + q) ([] ++ us.flatMap Tk.cells)) : Own w B v us := by
  show w.ownsRow _ _ _ _ _ _
  rw [hl]
  simpa using h
theorem tk_at {w : World} {B b o n i : Nat} {ts : List Tk} {t : Tk} (h : Tks w B (some ⟨b, o, none⟩) n ts) (ht : ts[i]? = some t) :
    w.cell? ⟨b, o + i * 5, none⟩ = some (.int .i64 t.lo) ∧ w.cell? ⟨b, o + i * 5 + 1, none⟩ = some (.int .i64 t.hi) ∧ w.cell? ⟨b, o + i * 5 + 2, none⟩ = some (.int .i64 t.du) ∧ w.cell? ⟨b, o + i * 5 + 3, none⟩ = some (.int .i64 t.ev) ∧ w.cell? ⟨b, o + i * 5 + 4, none⟩ = some (.bool t.cr) := by
  obtain ⟨b', o', e, _, c0, c1, c2, c3, c4⟩ := h.at_ i t ht
  injection e with e
  injection e with e1 e2
  subst e1 e2
  exact ⟨c0, c1, c2, c3, c4⟩
theorem drop_at {w : World} {B g k cc q : Nat} {out : List Tk} (ho : Own w B (.slice (some ⟨g, 0, none⟩) k cc) out) (hl : k = out.length) (ad : Addr) (had : cc = q ∨ ad = ⟨g, q * 5, none⟩) (hkc : k ≤ cc) :
    ∀ (j : Nat) (u : Value), ((out.drop q).flatMap Tk.cells)[j]? = some u → w.cell? (ad.add j) = some u := fun j u hu => by
  have hj := (List.getElem?_eq_some_iff.1 hu).1
  rw [cells_length, List.length_drop, ← hl] at hj
  rcases had with h1 | h1
  · omega
  · subst h1 hl
    rw [← drop_cells, List.getElem?_drop] at hu
    have := World.ownsRow.cells ho (g := g) rfl (q * 5 + j) u hu
    have e1 : (⟨g, 0, none⟩ : Addr).add (q * 5 + j) = ⟨g, q * 5 + j, none⟩ := by unfold Addr.add; split <;> simp_all
    have e2 : (⟨g, q * 5, none⟩ : Addr).add j = ⟨g, q * 5 + j, none⟩ := by unfold Addr.add; split <;> simp_all
    rw [e2]; rw [e1] at this; exact this
theorem own_last {w : World} {B B' q k : Nat} {v : Value} {out : List Tk} {t : Tk} (hl : k = out.length) (hq : posB t out out.length = q) (hB : B' ≤ B)
    (h : w.ownsRow B 43 5 v ((out.take q ++ [t]).length + (k - q)) ((out.take q ++ [t]).flatMap Tk.cells ++ (out.drop q).flatMap Tk.cells)) : Own w B' v (insB t out) := by
  refine own_more (B := B) ?_ hB
  unfold insB
  rw [hq]
  show w.ownsRow _ _ _ _ _ _
  have e : (out.take q ++ t :: out.drop q).length = (out.take q ++ [t]).length + (k - q) := by simp [hl] <;> omega
  have e2 : (out.take q ++ t :: out.drop q).flatMap Tk.cells = (out.take q ++ [t]).flatMap Tk.cells ++ (out.drop q).flatMap Tk.cells := by simp [List.flatMap_append, List.flatMap_cons]
  rw [e, e2]
  exact h
/-- The tasks of a list that is not nil lie in a block. -/
theorem own_form {w : World} {B : Nat} {v : Value} {ts : List Tk} (h : Own w B v ts) (hv : v ≠ .slice none 0 0) : ∃ g c, v = .slice (some ⟨g, 0, none⟩) ts.length c := by
  rcases h.2 with ⟨e, _⟩ | ⟨g, cap, cur, e, _⟩
  · exact absurd e hv
  · exact ⟨g, cap, e⟩
set_option maxRecDepth 100000 in
set_option maxHeartbeats 4000000 in
theorem sSortDue_any (w : World) (A : Option Addr) (n c : Nat) (ts : List Tk) (h : Tks w w.heap.size A n ts) (hn : n ≤ 1048576) :
    Calls Tryz.prog 83 #[.slice A n c] w (LsRes (sortOf ts) w) := by
  obtain ⟨i0, hi, hz0, hz1, hz2⟩ := info_parts info_task
  have H := Lib.hid h
  have HL := Lib.hid h.len
  clear h
  cases hs : setB ts
  · have hn0 : 0 < n := by
      rcases Nat.eq_zero_or_pos n with h0 | h0
      · have : ts = [] := List.eq_nil_of_length_eq_zero (by rw [HL.out, h0])
        rw [this] at hs; cases hs
      · exact h0
    go_enter Tryz.func83, Tryz.ntmps83
    go_wp2
    go_loopw [3, 4] (fun v i wr => i = .int .i64 0 ∧ Own wr w.heap.size v [] ∧ Below w.heap.size w wr) (fun _ _ _ => 0)
    case atStart => exact ⟨rfl, Own.empty w, bl_alloc (Below.refl _ _) _⟩
    case round =>
      obtain ⟨rfl, ho, hb⟩ := hrel
      have HO := Lib.hid ho
      have HB := Lib.hid hb
      have hsz : w.heap.size ≤ wr.heap.size := hb.size
      clear ho hb
      go_wp2_with fail
      refine (sSetValid_any _ _ _ _ ts ((H.out.below HB.out).more hsz) hn).mono ?_
      rintro e w2 ⟨rfl, hb2⟩
      have HB2 := Lib.hid (bl_trans HB.out hb2)
      have HO2 := Lib.hid (HO.out.below hb2)
      clear hb2
      go_wp2
      go_ret
      exact lsRes_of HO2.out HB2.out (by simp [sortOf, hs])
  have h5 : n ≤ 5 := by have := setB_len hs; rw [HL.out] at this; exact this
  have HS := Lib.hid hs
  go_enter Tryz.func83, Tryz.ntmps83
  go_wp2
  go_loopw [3, 4] (fun v i wr => ∃ k : Nat, k ≤ n ∧ i = .int .i64 k ∧ ∃ gg cc : Nat, v = .slice (some ⟨gg, 0, none⟩) k cc ∧ Own wr w.heap.size (.slice (some ⟨gg, 0, none⟩) k cc) (sortL (ts.take k)) ∧ Below w.heap.size w wr) (fun _ i _ => n - (intOf i).toNat)
  case atStart => exact ⟨0, Nat.zero_le _, rfl, w.heap.size, 0, rfl, Own.empty w, bl_alloc (Below.refl _ _) _⟩
  case round =>
    obtain ⟨i, hk, rfl, gg, cc, rfl, ho, hb⟩ := hrel
    have HO0 := Lib.hid ho
    have HB0 := Lib.hid hb
    have hsz0 : w.heap.size ≤ wr.heap.size := hb.size
    clear ho hb
    by_cases hlt : i < n
    · go_wp2_with fail
      refine (sSetValid_any _ _ _ _ ts ((H.out.below HB0.out).more hsz0) (by omega)).mono ?_
      rintro e wo ⟨rfl, hb2⟩
      have HBo := Lib.hid (bl_trans HB0.out hb2)
      have HOo := Lib.hid (HO0.out.below hb2)
      clear hb2
      obtain ⟨t, ht⟩ : ∃ t, ts[i]? = some t := ⟨ts[i]'(by rw [HL.out]; exact hlt), List.getElem?_eq_getElem _⟩
      have HTK := Lib.hid (sortL_take ht)
      obtain ⟨out, hout⟩ : ∃ out, out = sortL (ts.take i) := ⟨_, rfl⟩
      have hol : i = out.length := by rw [hout, sortL_len, List.length_take, HL.out]; omega
      rw [← hout] at HTK HOo
      have HL2 : Hid (i = out.length) := hol
      obtain ⟨hx, hgb, cur, hx2, hkc, hcm, hx3, hx4⟩ := own_block HOo.out
      clear hx hx2 hx3 hx4
      unfold maxLen at hcm
      obtain ⟨b2, o2, rfl, hbl2, _⟩ := H.out.at_ i t ht
      obtain ⟨lo, hi', du, ev, cr⟩ := t
      have HTI := Lib.hid ht
      have hk5 : i ≤ 5 := by omega
      have i4 : (0 : Int) ≤ (i : Int) := by omega
      have i5 : (i : Int) < (n : Int) := by omega
      clear ht hout hol HO0 HB0
      go_wp2
      clear hs
      go_loopw [5] (fun p wr => ∃ q : Nat, q ≤ i ∧ p = .int .i64 q ∧ Hid (posB ⟨lo, hi', du, ev, cr⟩ out q = posB ⟨lo, hi', du, ev, cr⟩ out i) ∧ Below w.heap.size w wr ∧ Own wr w.heap.size (.slice (some ⟨gg, 0, none⟩) i cc) out) (fun p _ => (intOf p).toNat)
      case atStart => exact ⟨i, Nat.le_refl _, rfl, by show _ = _; rfl, HBo.out, HOo.out⟩
      case round =>
        obtain ⟨p, hp, rfl, hpos, hb, ho⟩ := hrel
        have HB := Lib.hid hb
        have HO := Lib.hid ho
        have hszr : w.heap.size ≤ wr.heap.size := hb.size
        have hgr : gg < wr.heap.size := (World.ownsRow.lt ho gg rfl).2
        clear hb ho
        by_cases hp0 : p = 0
        · have i9 : decide (0 < p) = false := by simp [hp0]
          have HP0 := Lib.hid hp0
          clear hp0
          go_wp2
          go_quiet (fail)
          clear i9
          have HBq : Hid (Below w.heap.size w (wr.drewN nq)) := bl_drewN HB.out _
          have HOq : Hid (Own (wr.drewN nq) w.heap.size (.slice (some ⟨gg, 0, none⟩) i cc) out) := HO.out
          clear HB HO hszr hgr
          generalize wr.drewN nq = w' at HBq HOq ⊢
          have HB := HBq
          have HO := HOq
          clear HBq HOq
          have hlast : Hid (posB ⟨lo, hi', du, ev, cr⟩ out out.length = p) := by show _ = _; rw [← HL2.out, ← hpos.out, HP0.out]; rfl
          have HBW : Hid (Below w.heap.size w w') := by first | exact HB.out | exact bl_drewN HB.out _
          have HOW : Hid (Own w' w.heap.size (.slice (some ⟨gg, 0, none⟩) i cc) out) := HO.out
          have hszW : w.heap.size ≤ w'.heap.size := HBW.out.size
          have hgW : gg < w'.heap.size := (World.ownsRow.lt HOW.out gg rfl).2
          have nl1 : ((out.take (p)).flatMap Tk.cells).length = (p) * 5 := by rw [cells_length, List.length_take, ← HL2.out, show min (p) i = p by omega]
          have nb1 : 0 + (p) ≤ maxLen := by unfold maxLen; omega
          have nb2 : (0 + (p)) * 40 ≤ 140737488355328 := by omega
          have HN1 : Hid (∀ (o : Obj) (j : Nat) (u : Value), ((out.take (p)).flatMap Tk.cells)[j]? = some u → (w'.alloc o).cell? ((⟨gg, 0, none⟩ : Addr).add j) = some u) := fun o j u hu => by
            rw [← take_cells] at hu
            rw [List.getElem?_take] at hu
            split at hu
            · exact World.ownsRow.cells (World.ownsRow.alloc HOW.out o) (g := gg) rfl j u hu
            · cases hu
          have mb1 : (out.take (p)).length + 1 ≤ maxLen := by rw [List.length_take]; unfold maxLen; omega
          have mb2 : ((out.take (p)).length + 1) * 40 ≤ 140737488355328 := by rw [List.length_take]; omega
          have pl : (out.take (p) ++ [(⟨lo, hi', du, ev, cr⟩ : Tk)]).length = (p) + 1 := by rw [List.length_append, List.length_take, ← HL2.out]; simp <;> omega
          have pb1 : (out.take (p) ++ [(⟨lo, hi', du, ev, cr⟩ : Tk)]).length + (i - (p)) ≤ maxLen := by rw [pl]; unfold maxLen; omega
          have pb2 : ((out.take (p) ++ [(⟨lo, hi', du, ev, cr⟩ : Tk)]).length + (i - (p))) * 40 ≤ 140737488355328 := by rw [pl]; omega
          have pn : ((out.drop (p)).flatMap Tk.cells).length = (i - (p)) * 5 := by rw [cells_length, List.length_drop, ← HL2.out]
          have PL := Lib.hid pl
          have NL1 := Lib.hid nl1
          have PN := Lib.hid pn
          clear pl nl1 pn
          by_cases hcq : cc = (p)
          · have hcq2 := hcq.symm
            clear hcq
            subst hcq2
            have HZ : Hid (i - (p) = 0) := by show _ = _; omega
            have PZ : Hid (((out.drop (p)).flatMap Tk.cells).length = 0 * 5) := by show _ = _; rw [PN.out, HZ.out]
            have pz1 : (out.take (p) ++ [(⟨lo, hi', du, ev, cr⟩ : Tk)]).length + 0 ≤ maxLen := by omega
            have pz2 : ((out.take (p) ++ [(⟨lo, hi', du, ev, cr⟩ : Tk)]).length + 0) * 40 ≤ 140737488355328 := by rw [HZ.out] at pb2; exact pb2
            go_wp2_with (first
              | (at_builtin
                 refine wpList_append_own _ rfl (.tmp 36) (.tmp 39) 23 rfl (w'.heap.size) 43 i0 _ 5 40 Tryz.underlying23 hi hz0 hz1 hz2 rfl (by decide) _ 0 [] rfl (Own.empty w') ⟨gg, 0, none⟩ (p) (p) ((out.take (p)).flatMap Tk.cells) rfl NL1.out (HN1.out _) (cells_one _) nb1 nb2 (by simp) ?_
                 intro v1 w5 hown1 hgrow1 _
                 have hsz5 : w'.heap.size ≤ w5.heap.size := by have h := hgrow1.size; rw [World.size_alloc] at h; omega
                 have HX1 : Hid (Own w5 w'.heap.size v1 (out.take (p))) := own_first (by rw [List.length_take, ← HL2.out]; omega) hown1
                 have HB5 := Lib.hid ((bl_alloc HBW.out (.cells #[] 43)).grown hgrow1 (by rw [World.size_alloc]; omega) (fun x e => by have e' : some w'.heap.size = some x := e; injection e' with e'; omega))
                 have HO5 : Hid (Own w5 w.heap.size (.slice (some ⟨gg, 0, none⟩) i (p)) out) := Own.kept_dn (Own.alloc HOW.out (.cells #[] 43)) hgrow1 (M := w'.heap.size) (fun x e => by have e' : some gg = some x := e; injection e' with e'; omega) (fun x e => by have e' : some w'.heap.size = some x := e; injection e' with e'; omega)
                 clear hown1 hgrow1
                 obtain ⟨c0, c1, c2, c3, c4⟩ := tk_at (H.out.below HB5.out) HTI.out)
              | (at_builtin
                 refine wpList_append_own _ rfl (.tmp 41) (.tmp 46) 23 rfl (w'.heap.size) 43 i0 _ 5 40 Tryz.underlying23 hi hz0 hz1 hz2 rfl (by decide) v1 (out.take (p)).length ((out.take (p)).flatMap Tk.cells) rfl (World.ownsRow.alloc HX1.out _) ⟨w5.heap.size, 0, none⟩ 1 1 (Tk.cells ⟨lo, hi', du, ev, cr⟩) rfl rfl (cell_new5 _ ⟨lo, hi', du, ev, cr⟩ _) (by intro u hu; exact cells_one [⟨lo, hi', du, ev, cr⟩] u (by simpa using hu)) mb1 mb2 (by simp; omega) ?_
                 intro v2 w6 hown2 hgrow2 hiff2
                 have hsz6 : w'.heap.size ≤ w6.heap.size := by have h := hgrow2.size; rw [World.size_alloc] at h; omega
                 have HX2 := Lib.hid (Own.snoc hown2)
                 have HB6 := Lib.hid ((bl_alloc HB5.out _).grown hgrow2 (by rw [World.size_alloc]; omega) (fun x e => by have := (World.ownsRow.lt HX1.out x e).1; omega))
                 have HO6 : Hid (Own w6 w.heap.size (.slice (some ⟨gg, 0, none⟩) i (p)) out) := Own.kept_dn (Own.alloc HO5.out _) hgrow2 (M := w'.heap.size) (fun x e => by have e' : some gg = some x := e; injection e' with e'; omega) (fun x e => (World.ownsRow.lt HX1.out x e).1)
                 have HNN2 : Hid (v2 ≠ .slice none 0 0) := fun e => by have := (hiff2.1 e).2; omega
                 have HN4 := Lib.hid (drop_at HO6.out HL2.out (⟨gg, 0, none⟩) (.inl rfl) (by omega))
                 clear hown2 hgrow2 hiff2 c0 c1 c2 c3 c4)
              | (at_builtin
                 refine wpList_append_own _ rfl (.tmp 48) (.tmp 51) 23 rfl (w'.heap.size) 43 i0 _ 5 40 Tryz.underlying23 hi hz0 hz1 hz2 rfl (by decide) v2 (out.take (p) ++ [(⟨lo, hi', du, ev, cr⟩ : Tk)]).length ((out.take (p) ++ [(⟨lo, hi', du, ev, cr⟩ : Tk)]).flatMap Tk.cells) rfl HX2.out ⟨gg, 0, none⟩ 0 _ ((out.drop (p)).flatMap Tk.cells) rfl PZ.out HN4.out (cells_one _) pz1 pz2 (by omega) ?_
                 intro v3 w7 hown3 hgrow3 hiff3
                 have HX3 : Hid (Own w7 w.heap.size v3 (insB ⟨lo, hi', du, ev, cr⟩ out)) := own_last HL2.out hlast.out hszW (by rw [HZ.out]; exact hown3)
                 have HB7 := Lib.hid (HB6.out.grown hgrow3 HB6.out.size (fun x e => by have := (World.ownsRow.lt HX2.out x e).1; omega))
                 have HNN3 : Hid (v3 ≠ .slice none 0 0) := fun e => HNN2.out (hiff3.1 e).1
                 clear hown3 hgrow3 hiff3))
            obtain ⟨g3, c3, hv3⟩ := own_form HX3.out HNN3.out
            have HV3 := Lib.hid hv3
            clear hv3
            go_roundw
            case rel => exact ⟨i + 1, by omega, by go_num, g3, c3, by rw [HV3.out, insB_len, ← HL2.out], by rw [HTK.out]; have hx := HX3.out; rw [HV3.out, insB_len, ← HL2.out] at hx; exact hx, HB7.out⟩
            case measure => simp [intOf]; omega
          · have HCQ := Lib.hid hcq
            go_wp2_with (first
              | (at_builtin
                 refine wpList_append_own _ rfl (.tmp 36) (.tmp 39) 23 rfl (w'.heap.size) 43 i0 _ 5 40 Tryz.underlying23 hi hz0 hz1 hz2 rfl (by decide) _ 0 [] rfl (Own.empty w') ⟨gg, 0, none⟩ (p) cc ((out.take (p)).flatMap Tk.cells) rfl NL1.out (HN1.out _) (cells_one _) nb1 nb2 (by simp) ?_
                 intro v1 w5 hown1 hgrow1 _
                 have hsz5 : w'.heap.size ≤ w5.heap.size := by have h := hgrow1.size; rw [World.size_alloc] at h; omega
                 have HX1 : Hid (Own w5 w'.heap.size v1 (out.take (p))) := own_first (by rw [List.length_take, ← HL2.out]; omega) hown1
                 have HB5 := Lib.hid ((bl_alloc HBW.out (.cells #[] 43)).grown hgrow1 (by rw [World.size_alloc]; omega) (fun x e => by have e' : some w'.heap.size = some x := e; injection e' with e'; omega))
                 have HO5 : Hid (Own w5 w.heap.size (.slice (some ⟨gg, 0, none⟩) i cc) out) := Own.kept_dn (Own.alloc HOW.out (.cells #[] 43)) hgrow1 (M := w'.heap.size) (fun x e => by have e' : some gg = some x := e; injection e' with e'; omega) (fun x e => by have e' : some w'.heap.size = some x := e; injection e' with e'; omega)
                 clear hown1 hgrow1
                 obtain ⟨c0, c1, c2, c3, c4⟩ := tk_at (H.out.below HB5.out) HTI.out)
              | (at_builtin
                 refine wpList_append_own _ rfl (.tmp 41) (.tmp 46) 23 rfl (w'.heap.size) 43 i0 _ 5 40 Tryz.underlying23 hi hz0 hz1 hz2 rfl (by decide) v1 (out.take (p)).length ((out.take (p)).flatMap Tk.cells) rfl (World.ownsRow.alloc HX1.out _) ⟨w5.heap.size, 0, none⟩ 1 1 (Tk.cells ⟨lo, hi', du, ev, cr⟩) rfl rfl (cell_new5 _ ⟨lo, hi', du, ev, cr⟩ _) (by intro u hu; exact cells_one [⟨lo, hi', du, ev, cr⟩] u (by simpa using hu)) mb1 mb2 (by simp; omega) ?_
                 intro v2 w6 hown2 hgrow2 hiff2
                 have hsz6 : w'.heap.size ≤ w6.heap.size := by have h := hgrow2.size; rw [World.size_alloc] at h; omega
                 have HX2 := Lib.hid (Own.snoc hown2)
                 have HB6 := Lib.hid ((bl_alloc HB5.out _).grown hgrow2 (by rw [World.size_alloc]; omega) (fun x e => by have := (World.ownsRow.lt HX1.out x e).1; omega))
                 have HO6 : Hid (Own w6 w.heap.size (.slice (some ⟨gg, 0, none⟩) i cc) out) := Own.kept_dn (Own.alloc HO5.out _) hgrow2 (M := w'.heap.size) (fun x e => by have e' : some gg = some x := e; injection e' with e'; omega) (fun x e => (World.ownsRow.lt HX1.out x e).1)
                 have HNN2 : Hid (v2 ≠ .slice none 0 0) := fun e => by have := (hiff2.1 e).2; omega
                 have HN4 := Lib.hid (drop_at HO6.out HL2.out (⟨gg, (p) * 5, none⟩) (.inr rfl) (by omega))
                 clear hown2 hgrow2 hiff2 c0 c1 c2 c3 c4)
              | (at_builtin
                 refine wpList_append_own _ rfl (.tmp 48) (.tmp 51) 23 rfl (w'.heap.size) 43 i0 _ 5 40 Tryz.underlying23 hi hz0 hz1 hz2 rfl (by decide) v2 (out.take (p) ++ [(⟨lo, hi', du, ev, cr⟩ : Tk)]).length ((out.take (p) ++ [(⟨lo, hi', du, ev, cr⟩ : Tk)]).flatMap Tk.cells) rfl HX2.out ⟨gg, (p) * 5, none⟩ (i - (p)) _ ((out.drop (p)).flatMap Tk.cells) rfl PN.out HN4.out (cells_one _) pb1 pb2 (by omega) ?_
                 intro v3 w7 hown3 hgrow3 hiff3
                 have HX3 : Hid (Own w7 w.heap.size v3 (insB ⟨lo, hi', du, ev, cr⟩ out)) := own_last HL2.out hlast.out hszW hown3
                 have HB7 := Lib.hid (HB6.out.grown hgrow3 HB6.out.size (fun x e => by have := (World.ownsRow.lt HX2.out x e).1; omega))
                 have HNN3 : Hid (v3 ≠ .slice none 0 0) := fun e => HNN2.out (hiff3.1 e).1
                 clear hown3 hgrow3 hiff3))
            obtain ⟨g3, c3, hv3⟩ := own_form HX3.out HNN3.out
            have HV3 := Lib.hid hv3
            clear hv3
            go_roundw
            case rel => exact ⟨i + 1, by omega, by go_num, g3, c3, by rw [HV3.out, insB_len, ← HL2.out], by rw [HTK.out]; have hx := HX3.out; rw [HV3.out, insB_len, ← HL2.out] at hx; exact hx, HB7.out⟩
            case measure => simp [intOf]; omega
        obtain ⟨q, rfl⟩ : ∃ q, p = q + 1 := ⟨p - 1, by omega⟩
        clear hp0
        · obtain ⟨u, hu⟩ : ∃ u, out[q]? = some u := ⟨out[q]'(by rw [← HL2.out]; omega), List.getElem?_eq_getElem _⟩
          obtain ⟨b, o, eA, hbl, c0, c1, c2, c3, c4⟩ := HO.out.reads.2.at_ q u hu
          injection eA with eA
          injection eA with eA1 eA2
          subst eA1 eA2
          simp only [Nat.zero_add] at c0 c1 c2 c3 c4
          obtain ⟨d0, d1, d2, d3, d4⟩ := tk_at (H.out.below HB.out) HTI.out
          dsimp only at d0 d1 d2 d3 d4
          have hgr2 : b2 < wr.heap.size := by omega
          obtain ⟨lo2, hi2, du2, ev2, cr2⟩ := u
          dsimp only at c0 c1 c2 c3 c4
          have HU := Lib.hid hu
          clear hu
          have i1 : (0 : Int) ≤ (q : Int) := by omega
          have i2 : (q : Int) < (i : Int) := by omega
          have i3 : (0 : Int) < (q : Int) + 1 := by omega
          have k1 : IntKind.i64.wrap ((q : Int) + 1 - 1) = (q : Int) := by rw [show (q : Int) + 1 - 1 = q by omega]; exact IntWalk.i64_in _ (by omega)
          have k2 : IntKind.i64.wrap (q : Int) = (q : Int) := IntWalk.i64_in _ (by clear k1; omega)
          go_wp2
          go_region_held3 (fun W => (W.cell? ⟨b2, o2 + i * 5, none⟩ = some (.int .i64 lo) ∧ W.cell? ⟨b2, o2 + i * 5 + 1, none⟩ = some (.int .i64 hi') ∧ W.cell? ⟨b2, o2 + i * 5 + 2, none⟩ = some (.int .i64 du) ∧ W.cell? ⟨b2, o2 + i * 5 + 3, none⟩ = some (.int .i64 ev) ∧ W.cell? ⟨b2, o2 + i * 5 + 4, none⟩ = some (.bool cr)) ∧ W.cell? ⟨gg, q * 5, none⟩ = some (.int .i64 lo2) ∧ W.cell? ⟨gg, q * 5 + 1, none⟩ = some (.int .i64 hi2) ∧ W.cell? ⟨gg, q * 5 + 2, none⟩ = some (.int .i64 du2) ∧ W.cell? ⟨gg, q * 5 + 3, none⟩ = some (.int .i64 ev2) ∧ W.cell? ⟨gg, q * 5 + 4, none⟩ = some (.bool cr2)) (first | assumption | (simp [go_sem, *]; done))
            ((go_at_call 124; refine (sBefore_any lo hi' du ev cr lo2 hi2 du2 ev2 cr2 _).mono ?_; rintro e w' ⟨rfl, hb⟩; have c0' := (hb.cell (p := ⟨gg, q * 5, none⟩) hgr).trans c0; have c1' := (hb.cell (p := ⟨gg, q * 5 + 1, none⟩) hgr).trans c1; have c2' := (hb.cell (p := ⟨gg, q * 5 + 2, none⟩) hgr).trans c2; have c3' := (hb.cell (p := ⟨gg, q * 5 + 3, none⟩) hgr).trans c3; have c4' := (hb.cell (p := ⟨gg, q * 5 + 4, none⟩) hgr).trans c4; have d0' := (hb.cell (p := ⟨b2, o2 + i * 5, none⟩) hgr2).trans d0; have d1' := (hb.cell (p := ⟨b2, o2 + i * 5 + 1, none⟩) hgr2).trans d1; have d2' := (hb.cell (p := ⟨b2, o2 + i * 5 + 2, none⟩) hgr2).trans d2; have d3' := (hb.cell (p := ⟨b2, o2 + i * 5 + 3, none⟩) hgr2).trans d3; have d4' := (hb.cell (p := ⟨b2, o2 + i * 5 + 4, none⟩) hgr2).trans d4; have HBW : Hid (Below wr.heap.size wr w') := ⟨hb.os, hb.tape, hb.output, hb.size, hb.block⟩; clear hb))
          clear k1 k2 c0 c1 c2 c3 c4 d0 d1 d2 d3 d4 c0' c1' c2' c3' c4' d0' d1' d2' d3' d4'
          have HB' := Lib.hid (HB.out.trans (HBW.out.mono hszr))
          have HO' := Lib.hid (HO.out.below HBW.out)
          clear HB HO HBW
          have HB := HB'
          have HO := HO'
          clear HB' HO'
          cases hv : beforeB du ev du2 ev2
          · have hlast0 : Hid (posB ⟨lo, hi', du, ev, cr⟩ out i = q + 1) := by show _ = _; rw [← hpos.out]; exact posB_no HU.out hv
            have hlast : Hid (posB ⟨lo, hi', du, ev, cr⟩ out out.length = q + 1) := by show _ = _; rw [← HL2.out]; exact hlast0.out
            have HBW : Hid (Below w.heap.size w w') := by first | exact HB.out | exact bl_drewN HB.out _
            have HOW : Hid (Own w' w.heap.size (.slice (some ⟨gg, 0, none⟩) i cc) out) := HO.out
            have hszW : w.heap.size ≤ w'.heap.size := HBW.out.size
            have hgW : gg < w'.heap.size := (World.ownsRow.lt HOW.out gg rfl).2
            have nl1 : ((out.take (q + 1)).flatMap Tk.cells).length = (q + 1) * 5 := by rw [cells_length, List.length_take, ← HL2.out, show min (q + 1) i = q + 1 by omega]
            have nb1 : 0 + (q + 1) ≤ maxLen := by unfold maxLen; omega
            have nb2 : (0 + (q + 1)) * 40 ≤ 140737488355328 := by omega
            have HN1 : Hid (∀ (o : Obj) (j : Nat) (u : Value), ((out.take (q + 1)).flatMap Tk.cells)[j]? = some u → (w'.alloc o).cell? ((⟨gg, 0, none⟩ : Addr).add j) = some u) := fun o j u hu => by
              rw [← take_cells] at hu
              rw [List.getElem?_take] at hu
              split at hu
              · exact World.ownsRow.cells (World.ownsRow.alloc HOW.out o) (g := gg) rfl j u hu
              · cases hu
            have mb1 : (out.take (q + 1)).length + 1 ≤ maxLen := by rw [List.length_take]; unfold maxLen; omega
            have mb2 : ((out.take (q + 1)).length + 1) * 40 ≤ 140737488355328 := by rw [List.length_take]; omega
            have pl : (out.take (q + 1) ++ [(⟨lo, hi', du, ev, cr⟩ : Tk)]).length = (q + 1) + 1 := by rw [List.length_append, List.length_take, ← HL2.out]; simp <;> omega
            have pb1 : (out.take (q + 1) ++ [(⟨lo, hi', du, ev, cr⟩ : Tk)]).length + (i - (q + 1)) ≤ maxLen := by rw [pl]; unfold maxLen; omega
            have pb2 : ((out.take (q + 1) ++ [(⟨lo, hi', du, ev, cr⟩ : Tk)]).length + (i - (q + 1))) * 40 ≤ 140737488355328 := by rw [pl]; omega
            have pn : ((out.drop (q + 1)).flatMap Tk.cells).length = (i - (q + 1)) * 5 := by rw [cells_length, List.length_drop, ← HL2.out]
            have PL := Lib.hid pl
            have NL1 := Lib.hid nl1
            have PN := Lib.hid pn
            clear pl nl1 pn
            by_cases hcq : cc = (q + 1)
            · have hcq2 := hcq.symm
              clear hcq
              subst hcq2
              have HZ : Hid (i - (q + 1) = 0) := by show _ = _; omega
              have PZ : Hid (((out.drop (q + 1)).flatMap Tk.cells).length = 0 * 5) := by show _ = _; rw [PN.out, HZ.out]
              have pz1 : (out.take (q + 1) ++ [(⟨lo, hi', du, ev, cr⟩ : Tk)]).length + 0 ≤ maxLen := by omega
              have pz2 : ((out.take (q + 1) ++ [(⟨lo, hi', du, ev, cr⟩ : Tk)]).length + 0) * 40 ≤ 140737488355328 := by rw [HZ.out] at pb2; exact pb2
              go_wp2_with (first
                | (at_builtin
                   refine wpList_append_own _ rfl (.tmp 36) (.tmp 39) 23 rfl (w'.heap.size) 43 i0 _ 5 40 Tryz.underlying23 hi hz0 hz1 hz2 rfl (by decide) _ 0 [] rfl (Own.empty w') ⟨gg, 0, none⟩ (q + 1) (q + 1) ((out.take (q + 1)).flatMap Tk.cells) rfl NL1.out (HN1.out _) (cells_one _) nb1 nb2 (by simp) ?_
                   intro v1 w5 hown1 hgrow1 _
                   have hsz5 : w'.heap.size ≤ w5.heap.size := by have h := hgrow1.size; rw [World.size_alloc] at h; omega
                   have HX1 : Hid (Own w5 w'.heap.size v1 (out.take (q + 1))) := own_first (by rw [List.length_take, ← HL2.out]; omega) hown1
                   have HB5 := Lib.hid ((bl_alloc HBW.out (.cells #[] 43)).grown hgrow1 (by rw [World.size_alloc]; omega) (fun x e => by have e' : some w'.heap.size = some x := e; injection e' with e'; omega))
                   have HO5 : Hid (Own w5 w.heap.size (.slice (some ⟨gg, 0, none⟩) i (q + 1)) out) := Own.kept_dn (Own.alloc HOW.out (.cells #[] 43)) hgrow1 (M := w'.heap.size) (fun x e => by have e' : some gg = some x := e; injection e' with e'; omega) (fun x e => by have e' : some w'.heap.size = some x := e; injection e' with e'; omega)
                   clear hown1 hgrow1
                   obtain ⟨c0, c1, c2, c3, c4⟩ := tk_at (H.out.below HB5.out) HTI.out)
                | (at_builtin
                   refine wpList_append_own _ rfl (.tmp 41) (.tmp 46) 23 rfl (w'.heap.size) 43 i0 _ 5 40 Tryz.underlying23 hi hz0 hz1 hz2 rfl (by decide) v1 (out.take (q + 1)).length ((out.take (q + 1)).flatMap Tk.cells) rfl (World.ownsRow.alloc HX1.out _) ⟨w5.heap.size, 0, none⟩ 1 1 (Tk.cells ⟨lo, hi', du, ev, cr⟩) rfl rfl (cell_new5 _ ⟨lo, hi', du, ev, cr⟩ _) (by intro u hu; exact cells_one [⟨lo, hi', du, ev, cr⟩] u (by simpa using hu)) mb1 mb2 (by simp; omega) ?_
                   intro v2 w6 hown2 hgrow2 hiff2
                   have hsz6 : w'.heap.size ≤ w6.heap.size := by have h := hgrow2.size; rw [World.size_alloc] at h; omega
                   have HX2 := Lib.hid (Own.snoc hown2)
                   have HB6 := Lib.hid ((bl_alloc HB5.out _).grown hgrow2 (by rw [World.size_alloc]; omega) (fun x e => by have := (World.ownsRow.lt HX1.out x e).1; omega))
                   have HO6 : Hid (Own w6 w.heap.size (.slice (some ⟨gg, 0, none⟩) i (q + 1)) out) := Own.kept_dn (Own.alloc HO5.out _) hgrow2 (M := w'.heap.size) (fun x e => by have e' : some gg = some x := e; injection e' with e'; omega) (fun x e => (World.ownsRow.lt HX1.out x e).1)
                   have HNN2 : Hid (v2 ≠ .slice none 0 0) := fun e => by have := (hiff2.1 e).2; omega
                   have HN4 := Lib.hid (drop_at HO6.out HL2.out (⟨gg, 0, none⟩) (.inl rfl) (by omega))
                   clear hown2 hgrow2 hiff2 c0 c1 c2 c3 c4)
                | (at_builtin
                   refine wpList_append_own _ rfl (.tmp 48) (.tmp 51) 23 rfl (w'.heap.size) 43 i0 _ 5 40 Tryz.underlying23 hi hz0 hz1 hz2 rfl (by decide) v2 (out.take (q + 1) ++ [(⟨lo, hi', du, ev, cr⟩ : Tk)]).length ((out.take (q + 1) ++ [(⟨lo, hi', du, ev, cr⟩ : Tk)]).flatMap Tk.cells) rfl HX2.out ⟨gg, 0, none⟩ 0 _ ((out.drop (q + 1)).flatMap Tk.cells) rfl PZ.out HN4.out (cells_one _) pz1 pz2 (by omega) ?_
                   intro v3 w7 hown3 hgrow3 hiff3
                   have HX3 : Hid (Own w7 w.heap.size v3 (insB ⟨lo, hi', du, ev, cr⟩ out)) := own_last HL2.out hlast.out hszW (by rw [HZ.out]; exact hown3)
                   have HB7 := Lib.hid (HB6.out.grown hgrow3 HB6.out.size (fun x e => by have := (World.ownsRow.lt HX2.out x e).1; omega))
                   have HNN3 : Hid (v3 ≠ .slice none 0 0) := fun e => HNN2.out (hiff3.1 e).1
                   clear hown3 hgrow3 hiff3))
              obtain ⟨g3, c3, hv3⟩ := own_form HX3.out HNN3.out
              have HV3 := Lib.hid hv3
              clear hv3
              go_roundw
              case rel => exact ⟨i + 1, by omega, by go_num, g3, c3, by rw [HV3.out, insB_len, ← HL2.out], by rw [HTK.out]; have hx := HX3.out; rw [HV3.out, insB_len, ← HL2.out] at hx; exact hx, HB7.out⟩
              case measure => simp [intOf]; omega
            · have HCQ := Lib.hid hcq
              go_wp2_with (first
                | (at_builtin
                   refine wpList_append_own _ rfl (.tmp 36) (.tmp 39) 23 rfl (w'.heap.size) 43 i0 _ 5 40 Tryz.underlying23 hi hz0 hz1 hz2 rfl (by decide) _ 0 [] rfl (Own.empty w') ⟨gg, 0, none⟩ (q + 1) cc ((out.take (q + 1)).flatMap Tk.cells) rfl NL1.out (HN1.out _) (cells_one _) nb1 nb2 (by simp) ?_
                   intro v1 w5 hown1 hgrow1 _
                   have hsz5 : w'.heap.size ≤ w5.heap.size := by have h := hgrow1.size; rw [World.size_alloc] at h; omega
                   have HX1 : Hid (Own w5 w'.heap.size v1 (out.take (q + 1))) := own_first (by rw [List.length_take, ← HL2.out]; omega) hown1
                   have HB5 := Lib.hid ((bl_alloc HBW.out (.cells #[] 43)).grown hgrow1 (by rw [World.size_alloc]; omega) (fun x e => by have e' : some w'.heap.size = some x := e; injection e' with e'; omega))
                   have HO5 : Hid (Own w5 w.heap.size (.slice (some ⟨gg, 0, none⟩) i cc) out) := Own.kept_dn (Own.alloc HOW.out (.cells #[] 43)) hgrow1 (M := w'.heap.size) (fun x e => by have e' : some gg = some x := e; injection e' with e'; omega) (fun x e => by have e' : some w'.heap.size = some x := e; injection e' with e'; omega)
                   clear hown1 hgrow1
                   obtain ⟨c0, c1, c2, c3, c4⟩ := tk_at (H.out.below HB5.out) HTI.out)
                | (at_builtin
                   refine wpList_append_own _ rfl (.tmp 41) (.tmp 46) 23 rfl (w'.heap.size) 43 i0 _ 5 40 Tryz.underlying23 hi hz0 hz1 hz2 rfl (by decide) v1 (out.take (q + 1)).length ((out.take (q + 1)).flatMap Tk.cells) rfl (World.ownsRow.alloc HX1.out _) ⟨w5.heap.size, 0, none⟩ 1 1 (Tk.cells ⟨lo, hi', du, ev, cr⟩) rfl rfl (cell_new5 _ ⟨lo, hi', du, ev, cr⟩ _) (by intro u hu; exact cells_one [⟨lo, hi', du, ev, cr⟩] u (by simpa using hu)) mb1 mb2 (by simp; omega) ?_
                   intro v2 w6 hown2 hgrow2 hiff2
                   have hsz6 : w'.heap.size ≤ w6.heap.size := by have h := hgrow2.size; rw [World.size_alloc] at h; omega
                   have HX2 := Lib.hid (Own.snoc hown2)
                   have HB6 := Lib.hid ((bl_alloc HB5.out _).grown hgrow2 (by rw [World.size_alloc]; omega) (fun x e => by have := (World.ownsRow.lt HX1.out x e).1; omega))
                   have HO6 : Hid (Own w6 w.heap.size (.slice (some ⟨gg, 0, none⟩) i cc) out) := Own.kept_dn (Own.alloc HO5.out _) hgrow2 (M := w'.heap.size) (fun x e => by have e' : some gg = some x := e; injection e' with e'; omega) (fun x e => (World.ownsRow.lt HX1.out x e).1)
                   have HNN2 : Hid (v2 ≠ .slice none 0 0) := fun e => by have := (hiff2.1 e).2; omega
                   have HN4 := Lib.hid (drop_at HO6.out HL2.out (⟨gg, (q + 1) * 5, none⟩) (.inr rfl) (by omega))
                   clear hown2 hgrow2 hiff2 c0 c1 c2 c3 c4)
                | (at_builtin
                   refine wpList_append_own _ rfl (.tmp 48) (.tmp 51) 23 rfl (w'.heap.size) 43 i0 _ 5 40 Tryz.underlying23 hi hz0 hz1 hz2 rfl (by decide) v2 (out.take (q + 1) ++ [(⟨lo, hi', du, ev, cr⟩ : Tk)]).length ((out.take (q + 1) ++ [(⟨lo, hi', du, ev, cr⟩ : Tk)]).flatMap Tk.cells) rfl HX2.out ⟨gg, (q + 1) * 5, none⟩ (i - (q + 1)) _ ((out.drop (q + 1)).flatMap Tk.cells) rfl PN.out HN4.out (cells_one _) pb1 pb2 (by omega) ?_
                   intro v3 w7 hown3 hgrow3 hiff3
                   have HX3 : Hid (Own w7 w.heap.size v3 (insB ⟨lo, hi', du, ev, cr⟩ out)) := own_last HL2.out hlast.out hszW hown3
                   have HB7 := Lib.hid (HB6.out.grown hgrow3 HB6.out.size (fun x e => by have := (World.ownsRow.lt HX2.out x e).1; omega))
                   have HNN3 : Hid (v3 ≠ .slice none 0 0) := fun e => HNN2.out (hiff3.1 e).1
                   clear hown3 hgrow3 hiff3))
              obtain ⟨g3, c3, hv3⟩ := own_form HX3.out HNN3.out
              have HV3 := Lib.hid hv3
              clear hv3
              go_roundw
              case rel => exact ⟨i + 1, by omega, by go_num, g3, c3, by rw [HV3.out, insB_len, ← HL2.out], by rw [HTK.out]; have hx := HX3.out; rw [HV3.out, insB_len, ← HL2.out] at hx; exact hx, HB7.out⟩
              case measure => simp [intOf]; omega
          · have hpos2 : Hid (posB ⟨lo, hi', du, ev, cr⟩ out q = posB ⟨lo, hi', du, ev, cr⟩ out i) := by show _ = _; rw [← hpos.out]; exact (posB_yes (t := ⟨lo, hi', du, ev, cr⟩) HU.out hv).symm
            go_wp2
            go_roundw
            case rel => exact ⟨q, by omega, rfl, hpos2, HB.out, HO.out⟩
            case measure => simp [intOf] <;> omega
    · obtain rfl : i = n := by omega
      go_wp2
      go_ret
      exact lsRes_of HO0.out HB0.out (by rw [List.take_of_length_le (by rw [HL.out]; omega)]; simp [sortOf, HS.out])
end
section
open Go.RowKit
set_option linter.unusedVariables false
theorem sortOf_le (ts : List Tk) : (sortOf ts).length ≤ ts.length := by
  unfold sortOf
  split
  · rw [sortL_len]; exact Nat.le_refl _
  · simp
end
section
open Go.RowKit
/-- A slice that reads as the integers zs. -/
structure Ints (w : World) (B : Nat) (A : Option Addr) (n : Nat) (zs : List Nat) : Prop where
  len : zs.length = n
  at_ : ∀ (i z : Nat), zs[i]? = some z → ∃ b o, A = some ⟨b, o, none⟩ ∧ b < B ∧ w.cell? ⟨b, o + i, none⟩ = some (.int .i64 (z : Int))
theorem Ints.below {w w' : World} {B : Nat} {A : Option Addr} {n : Nat} {zs : List Nat} (h : Ints w B A n zs) (hb : Below B w w') : Ints w' B A n zs :=
  ⟨h.len, fun i z hz => by
    obtain ⟨b, o, e, hbB, hc⟩ := h.at_ i z hz
    exact ⟨b, o, e, hbB, (hb.cell (p := ⟨b, o + i, none⟩) hbB).trans hc⟩⟩
theorem info_int : (Tryz.prog.info? 3).map (fun i => (i.zero, i.size, i.bytes)) = some (some (.int .i64 0), 1, 8) := by kernel_rfl
def OwnI (w : World) (B : Nat) (v : Value) (zs : List Nat) : Prop := w.ownsRow B 3 1 v zs.length (zs.map fun z : Nat => Value.int .i64 (z : Int))
theorem OwnI.form {w : World} {B : Nat} {v : Value} {zs : List Nat} (h : OwnI w B v zs) : ∃ A c, v = .slice A zs.length c := by
  rcases h.2 with ⟨e, h0⟩ | ⟨g, cap, cur, e, _⟩
  · exact ⟨none, 0, by rw [e, h0]⟩
  · exact ⟨_, cap, e⟩
theorem OwnI.reads {w : World} {B : Nat} {A : Option Addr} {c : Nat} {zs : List Nat} (h : OwnI w B (.slice A zs.length c) zs) : Ints w w.heap.size A zs.length zs := by
  refine ⟨rfl, fun i z hz => ?_⟩
  have hi : i < zs.length := (List.getElem?_eq_some_iff.1 hz).1
  rcases h.2 with ⟨e, h0⟩ | ⟨g, cap, cur, e, _, hg, _⟩
  · omega
  · injection e with e1 e2 e3
    subst e1
    have hlt : g < w.heap.size := by
      rcases Nat.lt_or_ge g w.heap.size with hlt | hge
      · exact hlt
      · rw [Array.getElem?_eq_none hge] at hg; cases hg
    have := h.cells (g := g) rfl i (.int .i64 (z : Int)) (by rw [List.getElem?_map, hz]; rfl)
    have ea : (⟨g, 0, none⟩ : Addr).add i = ⟨g, i, none⟩ := by unfold Addr.add; split <;> simp_all
    rw [ea] at this
    exact ⟨g, 0, rfl, hlt, by rw [Nat.zero_add]; exact this⟩
theorem OwnI.snoc {w : World} {B : Nat} {v : Value} {zs : List Nat} {z : Nat} (h : w.ownsRow B 3 1 v (zs.length + 1) (zs.map (fun z : Nat => Value.int .i64 (z : Int)) ++ [.int .i64 (z : Int)])) : OwnI w B v (zs ++ [z]) := by
  unfold OwnI
  rw [List.map_append, List.length_append]
  simpa using h
end
section
open Go.RowKit
theorem Tks.take {w : World} {B : Nat} {A : Option Addr} {n k : Nat} {ts : List Tk} (h : Tks w B A n ts) (hk : k ≤ n) : Tks w B A k (ts.take k) :=
  ⟨by rw [List.length_take, h.len]; omega, fun i t ht => h.at_ i t (by
    rw [List.getElem?_take] at ht
    split at ht
    · exact ht
    · cases ht)⟩
theorem Tks.drop {w : World} {B b o : Nat} {n k m : Nat} {ts : List Tk} (h : Tks w B (some ⟨b, o, none⟩) n ts) (hm : m = o + k * 5) : Tks w B (some ⟨b, m, none⟩) (n - k) (ts.drop k) :=
  ⟨by rw [List.length_drop, h.len], fun i t ht => by
    rw [List.getElem?_drop] at ht
    obtain ⟨b', o', e, hb, hc⟩ := h.at_ _ _ ht
    injection e with e
    injection e with e1 e2
    subst e1 e2 hm
    refine ⟨b, _, rfl, hb, ?_⟩
    rw [show o + k * 5 + i * 5 = o + (k + i) * 5 by omega]
    exact hc⟩
end
section
open Go.RowKit
set_option linter.unusedVariables false
/-- The slice (A, n) reads as the numbers zs; it lies below block B. -/
structure Zs (w : World) (B : Nat) (A : Option Addr) (n : Nat) (zs : List Int) : Prop where
  len : zs.length = n
  at_ : ∀ i z, zs[i]? = some z → ∃ b o, A = some ⟨b, o, none⟩ ∧ b < B ∧ w.cell? ⟨b, o + i, none⟩ = some (.int .i64 z)
theorem Zs.below {w w' : World} {B : Nat} {A : Option Addr} {n : Nat} {zs : List Int} (h : Zs w B A n zs) (hb : Below B w w') : Zs w' B A n zs :=
  ⟨h.len, fun i z hz => by
    obtain ⟨b, o, e, hbB, hc⟩ := h.at_ i z hz
    exact ⟨b, o, e, hbB, (hb.cell (p := ⟨b, o + i, none⟩) hbB).trans hc⟩⟩
theorem Zs.more {w : World} {B B' : Nat} {A : Option Addr} {n : Nat} {zs : List Int} (h : Zs w B A n zs) (hB : B ≤ B') : Zs w B' A n zs :=
  ⟨h.len, fun i z hz => by
    obtain ⟨b, o, e, hbB, hc⟩ := h.at_ i z hz
    exact ⟨b, o, e, by omega, hc⟩⟩
theorem Zs.get {w : World} {B b o n : Nat} {zs : List Int} (h : Zs w B (some ⟨b, o, none⟩) n zs) {i : Nat} {z : Int} (hz : zs[i]? = some z) : b < B ∧ w.cell? ⟨b, o + i, none⟩ = some (.int .i64 z) := by
  obtain ⟨b', o', e, hb, hc⟩ := h.at_ i z hz
  injection e with e
  injection e with e1 e2
  subst e1 e2
  exact ⟨hb, hc⟩
theorem Zs.take {w : World} {B : Nat} {A : Option Addr} {n k : Nat} {zs : List Int} (h : Zs w B A n zs) (hk : k ≤ n) : Zs w B A k (zs.take k) :=
  ⟨by rw [List.length_take, h.len]; omega, fun i t ht => h.at_ i t (by
    rw [List.getElem?_take] at ht
    split at ht
    · exact ht
    · cases ht)⟩
theorem Zs.drop {w : World} {B b o : Nat} {n k m : Nat} {zs : List Int} (h : Zs w B (some ⟨b, o, none⟩) n zs) (hm : m = o + k) : Zs w B (some ⟨b, m, none⟩) (n - k) (zs.drop k) :=
  ⟨by rw [List.length_drop, h.len], fun i t ht => by
    rw [List.getElem?_drop] at ht
    obtain ⟨hb, hc⟩ := h.get ht
    subst hm
    exact ⟨b, _, rfl, hb, by rw [Nat.add_assoc]; exact hc⟩⟩
/-- The slice value v is the call's own and holds the numbers zs. -/
def OwnZ (w : World) (B : Nat) (v : Value) (zs : List Int) : Prop := w.ownsRow B 3 1 v zs.length (zs.map (Value.int .i64))
theorem OwnZ.form {w : World} {B : Nat} {v : Value} {zs : List Int} (h : OwnZ w B v zs) : ∃ A c, v = .slice A zs.length c := by
  rcases h.2 with ⟨e, h0⟩ | ⟨g, cap, cur, e, _⟩
  · exact ⟨none, 0, by rw [e, h0]⟩
  · exact ⟨_, cap, e⟩
theorem OwnZ.reads {w : World} {B : Nat} {A : Option Addr} {c : Nat} {zs : List Int} (h : OwnZ w B (.slice A zs.length c) zs) : Zs w w.heap.size A zs.length zs := by
  refine ⟨rfl, fun i z hz => ?_⟩
  have hi : i < zs.length := (List.getElem?_eq_some_iff.1 hz).1
  rcases h.2 with ⟨e, h0⟩ | ⟨g, cap, cur, e, _, hg, _⟩
  · omega
  · injection e with e1 e2 e3
    subst e1
    have hlt : g < w.heap.size := by
      rcases Nat.lt_or_ge g w.heap.size with hlt | hge
      · exact hlt
      · rw [Array.getElem?_eq_none hge] at hg; cases hg
    have := h.cells (g := g) rfl i (.int .i64 z) (by rw [List.getElem?_map, hz]; rfl)
    have ea : (⟨g, 0, none⟩ : Addr).add i = ⟨g, i, none⟩ := by unfold Addr.add; split <;> simp_all
    rw [ea] at this
    exact ⟨g, 0, rfl, hlt, by rw [Nat.zero_add]; exact this⟩
theorem OwnZ.le {w : World} {B c : Nat} {A : Option Addr} {zs : List Int} (h : OwnZ w B (.slice A zs.length c) zs) : zs.length ≤ c := by
  rcases h.2 with ⟨e, h0⟩ | ⟨g, cap, cur, e, _, _, h1, h2, _⟩
  · omega
  · injection e with e1 e2 e3
    subst e3
    exact h1
theorem OwnZ.snoc {w : World} {B : Nat} {v : Value} {zs : List Int} {z : Int} (h : w.ownsRow B 3 1 v (zs.length + 1) (zs.map (Value.int .i64) ++ [.int .i64 z])) : OwnZ w B v (zs ++ [z]) := by
  unfold OwnZ
  rw [List.map_append, List.length_append]
  simpa using h
theorem OwnZ.empty (w : World) : OwnZ (w.alloc (.cells #[] 3)) w.heap.size (.slice (some ⟨w.heap.size, 0, none⟩) 0 0) [] :=
  ⟨rfl, .inr ⟨w.heap.size, 0, #[], rfl, Nat.le_refl _, heap_alloc_new w _, Nat.le_refl _, Nat.zero_le _, rfl, rfl⟩⟩
theorem OwnZ.alloc {w : World} {B : Nat} {v : Value} {zs : List Int} (h : OwnZ w B v zs) (o : Obj) : OwnZ (w.alloc o) B v zs := World.ownsRow.alloc h o
theorem OwnZ.below {w w' : World} {B : Nat} {v : Value} {zs : List Int} (h : OwnZ w B v zs) (hb : Below w.heap.size w w') : OwnZ w' B v zs := by
  refine ⟨h.1, ?_⟩
  rcases h.2 with hn | ⟨g, cap, cur, e, h1, hg, h3⟩
  · exact .inl hn
  · refine .inr ⟨g, cap, cur, e, h1, ?_, h3⟩
    have hlt : g < w.heap.size := by
      rcases Nat.lt_or_ge g w.heap.size with hlt | hge
      · exact hlt
      · rw [Array.getElem?_eq_none hge] at hg; cases hg
    exact (hb.block g hlt).trans hg
theorem OwnZ.less {w : World} {B B' : Nat} {v : Value} {zs : List Int} (h : OwnZ w B v zs) (hB : B' ≤ B) : OwnZ w B' v zs := by
  refine ⟨h.1, ?_⟩
  rcases h.2 with hn | ⟨g, cap, cur, e, h1, h3⟩
  · exact .inl hn
  · exact .inr ⟨g, cap, cur, e, by omega, h3⟩
theorem OwnZ.kept {w w' : World} {B : Nat} {v : Value} {zs : List Int} {row : Option Nat} (h : OwnZ w B v zs) (hg : w.grownBy w' row) (hr : ∀ k, row = some k → k < B) : OwnZ w' B v zs := by
  refine World.ownsRow.kept h hg ?_
  rcases he : v.ownBlock with _ | k
  · exact .inl rfl
  · right
    intro e
    have := (World.ownsRow.lt h k he).1
    have := hr k e.symm
    omega
/-- A list of numbers as the result, and whether there is one. -/
def ZsRes (zs : List Int) (w : World) (e : Ending) (w' : World) : Prop :=
  ∃ (A : Option Addr) (c : Nat), e = .returned (.slice A zs.length c) ∧ OwnZ w' w.heap.size (.slice A zs.length c) zs ∧ Below w.heap.size w w'
def ZsRes2 (zs : List Int) (b : Bool) (w : World) (e : Ending) (w' : World) : Prop :=
  ∃ (A : Option Addr) (c : Nat), e = .returned (.tuple #[.slice A zs.length c, .bool b]) ∧ OwnZ w' w.heap.size (.slice A zs.length c) zs ∧ Below w.heap.size w w'
def LsRes2 (ts : List Tk) (b : Bool) (w : World) (e : Ending) (w' : World) : Prop :=
  ∃ (A : Option Addr) (c : Nat), e = .returned (.tuple #[.slice A ts.length c, .bool b]) ∧ Own w' w.heap.size (.slice A ts.length c) ts ∧ Below w.heap.size w w'
def toZ (o : List Nat) : List Int := o.map Int.ofNat
theorem toZ_len (o : List Nat) : (toZ o).length = o.length := by simp [toZ]
end
section
open Go.RowKit
theorem Own.frozen {w : World} {B g n c : Nat} {ts : List Tk} (h : Own w B (.slice (some ⟨g, 0, none⟩) n c) ts) : ∀ i, w.frozen? ⟨g, i, none⟩ = false := by
  have hn := h.reads.1
  subst hn
  exact World.ownsRow.frozenAt h
end
section
open Go.RowKit
theorem set_due (ts : List Tk) : ∀ (k : Nat) (t : Tk) (z : Int), ts[k]? = some t →
    (ts.flatMap Tk.cells).set (k * 5 + 2) (.int .i64 z) = (ts.set k { t with du := z }).flatMap Tk.cells := by
  induction ts with
  | nil => intro k t z h; simp at h
  | cons a ts ih =>
    intro k t z h
    cases k with
    | zero =>
      simp at h
      subst h
      simp [List.flatMap_cons, Tk.cells]
    | succ k =>
      have e0 : (k + 1) * 5 + 2 = k * 5 + 2 + 5 := by omega
      simp only [List.flatMap_cons, Tk.cells, List.set_cons_succ, e0, List.cons_append, List.nil_append]
      rw [← ih k t z (by simpa using h)]
theorem Own.due {w : World} {B h n c : Nat} {ts : List Tk} (ho : Own w B (.slice (some ⟨h, 0, none⟩) n c) ts) (k : Nat) (t : Tk) (z : Int) (ht : ts[k]? = some t) :
    Own (w.setCell ⟨h, k * 5 + 2, none⟩ (.int .i64 z)) B (.slice (some ⟨h, 0, none⟩) n c) (ts.set k { t with du := z }) := by
  have hn := ho.reads.1
  subst hn
  have h5 := (World.ownsRow.stored ho (k * 5 + 2) (.int .i64 z)).1
  unfold Own
  rw [List.length_set, ← set_due ts k t z ht]
  exact h5
end
section
open Go.RowKit
set_option linter.unusedVariables false
theorem OwnZ.put {w : World} {B g n c : Nat} {zs : List Int} (h : OwnZ w B (.slice (some ⟨g, 0, none⟩) n c) zs) (k : Nat) (z : Int) : OwnZ (w.setCell ⟨g, k, none⟩ (.int .i64 z)) B (.slice (some ⟨g, 0, none⟩) n c) (zs.set k z) := by
  unfold OwnZ
  rw [List.length_set, List.map_set]
  refine ⟨by rw [List.length_set]; exact h.1, ?_⟩
  rcases h.2 with ⟨e, h0⟩ | ⟨g', cap, cur, e, hb, hg, h1, h2, h3, h4⟩
  · cases e
  · injection e with e1 e2 e3
    injection e1 with e1
    injection e1 with e1
    subst e1
    refine .inr ⟨g, cap, cur.setIfInBounds k (.int .i64 z), by rw [e2, e3], hb, ?_, h1, h2, by rw [Array.size_setIfInBounds]; exact h3, ?_⟩
    · simp [World.setCell, Array.getElem?_modify, hg]
    · rw [Array.toList_setIfInBounds, ← h4, List.take_set]
theorem OwnZ.frozen {w : World} {B g n c : Nat} {zs : List Int} (h : OwnZ w B (.slice (some ⟨g, 0, none⟩) n c) zs) : ∀ i, w.frozen? ⟨g, i, none⟩ = false := by
  have hn : n = zs.length := by
    rcases h.2 with ⟨e, h0⟩ | ⟨g', cap, cur, e, _⟩
    · cases e
    · injection e
  subst hn
  exact World.ownsRow.frozenAt h
theorem OwnZ.lt {w : World} {B g n c : Nat} {zs : List Int} (h : OwnZ w B (.slice (some ⟨g, 0, none⟩) n c) zs) : B ≤ g ∧ g < w.heap.size := World.ownsRow.lt h g rfl
end
end Go.Proofs.YtgponahmkjohiabGreatDoor
