/- Texts of this seat in one file: Rd, Num, Lit, Base, Draw, Task, Kit, OpenB, Open, ToTask, Set, List, Own, Some, ExList, Same, ExMark, MarkOwn, Resp, Crit, RespT, Hyper, Least, RespU, Dem, Two0, RLow, SRLow, Draws, LawCrit, RHigh, LwK, RespS, Swi, SSwi, Hold, Insert, Sort, Sort2, Dr3. -/
import Derived.Test.YtgoblabcggbfjaaProg
import Derived.WalkKit
import Derived.WalkSpells
import Derived.WalkLawsBesides
import Derived.Lib.Hide
import Derived.Deep.QuietTactic
import Derived.Deep.Draws
import Derived.BigQuiet
import Derived.IntWalk
import Derived.Maps.AppendAt
import Derived.Deep.AppendLies
import Derived.Deep.RegionHeld3
import Derived.Deep.RegionLaw
import Derived.LoopTactic
import Derived.ScopeJumps
import Derived.WalkMore
import Derived.Shelf.Abstract
import Derived.RegionTactic
import Derived.Laws.CopyRow
import Derived.Laws.Externs
import Derived.Lib.Overlaps
import Derived.Laws.AppendOwnNone
namespace Go.Proofs.Ytgoblabcggbfjaa

section
/- Contracts of the reader of random bytes in the reference: pick(n) returns a number from 0 to n-1 and moves the reader on by one; nothing else that was there is written. -/
open Go.RowKit

/-- Block g is a reader over n bytes f 0, f 1, .. at p. -/
structure Rd (w : World) (B g : Nat) (A : Option Addr) (n c : Nat) (f : Nat → Int) (p : Nat) : Prop where
  blk : w.heap[g]? = some (.cells #[.slice A n c, .int .i64 p] 85 (0, 0))
  ge : B ≤ g
  len : n ≤ 2000
  at_ : ∀ i, i < n → ∃ b o, A = some ⟨b, o, none⟩ ∧ b < B ∧ w.cell? ⟨b, o + i, none⟩ = some (.int .u8 (f i))
  byte : ∀ i, 0 ≤ f i ∧ f i < 256

/-- What pick leaves: a number below m (0 if m is less than 1), the reader one on. -/
def Picked (B g : Nat) (A : Option Addr) (n c : Nat) (f : Nat → Int) (p : Nat) (m : Int) (w : World) (e : Ending) (w' : World) : Prop :=
  ∃ v : Int, e = .returned (.int .i64 v) ∧ 0 ≤ v ∧ (1 ≤ m → v < m) ∧ (m < 1 → v = 0) ∧ Rd w' B g A n c f (p + 1) ∧ w.grownBy w' (some g)

theorem i64_xor_nat (a b : Nat) (ha : a < 9223372036854775808) (hb : b < 9223372036854775808) : bits .xor .i64 (a : Int) (b : Int) = ((a ^^^ b : Nat) : Int) := by
  have hx : a ^^^ b < 2 ^ 63 := Nat.xor_lt_two_pow (by omega) (by omega)
  have e (x : Nat) (h : x < 9223372036854775808) : (BitVec.ofInt 64 (x : Int)).toNat = x := by
    rw [BitVec.ofInt_natCast, BitVec.toNat_ofNat]; exact Nat.mod_eq_of_lt (by omega)
  show IntKind.i64.wrap ((BitVec.ofInt 64 (a : Int) ^^^ BitVec.ofInt 64 (b : Int)).toNat : Int) = _
  rw [BitVec.toNat_xor, e a ha, e b hb, IntKind.wrap_i64]
  omega

theorem xor_nonneg (x : Int) (h : 0 ≤ x) (h' : x < 9223372036854775808) : 0 ≤ bits .xor .i64 x (x / 64) := by
  obtain ⟨k, rfl⟩ := Int.eq_ofNat_of_zero_le h
  have e : ((k : Int) / 64) = ((k / 64 : Nat) : Int) := by omega
  rw [e, i64_xor_nat k (k / 64) (by omega) (by omega)]
  omega

theorem rd_moved {w : World} {B g : Nat} {A : Option Addr} {n c : Nat} {f : Nat → Int} {p : Nat} (h : Rd w B g A n c f p) (k : Nat) (q : Int) (hq : q = ((p + 1 : Nat) : Int)) :
    Rd ((w.setCell ⟨g, 1, none⟩ (.int .i64 q)).drewN k) B g A n c f (p + 1) ∧ w.grownBy ((w.setCell ⟨g, 1, none⟩ (.int .i64 q)).drewN k) (some g) := by
  subst hq
  refine ⟨⟨?_, h.ge, h.len, fun i hi => ?_, h.byte⟩, ⟨rfl, rfl, rfl, by simp [World.setCell], fun k hk hne => ?_⟩⟩
  · show ((w.setCell ⟨g, 1, none⟩ (.int .i64 ((p + 1 : Nat) : Int)))).heap[g]? = _
    simp [World.setCell, Array.getElem?_modify, h.blk]
  · obtain ⟨b, o, rfl, hb, hc⟩ := h.at_ i hi
    refine ⟨b, o, rfl, hb, ?_⟩
    show ((w.setCell ⟨g, 1, none⟩ (.int .i64 ((p + 1 : Nat) : Int)))).cell? ⟨b, o + i, none⟩ = _
    rw [World.cell?_setCell_other w _ _ _ (fun e => by injection e with e1; have := h.ge; omega)]
    exact hc
  · exact Below.heap_setCell _ _ _ _ (fun e => hne (by rw [e]))

set_option maxHeartbeats 1000000 in
theorem pick_any (w : World) (B g : Nat) (A : Option Addr) (n c : Nat) (f : Nat → Int) (p : Nat) (m : Int) (hr : Rd w B g A n c f p) (hp : p ≤ 1000000) (hm : m ≤ 1000000) :
    Calls Try.prog 89 #[.pointer (some ⟨g, 0, none⟩), .int .i64 m] w (Picked B g A n c f p m w) := by
  have hc0 : w.cell? ⟨g, 0, none⟩ = some (.slice A n c) := by rw [cell_of_row w g 0 _ _ _ hr.blk]; rfl
  have hc1 : w.cell? ⟨g, 1, none⟩ = some (.int .i64 p) := by rw [cell_of_row w g 1 _ _ _ hr.blk]; rfl
  have hf1 : w.frozen? ⟨g, 1, none⟩ = false := frozen_of_row w g 1 _ _ hr.blk
  have HR := Lib.hid hr
  clear hr
  by_cases h1 : m < 1
  · go_enter Try.func89, Try.ntmps89
    go_wp2
    go_ret
    have h := rd_moved HR.out 0 _ rfl
    exact ⟨0, rfl, by omega, fun h => by omega, fun _ => rfl, h.1, h.2⟩
  by_cases h0 : n = 0
  · subst h0
    go_enter Try.func89, Try.ntmps89
    go_wp2
    go_ret
    have h := rd_moved HR.out 0 _ rfl
    exact ⟨0, rfl, by omega, fun h => by omega, fun _ => rfl, h.1, h.2⟩
  have hn : n ≤ 2000 := HR.out.len
  have hn0 : ((n : Int) == 0) = false := by simp; omega
  have hn1 : 0 < n := by omega
  have hne : ¬ (n : Int) = 0 := by omega
  have hm1 : 1 ≤ m := by omega
  clear h0 h1
  by_cases h2 : p < n
  · obtain ⟨b, o, rfl, hb, hc⟩ := HR.out.at_ p h2
    have hge := HR.out.ge
    have hb1 := (HR.out.byte p).1
    have hb2 := (HR.out.byte p).2
    generalize hu : f p = u at hc hb1 hb2
    have HU := Lib.hid hu
    clear hu
    have hcs : ∀ q : Int, (w.setCell ⟨g, 1, none⟩ (.int .i64 q)).cell? ⟨b, o + p, none⟩ = some (.int .u8 u) := fun q => by
      rw [World.cell?_setCell_other w _ _ _ (fun e => by injection e with e1; omega)]; exact hc
    go_enter Try.func89, Try.ntmps89
    go_wp2
    go_ret
    have h := rd_moved HR.out 0 _ rfl
    exact ⟨_, rfl, Int.emod_nonneg _ (by omega), fun _ => Int.emod_lt_of_pos _ (by omega), fun h => by omega, h.1, h.2⟩
  · have i1 : p % n < n := Nat.mod_lt _ hn1
    have i2 : (p * 7 + 3) % n < n := Nat.mod_lt _ hn1
    obtain ⟨b, o, rfl, hb, hc⟩ := HR.out.at_ (p % n) i1
    obtain ⟨b', o', e', _, hc'⟩ := HR.out.at_ ((p * 7 + 3) % n) i2
    injection e' with e'
    injection e' with e1 e2
    subst e1 e2
    have hge := HR.out.ge
    have hb1 := (HR.out.byte (p % n)).1
    have hb2 := (HR.out.byte (p % n)).2
    have hb3 := (HR.out.byte ((p * 7 + 3) % n)).1
    have hb4 := (HR.out.byte ((p * 7 + 3) % n)).2
    generalize f (p % n) = u at hc hb1 hb2
    generalize f ((p * 7 + 3) % n) = u' at hc' hb3 hb4
    have hcs : ∀ q : Int, (w.setCell ⟨g, 1, none⟩ (.int .i64 q)).cell? ⟨b, o + p % n, none⟩ = some (.int .u8 u) := fun q => by
      rw [World.cell?_setCell_other w _ _ _ (fun e => by injection e with e1; omega)]; exact hc
    have hcs' : ∀ q : Int, (w.setCell ⟨g, 1, none⟩ (.int .i64 q)).cell? ⟨b, o + (p * 7 + 3) % n, none⟩ = some (.int .u8 u') := fun q => by
      rw [World.cell?_setCell_other w _ _ _ (fun e => by injection e with e1; omega)]; exact hc'
    have hnp : (0 : Int) < (n : Int) := by omega
    have j1 : (0 : Int) ≤ (p : Int) % (n : Int) := Int.emod_nonneg _ (by omega)
    have j2 : (p : Int) % (n : Int) < (n : Int) := Int.emod_lt_of_pos _ hnp
    have j3 : (0 : Int) ≤ ((p : Int) * 7 + 3) % (n : Int) := Int.emod_nonneg _ (by omega)
    have j4 : ((p : Int) * 7 + 3) % (n : Int) < (n : Int) := Int.emod_lt_of_pos _ hnp
    have j5 : (0 : Int) ≤ (p : Int) / (n : Int) := Int.ediv_nonneg (by omega) (by omega)
    have j6 : (p : Int) / (n : Int) ≤ (p : Int) := Int.ediv_le_self _ (by omega)
    clear hc hc'
    go_enter Try.func89, Try.ntmps89
    go_wp2
    go_quiet (fail)
    go_wp2
    go_ret
    have h := rd_moved HR.out nq _ rfl
    have hx := xor_nonneg (u * 131 + u' * 1117 + (p : Int) * 29 + (p : Int) / (n : Int) * 53) (by omega) (by omega)
    refine ⟨_, rfl, ?_, ?_, fun h => by omega, h.1, h.2⟩
    · rw [Int.tmod_eq_emod_of_nonneg hx]; exact Int.emod_nonneg _ (by omega)
    · intro _; rw [Int.tmod_eq_emod_of_nonneg hx]; exact Int.emod_lt_of_pos _ (by omega)
end

section
/- Contracts of the reader of random bytes in the reference: num(list) returns an element of the list. -/
open Go.RowKit

/-- Block g is just the cells cs of element type t, none frozen. -/
def Blk (w : World) (g : Nat) (t : TypeId) (cs : Array Value) : Prop := w.heap[g]? = some (.cells cs t (0, 0))

section
variable {w w' : World} {g : Nat} {t : TypeId} {cs : Array Value}
theorem Blk.lt (h : Blk w g t cs) : g < w.heap.size := by
  rcases Nat.lt_or_ge g w.heap.size with hlt | hge
  · exact hlt
  · unfold Blk at h; rw [Array.getElem?_eq_none hge] at h; cases h
theorem Blk.cell (h : Blk w g t cs) (i : Nat) : w.cell? ⟨g, i, none⟩ = cs[i]? := cell_of_row w g i cs t (0, 0) h
theorem Blk.frozen (h : Blk w g t cs) (i : Nat) : w.frozen? ⟨g, i, none⟩ = false := by
  unfold Blk at h
  simp [World.frozen?, h]
theorem Blk.new (w : World) (t : TypeId) (cs : Array Value) : Blk (w.alloc (.cells cs t)) w.heap.size t cs := heap_alloc_new w _
theorem Blk.drewN (h : Blk w g t cs) (n : Nat) : Blk (w.drewN n) g t cs := h
theorem Blk.alloc (h : Blk w g t cs) (o : Obj) : Blk (w.alloc o) g t cs := (Below.heap_alloc w o g h.lt).trans h
theorem Blk.set_ (h : Blk w g t cs) (i : Nat) (u : Value) : Blk (w.setCell ⟨g, i, none⟩ u) g t (cs.setIfInBounds i u) := by
  unfold Blk at h ⊢
  simp [World.setCell, Array.getElem?_modify, h]
theorem Blk.far (h : Blk w g t cs) {p : Addr} (hp : g ≠ p.block) (u : Value) : Blk (w.setCell p u) g t cs := (Below.heap_setCell w p u g hp).trans h
theorem Blk.below {B : Nat} (h : Blk w g t cs) (hb : Below B w w') (hg : g < B) : Blk w' g t cs := (hb.block g hg).trans h
theorem Blk.grown {row : Option Nat} (h : Blk w g t cs) (hb : w.grownBy w' row) (hg : some g ≠ row) : Blk w' g t cs := (hb.block g h.lt hg).trans h
end

theorem Rd.lt {w : World} {B g : Nat} {A : Option Addr} {n c : Nat} {f : Nat → Int} {p : Nat} (h : Rd w B g A n c f p) : g < w.heap.size := Blk.lt h.blk
theorem Rd.alloc {w : World} {B g : Nat} {A : Option Addr} {n c : Nat} {f : Nat → Int} {p : Nat} (h : Rd w B g A n c f p) (o : Obj) : Rd (w.alloc o) B g A n c f p :=
  ⟨Blk.alloc h.blk o, h.ge, h.len, fun i hi => by
    obtain ⟨b, of, e, hb, hc⟩ := h.at_ i hi
    exact ⟨b, of, e, hb, by rw [World.cell?_alloc_lt w o _ (by have := h.ge; have := h.lt; show b < _; omega)]; exact hc⟩, h.byte⟩
theorem Rd.set {w : World} {B g : Nat} {A : Option Addr} {n c : Nat} {f : Nat → Int} {p : Nat} (h : Rd w B g A n c f p) {q : Addr} (hq : B ≤ q.block) (hg : q.block ≠ g) (u : Value) : Rd (w.setCell q u) B g A n c f p :=
  ⟨Blk.far h.blk (fun e => hg e.symm) u, h.ge, h.len, fun i hi => by
    obtain ⟨b, of, e, hb, hc⟩ := h.at_ i hi
    exact ⟨b, of, e, hb, by rw [World.cell?_setCell_other w _ _ _ (fun e => by subst e; simp at hq; omega)]; exact hc⟩, h.byte⟩
theorem Rd.drewN {w : World} {B g : Nat} {A : Option Addr} {n c : Nat} {f : Nat → Int} {p : Nat} (h : Rd w B g A n c f p) (k : Nat) : Rd (w.drewN k) B g A n c f p :=
  ⟨h.blk, h.ge, h.len, h.at_, h.byte⟩
theorem Rd.grown {w w' : World} {B g : Nat} {A : Option Addr} {n c : Nat} {f : Nat → Int} {p : Nat} (h : Rd w B g A n c f p) {row : Option Nat} (hb : w.grownBy w' row) (hr : ∀ k, row = some k → B ≤ k ∧ k ≠ g) : Rd w' B g A n c f p :=
  ⟨Blk.grown h.blk hb (fun e => (hr g e.symm).2 rfl), h.ge, h.len, fun i hi => by
    obtain ⟨b, of, e, hbb, hc⟩ := h.at_ i hi
    exact ⟨b, of, e, hbb, (World.cell?_of_block (hb.block b (by have := h.ge; have := h.lt; omega) (fun e => by have := (hr b e.symm).1; omega))).trans hc⟩, h.byte⟩

/-- grownBy, over more steps. -/
theorem gb_drewN {a w : World} {row : Option Nat} (h : a.grownBy w row) (n : Nat) : a.grownBy (w.drewN n) row := ⟨h.os, h.tape, h.output, h.size, h.block⟩
theorem gb_alloc {a w : World} {row : Option Nat} (h : a.grownBy w row) (o : Obj) : a.grownBy (w.alloc o) row :=
  ⟨h.os, h.tape, h.output, Nat.le_trans h.size (by simp), fun i hi hne => (Below.heap_alloc w o i (Nat.lt_of_lt_of_le hi h.size)).trans (h.block i hi hne)⟩
theorem gb_set {a w : World} {g : Nat} (h : a.grownBy w (some g)) {p : Addr} (hp : p.block = g ∨ a.heap.size ≤ p.block) (u : Value) : a.grownBy (w.setCell p u) (some g) :=
  ⟨h.os, h.tape, h.output, by simpa [World.setCell] using h.size, fun i hi hne => (Below.heap_setCell w p u i (by
    rintro rfl
    rcases hp with hp | hp
    · exact hne (by rw [hp])
    · omega)).trans (h.block i hi hne)⟩
theorem gb_trans {a b c : World} {g : Nat} (h : a.grownBy b (some g)) {row : Option Nat} (k : b.grownBy c row) (hr : ∀ x, row = some x → x = g ∨ a.heap.size ≤ x) : a.grownBy c (some g) :=
  ⟨k.os.trans h.os, k.tape.trans h.tape, k.output.trans h.output, Nat.le_trans h.size k.size, fun i hi hne =>
    (k.block i (Nat.lt_of_lt_of_le hi h.size) (fun e => by
      rcases hr i e.symm with e' | e'
      · exact hne (by rw [e'])
      · omega)).trans (h.block i hi hne)⟩
theorem below_of_gb {a w w' : World} {B g : Nat} (h : Below B a w) (k : w.grownBy w' (some g)) (hB : B ≤ w.heap.size) (hg : B ≤ g) : Below B a w' :=
  h.grown k hB (fun x e => by injection e with e; omega)

theorem bl_alloc {w w' : World} (h : Below w.heap.size w w') (o : Obj) : Below w.heap.size w (w'.alloc o) := h.alloc h.size o
theorem bl_set {w w' : World} (h : Below w.heap.size w w') {p : Addr} (hp : w.heap.size ≤ p.block) (u : Value) : Below w.heap.size w (w'.setCell p u) := h.setCell hp u
theorem bl_drewN {w w' : World} (h : Below w.heap.size w w') (n : Nat) : Below w.heap.size w (w'.drewN n) := ⟨h.os, h.tape, h.output, h.size, h.block⟩
theorem bl_trans {w w' w'' : World} (h : Below w.heap.size w w') (k : Below w'.heap.size w' w'') : Below w.heap.size w w'' := h.trans (k.mono h.size)

/-- What num leaves: a number between a and b; the reader one on. -/
def Numbered (B g : Nat) (A : Option Addr) (n c : Nat) (f : Nat → Int) (p : Nat) (a b : Int) (w : World) (e : Ending) (w' : World) : Prop :=
  ∃ v : Int, e = .returned (.int .i64 v) ∧ a ≤ v ∧ v ≤ b ∧ Rd w' B g A n c f (p + 1) ∧ w.grownBy w' (some g)

set_option maxHeartbeats 1000000 in
theorem num_any (w : World) (B g : Nat) (A : Option Addr) (n c : Nat) (f : Nat → Int) (p : Nat) (h k : Nat) (a b : Int) (hr : Rd w B g A n c f p) (hp : p ≤ 1000000)
    (hk1 : 1 ≤ k) (hk2 : k ≤ 1000) (hne : h ≠ g) (hcells : ∀ i, i < k → ∃ v, w.cell? ⟨h, i, none⟩ = some (.int .i64 v) ∧ a ≤ v ∧ v ≤ b) :
    Calls Try.prog 67 #[.pointer (some ⟨g, 0, none⟩), .slice (some ⟨h, 0, none⟩) k k] w (Numbered B g A n c f p a b w) := by
  have HR := Lib.hid hr
  have HC := Lib.hid hcells
  clear hr hcells
  go_enter Try.func67, Try.ntmps67
  go_wp2_with fail
  refine (pick_any w B g A n c f p k HR.out hp (by omega)).mono ?_
  rintro e w' ⟨v, rfl, h0, h1, h2, hr', hg⟩
  have h1' := h1 (by omega)
  clear h1 h2
  obtain ⟨j, rfl⟩ := Int.eq_ofNat_of_zero_le h0
  have hj : j < k := by omega
  obtain ⟨x, hx, hx1, hx2⟩ := HC.out j hj
  have hx' : w'.cell? ⟨h, j, none⟩ = some (.int .i64 x) := hg.cell hx (fun e => hne (by injection e))
  have HR' := Lib.hid hr'
  have HG := Lib.hid hg
  clear hr' hg hx
  go_wp2_with fail
  go_ret
  exact ⟨x, rfl, hx1, hx2, HR'.out, HG.out⟩
end

section
/- Literal slices of numbers in memory. -/
open Go.RowKit

theorem lit_cells (w : World) (cs : Array Value) (k : Nat) (a b : Int) (h : ∀ i, i < k → ∃ v, cs[i]? = some (.int .i64 v) ∧ a ≤ v ∧ v ≤ b) :
    ∀ i, i < k → ∃ v, (w.alloc (.cells cs 3)).cell? ⟨w.heap.size, i, none⟩ = some (.int .i64 v) ∧ a ≤ v ∧ v ≤ b := fun i hi => by
  obtain ⟨v, hv, h1⟩ := h i hi
  exact ⟨v, by rw [(Blk.new w 3 cs).cell i]; exact hv, h1⟩

theorem lit_cells_at (w : World) (cs : Array Value) (g k : Nat) (a b : Int) (hg : g = w.heap.size) (h : ∀ i, i < k → ∃ v, cs[i]? = some (.int .i64 v) ∧ a ≤ v ∧ v ≤ b) :
    ∀ i, i < k → ∃ v, (w.alloc (.cells cs 3)).cell? ⟨g, i, none⟩ = some (.int .i64 v) ∧ a ≤ v ∧ v ≤ b := by
  subst hg; exact lit_cells w cs k a b h
end

section
/- Contracts of TaskValid, in the program and in the reference: both return whether the bounds of a task hold, and write nothing that was there. -/
open Go.RowKit

/-- The five cells of a task. -/
def tkCells (lo hi du ev : Int) (c : Bool) : Array Value := #[.int .i64 lo, .int .i64 hi, .int .i64 du, .int .i64 ev, .bool c]

/-- Whether the bounds of a task hold. -/
def validB (lo hi du ev : Int) (c : Bool) : Bool :=
  decide (1 ≤ lo) && (decide (lo ≤ hi) && (decide (hi ≤ du) && (decide (du ≤ ev) && (decide (ev ≤ 20) && (c || lo == hi)))))

set_option maxHeartbeats 400000 in
theorem iTaskValid_any (lo hi du ev : Int) (c : Bool) (w : World) :
    Calls Try.prog 64 #[.agg #[.int .i64 lo, .int .i64 hi, .int .i64 du, .int .i64 ev, .bool c]] w fun e w' =>
      e = .returned (.bool (validB lo hi du ev c)) ∧ w.alloc (.cells #[.int .i64 lo, .int .i64 hi, .int .i64 du, .int .i64 ev, .bool c] 36) = w' := by
  go_enter Try.func64, Try.ntmps64
  go_wp2
  all_goals go_ret
  all_goals exact ⟨by simp [validB, *] <;> (intros; exfalso; omega), by simp [*]⟩

set_option maxHeartbeats 400000 in
theorem sTaskValid_any (lo hi du ev : Int) (c : Bool) (w : World) :
    Calls Try.prog 83 #[.agg #[.int .i64 lo, .int .i64 hi, .int .i64 du, .int .i64 ev, .bool c]] w fun e w' =>
      e = .returned (.bool (validB lo hi du ev c)) ∧ w.alloc (.cells #[.int .i64 lo, .int .i64 hi, .int .i64 du, .int .i64 ev, .bool c] 36) = w' := by
  go_enter Try.func83, Try.ntmps83
  go_wp2
  all_goals go_ret
  all_goals exact ⟨by simp [validB, *] <;> (intros; exfalso; omega), by simp [*]⟩
end

section
/- Contracts of what the reference draws: a task that is valid, and one that may be wrong; its numbers are small. -/
open Go.RowKit

/-- The numbers of a task are small. -/
def smallT (lo hi du ev : Int) (_ : Bool) : Prop := (-1 ≤ lo ∧ lo ≤ 21) ∧ (-1 ≤ hi ∧ hi ≤ 21) ∧ (-1 ≤ du ∧ du ≤ 21) ∧ (-1 ≤ ev ∧ ev ≤ 21)

/-- What a draw of a task leaves: a task of the kind 'good'; the reader at most d on. -/
def TkOut (B g : Nat) (A : Option Addr) (n c : Nat) (f : Nat → Int) (p d : Nat) (good : Int → Int → Int → Int → Bool → Prop) (w : World) (e : Ending) (w' : World) : Prop :=
  ∃ (lo hi du ev : Int) (cr : Bool) (p' : Nat), e = .returned (.agg #[.int .i64 lo, .int .i64 hi, .int .i64 du, .int .i64 ev, .bool cr]) ∧ good lo hi du ev cr ∧ p' ≤ p + d ∧ Rd w' B g A n c f p' ∧ w.grownBy w' (some g)

set_option maxHeartbeats 2000000 in
theorem wrong_any (w : World) (B g : Nat) (A : Option Addr) (n c : Nat) (f : Nat → Int) (p : Nat) (lo hi du ev : Int) (cr : Bool) (hr : Rd w B g A n c f p) (hp : p ≤ 100000) (hs : smallT lo hi du ev cr) :
    Calls Try.prog 90 #[.pointer (some ⟨g, 0, none⟩), .agg #[.int .i64 lo, .int .i64 hi, .int .i64 du, .int .i64 ev, .bool cr]] w (TkOut B g A n c f p 2 smallT w) := by
  have HR := Lib.hid hr
  have HS := Lib.hid hs
  have hgl := hr.lt
  have hBg := hr.ge
  clear hr hs
  go_enter Try.func90, Try.ntmps90
  go_wp2_with fail
  refine (pick_any _ B g A n c f p 20 ((HR.out.alloc _).alloc _) (by omega) (by omega)).mono ?_
  rintro e w1 ⟨v, rfl, h0, h1, h2, hr1, hg1⟩
  have h1' := h1 (by omega)
  clear h1 h2
  have hsz : w.heap.size + 1 < w1.heap.size := by have := hg1.size; simp at this; omega
  have bT : Blk w1 w.heap.size 36 _ := (((Blk.new w 36 _).alloc _).grown hg1 (by intro e; injection e; omega))
  have bR : Blk w1 (w.heap.size + 1) 36 #[.int .i64 0, .int .i64 0, .int .i64 0, .int .i64 0, .bool false] := by
    refine Blk.grown ?_ hg1 (by intro e; injection e; omega)
    have h := Blk.new (w.alloc (.cells #[.int .i64 lo, .int .i64 hi, .int .i64 du, .int .i64 ev, .bool cr] 36)) 36 #[.int .i64 0, .int .i64 0, .int .i64 0, .int .i64 0, .bool false]
    simpa using h
  have hgw : w.grownBy w1 (some g) := gb_trans (gb_alloc (gb_alloc (World.grownBy.refl w _) _) _) hg1 (fun x e => .inl (by injection e with e; exact e.symm))
  have HR1 := Lib.hid hr1
  have HG1 := Lib.hid hgw
  clear hr1 hg1 hgw
  by_cases e0 : v = 0
  · subst e0
    go_wp2_with fail
    refine (num_any _ B g A n c f (p + 1) _ 4 (-1) 21 (HR1.out.alloc _) (by omega) (by omega) (by omega) (by omega) ?_).mono ?_
    · exact lit_cells _ _ _ _ _ (fun i hi => by rcases (by omega : i = 0 ∨ i = 1 ∨ i = 2 ∨ i = 3) with rfl | rfl | rfl | rfl <;> exact ⟨_, rfl, by decide, by decide⟩)
    rintro e w2 ⟨x, rfl, hx1, hx2, hr2, hg2⟩
    have hg3 := gb_trans (gb_alloc HG1.out _) hg2 (fun x e => .inl (by injection e with e; exact e.symm))
    have bT2 := (bT.alloc (.cells #[.int .i64 0, .int .i64 (-1), .int .i64 21, .int .i64 1] 3)).grown hg2 (by intro e; injection e; omega)
    have bR2 := (bR.alloc (.cells #[.int .i64 0, .int .i64 (-1), .int .i64 21, .int .i64 1] 3)).grown hg2 (by intro e; injection e; omega)
    have cT := bT2.cell; have fT := bT2.frozen; have cR := bR2.cell; have fR := bR2.frozen
    clear bT2 bR2 bT bR
    have HR2 := Lib.hid hr2
    have HG2 := Lib.hid hg3
    clear hr2 hg3 hg2
    go_wp2
    refine bodyPost_ret (v := .agg #[.int .i64 x, .int .i64 hi, .int .i64 du, .int .i64 ev, .bool cr]) (by simp [results, Try.results90, go_sem, cR]) rfl ⟨x, hi, du, ev, cr, p + 1 + 1, rfl, ?_, by omega, ?_, ?_⟩
    · obtain ⟨s1, s2, s3, s4⟩ := HS.out; exact ⟨⟨hx1, hx2⟩, s2, s3, s4⟩
    · repeat (refine Rd.set ?_ (by dsimp only; omega) (by dsimp only; omega) _)
      exact HR2.out
    · repeat (refine gb_set ?_ (.inr (by dsimp only; omega)) _)
      exact HG2.out
  by_cases e1 : v = 1
  · subst e1
    go_wp2_with fail
    refine (num_any _ B g A n c f (p + 1) _ 3 (-1) 21 (HR1.out.alloc _) (by omega) (by omega) (by omega) (by omega) ?_).mono ?_
    · exact lit_cells _ _ _ _ _ (fun i hi => by rcases (by omega : i = 0 ∨ i = 1 ∨ i = 2) with rfl | rfl | rfl <;> exact ⟨_, rfl, by decide, by decide⟩)
    rintro e w2 ⟨x, rfl, hx1, hx2, hr2, hg2⟩
    have hg3 := gb_trans (gb_alloc HG1.out _) hg2 (fun x e => .inl (by injection e with e; exact e.symm))
    have bT2 := (bT.alloc (.cells #[.int .i64 0, .int .i64 21, .int .i64 5] 3)).grown hg2 (by intro e; injection e; omega)
    have bR2 := (bR.alloc (.cells #[.int .i64 0, .int .i64 21, .int .i64 5] 3)).grown hg2 (by intro e; injection e; omega)
    have cT := bT2.cell; have fT := bT2.frozen; have cR := bR2.cell; have fR := bR2.frozen
    clear bT2 bR2 bT bR
    have HR2 := Lib.hid hr2
    have HG2 := Lib.hid hg3
    clear hr2 hg3 hg2
    go_wp2
    refine bodyPost_ret (v := .agg #[.int .i64 lo, .int .i64 x, .int .i64 du, .int .i64 ev, .bool cr]) (by simp [results, Try.results90, go_sem, cR]) rfl ⟨lo, x, du, ev, cr, p + 1 + 1, rfl, ?_, by omega, ?_, ?_⟩
    · obtain ⟨s1, s2, s3, s4⟩ := HS.out; exact ⟨s1, ⟨hx1, hx2⟩, s3, s4⟩
    · repeat (refine Rd.set ?_ (by dsimp only; omega) (by dsimp only; omega) _)
      exact HR2.out
    · repeat (refine gb_set ?_ (.inr (by dsimp only; omega)) _)
      exact HG2.out
  by_cases e2 : v = 2
  · subst e2
    go_wp2_with fail
    refine (num_any _ B g A n c f (p + 1) _ 3 (-1) 21 (HR1.out.alloc _) (by omega) (by omega) (by omega) (by omega) ?_).mono ?_
    · exact lit_cells _ _ _ _ _ (fun i hi => by rcases (by omega : i = 0 ∨ i = 1 ∨ i = 2) with rfl | rfl | rfl <;> exact ⟨_, rfl, by decide, by decide⟩)
    rintro e w2 ⟨x, rfl, hx1, hx2, hr2, hg2⟩
    have hg3 := gb_trans (gb_alloc HG1.out _) hg2 (fun x e => .inl (by injection e with e; exact e.symm))
    have bT2 := (bT.alloc (.cells #[.int .i64 0, .int .i64 21, .int .i64 20] 3)).grown hg2 (by intro e; injection e; omega)
    have bR2 := (bR.alloc (.cells #[.int .i64 0, .int .i64 21, .int .i64 20] 3)).grown hg2 (by intro e; injection e; omega)
    have cT := bT2.cell; have fT := bT2.frozen; have cR := bR2.cell; have fR := bR2.frozen
    clear bT2 bR2 bT bR
    have HR2 := Lib.hid hr2
    have HG2 := Lib.hid hg3
    clear hr2 hg3 hg2
    go_wp2
    refine bodyPost_ret (v := .agg #[.int .i64 lo, .int .i64 hi, .int .i64 x, .int .i64 ev, .bool cr]) (by simp [results, Try.results90, go_sem, cR]) rfl ⟨lo, hi, x, ev, cr, p + 1 + 1, rfl, ?_, by omega, ?_, ?_⟩
    · obtain ⟨s1, s2, s3, s4⟩ := HS.out; exact ⟨s1, s2, ⟨hx1, hx2⟩, s4⟩
    · repeat (refine Rd.set ?_ (by dsimp only; omega) (by dsimp only; omega) _)
      exact HR2.out
    · repeat (refine gb_set ?_ (.inr (by dsimp only; omega)) _)
      exact HG2.out
  by_cases e3 : v = 3
  · subst e3
    have cT := bT.cell; have fT := bT.frozen; have cR := bR.cell; have fR := bR.frozen
    clear bT bR
    go_wp2
    refine bodyPost_ret (v := .agg #[.int .i64 lo, .int .i64 hi, .int .i64 du, .int .i64 ev, .bool (!cr)]) (by simp [results, Try.results90, go_sem, cR]) rfl ⟨lo, hi, du, ev, !cr, p + 1, rfl, HS.out, by omega, ?_, ?_⟩
    · repeat (refine Rd.set ?_ (by dsimp only; omega) (by dsimp only; omega) _)
      exact HR1.out
    · repeat (refine gb_set ?_ (.inr (by dsimp only; omega)) _)
      exact HG1.out
  by_cases e4 : v = 4
  · subst e4
    go_wp2_with fail
    refine (num_any _ B g A n c f (p + 1) _ 3 (-1) 21 (HR1.out.alloc _) (by omega) (by omega) (by omega) (by omega) ?_).mono ?_
    · exact lit_cells _ _ _ _ _ (fun i hi => by rcases (by omega : i = 0 ∨ i = 1 ∨ i = 2) with rfl | rfl | rfl <;> exact ⟨_, rfl, by decide, by decide⟩)
    rintro e w2 ⟨x, rfl, hx1, hx2, hr2, hg2⟩
    have hg3 := gb_trans (gb_alloc HG1.out _) hg2 (fun x e => .inl (by injection e with e; exact e.symm))
    have bT2 := (bT.alloc (.cells #[.int .i64 21, .int .i64 0, .int .i64 20] 3)).grown hg2 (by intro e; injection e; omega)
    have bR2 := (bR.alloc (.cells #[.int .i64 21, .int .i64 0, .int .i64 20] 3)).grown hg2 (by intro e; injection e; omega)
    have cT := bT2.cell; have fT := bT2.frozen; have cR := bR2.cell; have fR := bR2.frozen
    clear bT2 bR2 bT bR
    have HR2 := Lib.hid hr2
    have HG2 := Lib.hid hg3
    clear hr2 hg3 hg2
    go_wp2
    refine bodyPost_ret (v := .agg #[.int .i64 lo, .int .i64 hi, .int .i64 du, .int .i64 x, .bool cr]) (by simp [results, Try.results90, go_sem, cR]) rfl ⟨lo, hi, du, x, cr, p + 1 + 1, rfl, ?_, by omega, ?_, ?_⟩
    · obtain ⟨s1, s2, s3, s4⟩ := HS.out; exact ⟨s1, s2, s3, ⟨hx1, hx2⟩⟩
    · repeat (refine Rd.set ?_ (by dsimp only; omega) (by dsimp only; omega) _)
      exact HR2.out
    · repeat (refine gb_set ?_ (.inr (by dsimp only; omega)) _)
      exact HG2.out
  have t0 : (v == 0) = false := by simpa using e0
  have t1 : (v == 1) = false := by simpa using e1
  have t2 : (v == 2) = false := by simpa using e2
  have t3 : (v == 3) = false := by simpa using e3
  have t4 : (v == 4) = false := by simpa using e4
  clear e0 e1 e2 e3 e4
  have cT := bT.cell; have fT := bT.frozen; have cR := bR.cell; have fR := bR.frozen
  clear bT bR
  go_wp2
  refine bodyPost_ret (v := .agg #[.int .i64 lo, .int .i64 hi, .int .i64 du, .int .i64 ev, .bool cr]) (by simp [results, Try.results90, go_sem, cR]) rfl ⟨lo, hi, du, ev, cr, p + 1, rfl, HS.out, by omega, ?_, ?_⟩
  · repeat (refine Rd.set ?_ (by dsimp only; omega) (by dsimp only; omega) _)
    exact HR1.out
  · repeat (refine gb_set ?_ (.inr (by dsimp only; omega)) _)
    exact HG1.out
end

section
/- Contract of what the reference draws as a task: it is a valid one. -/
open Go.RowKit

def goodT (lo hi du ev : Int) (cr : Bool) : Prop := 1 ≤ lo ∧ lo ≤ hi ∧ hi ≤ du ∧ du ≤ ev ∧ ev ≤ 20 ∧ (cr = false → lo = hi)

theorem goodT.small {lo hi du ev : Int} {cr : Bool} (h : goodT lo hi du ev cr) : smallT lo hi du ev cr := by
  obtain ⟨h1, h2, h3, h4, h5, _⟩ := h; exact ⟨⟨by omega, by omega⟩, ⟨by omega, by omega⟩, ⟨by omega, by omega⟩, ⟨by omega, by omega⟩⟩
theorem goodT.valid {lo hi du ev : Int} {cr : Bool} (h : goodT lo hi du ev cr) : validB lo hi du ev cr = true := by
  obtain ⟨h1, h2, h3, h4, h5, h6⟩ := h
  cases cr
  · obtain rfl := h6 rfl
    simp [validB]; omega
  · simp [validB]; omega

set_option maxHeartbeats 2000000 in
theorem task_any (w : World) (B g : Nat) (A : Option Addr) (n c : Nat) (f : Nat → Int) (p : Nat) (hr : Rd w B g A n c f p) (hp : p ≤ 100000) :
    Calls Try.prog 91 #[.pointer (some ⟨g, 0, none⟩)] w (TkOut B g A n c f p 6 goodT w) := by
  have HR := Lib.hid hr
  have hgl := hr.lt
  have hBg := hr.ge
  clear hr
  go_enter Try.func91, Try.ntmps91
  go_wp2_with fail
  -- every
  refine (num_any _ B g A n c f p _ 8 2 20 ((HR.out.alloc _).alloc _) (by omega) (by omega) (by omega) (by simp; omega) ?_).mono ?_
  · exact lit_cells_at _ _ _ _ _ _ (by simp) (fun i hi => by rcases (by omega : i = 0 ∨ i = 1 ∨ i = 2 ∨ i = 3 ∨ i = 4 ∨ i = 5 ∨ i = 6 ∨ i = 7) with rfl | rfl | rfl | rfl | rfl | rfl | rfl | rfl <;> exact ⟨_, rfl, by decide, by decide⟩)
  rintro e w1 ⟨ev, rfl, hev1, hev2, hr1, hg1⟩
  have hsz1 : w.heap.size + 1 < w1.heap.size := by have := hg1.size; simp at this; omega
  have bR : Blk w1 w.heap.size 36 #[.int .i64 0, .int .i64 0, .int .i64 0, .int .i64 0, .bool false] := ((Blk.new w 36 _).alloc _).grown hg1 (by intro e; injection e; omega)
  have hgw1 : w.grownBy w1 (some g) := gb_trans (gb_alloc (gb_alloc (World.grownBy.refl w _) _) _) hg1 (fun x e => .inl (by injection e with e; exact e.symm))
  have HR1 := Lib.hid hr1
  have HG1 := Lib.hid hgw1
  have BR1 := Lib.hid bR
  clear hr1 hg1 hgw1 bR
  -- low
  go_wp2_with fail
  refine (pick_any _ B g A n c f _ (ev / 3 + 1) HR1.out (by omega) (by omega)).mono ?_
  rintro e w2 ⟨x, rfl, hx0, hx1, hx2, hr2, hg2⟩
  have hx := hx1 (by omega)
  clear hx1 hx2
  have hsz2 : w.heap.size + 1 < w2.heap.size := by have := hg2.size; omega
  have HR2 := Lib.hid hr2
  have HG2 := Lib.hid (gb_trans HG1.out hg2 (fun x e => .inl (by injection e with e; exact e.symm)))
  have BR2 := Lib.hid (BR1.out.grown hg2 (by intro e; injection e; omega))
  clear hr2 hg2 BR1 HR1 HG1
  -- the task; critical?
  go_wp2_with fail
  refine (pick_any _ B g A n c f _ 2 (HR2.out.alloc _) (by omega) (by omega)).mono ?_
  rintro e w3 ⟨y, rfl, hy0, _, _, hr3, hg3⟩
  have hsz3 : w2.heap.size < w3.heap.size := by have := hg3.size; simp at this; omega
  have HR3 := Lib.hid hr3
  have HG3 := Lib.hid (gb_trans (gb_alloc HG2.out _) hg3 (fun x e => .inl (by injection e with e; exact e.symm)))
  have BR3 := Lib.hid ((BR2.out.alloc (.cells #[.int .i64 (1 + x), .int .i64 (1 + x), .int .i64 ev, .int .i64 ev, .bool false] 36)).grown hg3 (by intro e; injection e; omega))
  have BT3 := Lib.hid ((Blk.new w2 36 #[.int .i64 (1 + x), .int .i64 (1 + x), .int .i64 ev, .int .i64 ev, .bool false]).grown hg3 (by intro e; injection e; omega))
  clear hr3 hg3 BR2 HR2 HG2
  by_cases hy : y = 0
  · subst hy
    have cT := BT3.out.cell; have fT := BT3.out.frozen
    go_wp2_with fail
    refine (pick_any _ B g A n c f (p + 1 + 1 + 1) (ev / 3 + 1) (HR3.out.set (by dsimp only; omega) (by dsimp only; omega) _) (by omega) (by omega)).mono ?_
    rintro e w4 ⟨z, rfl, hz0, hz1, hz2, hr4, hg4⟩
    have hz := hz1 (by omega)
    clear hz1 hz2 cT fT
    have hsz4 : w2.heap.size < w4.heap.size := by have := hg4.size; simp [World.setCell] at this; omega
    have HR4 := Lib.hid hr4
    have HG4 := Lib.hid (gb_trans (gb_set HG3.out (.inr (by dsimp only; omega)) _) hg4 (fun x e => .inl (by injection e with e; exact e.symm)))
    have BR4 := Lib.hid ((BR3.out.far (by dsimp only; omega) _).grown hg4 (by intro e; injection e; omega))
    have BT4 : Hid (Blk w4 w2.heap.size 36 #[.int .i64 (1 + x), .int .i64 (1 + x), .int .i64 ev, .int .i64 ev, .bool true]) := (BT3.out.set_ 4 (.bool true)).grown hg4 (by intro e; injection e; omega)
    clear hr4 hg4 HR3 HG3 BR3 BT3
    have cT := BT4.out.cell; have fT := BT4.out.frozen
    have hc : ¬ ev < 1 + x + z := by omega
    go_wp2_with fail
    clear cT fT
    refine (pick_any _ B g A n c f (p + 1 + 1 + 1 + 1) 3 ?_ (by omega) (by omega)).mono ?_
    · repeat (refine Rd.set ?_ (by dsimp only; omega) (by dsimp only; omega) _)
      exact HR4.out
    rintro e w5 ⟨u, rfl, hu0, _, _, hr5, hg5⟩
    have hsz5 : w2.heap.size < w5.heap.size := by have := hg5.size; first | omega | (simp [World.setCell] at this; omega)
    have HR5 := Lib.hid hr5
    have HG5 : Hid (w.grownBy w5 (some g)) := gb_trans (by
      repeat (refine gb_set ?_ (.inr (by dsimp only; omega)) _)
      exact HG4.out) hg5 (fun x e => .inl (by injection e with e; exact e.symm))
    have BR5 : Hid (Blk w5 w.heap.size 36 #[.int .i64 0, .int .i64 0, .int .i64 0, .int .i64 0, .bool false]) := Blk.grown (by
      repeat (refine Blk.far ?_ (by dsimp only; omega) _)
      exact BR4.out) hg5 (by intro e; injection e; omega)
    have BT5 : Hid (Blk w5 w2.heap.size 36 #[.int .i64 (1 + x), .int .i64 (1 + x + z), .int .i64 ev, .int .i64 ev, .bool true]) := Blk.grown (by
      first
        | exact BT4.out
        | exact BT4.out.set_ _ _
        | exact (BT4.out.set_ _ _).set_ _ _) hg5 (by intro e; injection e; omega)
    clear hr5 hg5
    have cT5 := BT5.out.cell; have fT5 := BT5.out.frozen; have cR5 := BR5.out.cell; have fR5 := BR5.out.frozen
    by_cases hu : u = 0
    · subst hu
      go_wp2_with fail
      have b1 : p + 1 + 1 + 1 + 1 + 1 ≤ 1000000 := by omega
      have b2 : ev - (1 + x + z) + 1 ≤ 1000000 := by omega
      have b3 : 1 ≤ ev - (1 + x + z) + 1 := by omega
      have b4 : ∀ q : Int, 0 ≤ q → q < ev - (1 + x + z) + 1 → IntKind.i64.wrap (1 + x + z + q) = 1 + x + z + q := fun q _ _ => IntWalk.i64_in _ (by omega)
      have b5 : some w2.heap.size ≠ some g := by intro e; injection e; omega
      have B4 := Lib.hid b4
      have B5 := Lib.hid b5
      clear b4 b5
      have k1 : IntKind.i64.wrap (ev - (1 + x + z)) = ev - (1 + x + z) := IntWalk.i64_in _ (by omega)
      have k2 : IntKind.i64.wrap (ev - (1 + x + z) + 1) = ev - (1 + x + z) + 1 := IntWalk.i64_in _ (by clear k1; omega)
      go_region_held3 (fun W => W.cell? ⟨w2.heap.size, 1, none⟩ = some (.int .i64 (1 + x + z))) (first | assumption | (simp [go_sem, *]; done))
        ((go_at_call 89; refine (pick_any _ B g A n c f (p + 1 + 1 + 1 + 1 + 1) (ev - (1 + x + z) + 1) (by exact ⟨HR5.out.blk, HR5.out.ge, HR5.out.len, HR5.out.at_, HR5.out.byte⟩) b1 b2).mono ?_; rintro e w6 ⟨q, rfl, hq0, hq1, hq2, hr6, hg6⟩; have k3 := B4.out q hq0 (hq1 b3); have BT6 := Lib.hid (BT5.out.grown (w' := w6) ⟨hg6.os, hg6.tape, hg6.output, hg6.size, hg6.block⟩ B5.out); have cT6 := BT6.out.cell; have fT6 := BT6.out.frozen; clear cT5 fT5; have HR6 := Lib.hid hr6; have HG6 := Lib.hid hg6; clear hr6 hg6))
      clear k1 k2 k3
      have hq := hq1 b3
      have hg6 : w5.grownBy w6 (some g) := ⟨HG6.out.os, HG6.out.tape, HG6.out.output, HG6.out.size, HG6.out.block⟩
      have HG7 := Lib.hid (gb_trans HG5.out hg6 (fun x e => .inl (by injection e with e; exact e.symm)))
      have BR6 := Lib.hid (BR5.out.grown hg6 (by intro e; injection e; omega))
      clear hg6 cR5 fR5 hq1 hq2
      have cR6 := BR6.out.cell; have fR6 := BR6.out.frozen
      go_wp2
      refine bodyPost_ret (v := .agg #[.int .i64 (1 + x), .int .i64 (1 + x + z), .int .i64 (1 + x + z + q), .int .i64 ev, .bool true]) (by simp [results, Try.results91, go_sem, cR6]) rfl ⟨1 + x, 1 + x + z, 1 + x + z + q, ev, true, p + 1 + 1 + 1 + 1 + 1 + 1, rfl, ⟨by omega, by omega, by omega, by omega, by omega, fun h => by cases h⟩, by omega, ?_, ?_⟩
      · repeat (refine Rd.set ?_ (by dsimp only; omega) (by dsimp only; omega) _)
        exact HR6.out
      · repeat (refine gb_set ?_ (.inr (by dsimp only; omega)) _)
        exact HG7.out
    · have tu : (u == 0) = false := by simpa using hu
      clear hu
      go_wp2
      refine bodyPost_ret (v := .agg #[.int .i64 (1 + x), .int .i64 (1 + x + z), .int .i64 ev, .int .i64 ev, .bool true]) (by simp [results, Try.results91, go_sem, cR5]) rfl ⟨1 + x, 1 + x + z, ev, ev, true, p + 1 + 1 + 1 + 1 + 1, rfl, ⟨by omega, by omega, by omega, by omega, by omega, fun h => by cases h⟩, by omega, ?_, ?_⟩
      · repeat (refine Rd.set ?_ (by dsimp only; omega) (by dsimp only; omega) _)
        exact HR5.out
      · repeat (refine gb_set ?_ (.inr (by dsimp only; omega)) _)
        exact HG5.out
  · have ty : (y == 0) = false := by simpa using hy
    clear hy
    have cT := BT3.out.cell; have fT := BT3.out.frozen
    have hc : ¬ ev < 1 + x := by omega
    go_wp2_with fail
    clear cT fT
    refine (pick_any _ B g A n c f (p + 1 + 1 + 1) 3 ?_ (by omega) (by omega)).mono ?_
    · repeat (refine Rd.set ?_ (by dsimp only; omega) (by dsimp only; omega) _)
      exact HR3.out
    rintro e w5 ⟨u, rfl, hu0, _, _, hr5, hg5⟩
    have hsz5 : w2.heap.size < w5.heap.size := by have := hg5.size; first | omega | (simp [World.setCell] at this; omega)
    have HR5 := Lib.hid hr5
    have HG5 : Hid (w.grownBy w5 (some g)) := gb_trans (by
      repeat (refine gb_set ?_ (.inr (by dsimp only; omega)) _)
      exact HG3.out) hg5 (fun x e => .inl (by injection e with e; exact e.symm))
    have BR5 : Hid (Blk w5 w.heap.size 36 #[.int .i64 0, .int .i64 0, .int .i64 0, .int .i64 0, .bool false]) := Blk.grown (by
      repeat (refine Blk.far ?_ (by dsimp only; omega) _)
      exact BR3.out) hg5 (by intro e; injection e; omega)
    have BT5 : Hid (Blk w5 w2.heap.size 36 #[.int .i64 (1 + x), .int .i64 (1 + x), .int .i64 ev, .int .i64 ev, .bool false]) := Blk.grown (by
      first
        | exact BT3.out
        | exact BT3.out.set_ _ _
        | exact (BT3.out.set_ _ _).set_ _ _) hg5 (by intro e; injection e; omega)
    clear hr5 hg5
    have cT5 := BT5.out.cell; have fT5 := BT5.out.frozen; have cR5 := BR5.out.cell; have fR5 := BR5.out.frozen
    by_cases hu : u = 0
    · subst hu
      go_wp2_with fail
      have b1 : p + 1 + 1 + 1 + 1 ≤ 1000000 := by omega
      have b2 : ev - (1 + x) + 1 ≤ 1000000 := by omega
      have b3 : 1 ≤ ev - (1 + x) + 1 := by omega
      have b4 : ∀ q : Int, 0 ≤ q → q < ev - (1 + x) + 1 → IntKind.i64.wrap (1 + x + q) = 1 + x + q := fun q _ _ => IntWalk.i64_in _ (by omega)
      have b5 : some w2.heap.size ≠ some g := by intro e; injection e; omega
      have B4 := Lib.hid b4
      have B5 := Lib.hid b5
      clear b4 b5
      have k1 : IntKind.i64.wrap (ev - (1 + x)) = ev - (1 + x) := IntWalk.i64_in _ (by omega)
      have k2 : IntKind.i64.wrap (ev - (1 + x) + 1) = ev - (1 + x) + 1 := IntWalk.i64_in _ (by clear k1; omega)
      go_region_held3 (fun W => W.cell? ⟨w2.heap.size, 1, none⟩ = some (.int .i64 (1 + x))) (first | assumption | (simp [go_sem, *]; done))
        ((go_at_call 89; refine (pick_any _ B g A n c f (p + 1 + 1 + 1 + 1) (ev - (1 + x) + 1) (by exact ⟨HR5.out.blk, HR5.out.ge, HR5.out.len, HR5.out.at_, HR5.out.byte⟩) b1 b2).mono ?_; rintro e w6 ⟨q, rfl, hq0, hq1, hq2, hr6, hg6⟩; have k3 := B4.out q hq0 (hq1 b3); have BT6 := Lib.hid (BT5.out.grown (w' := w6) ⟨hg6.os, hg6.tape, hg6.output, hg6.size, hg6.block⟩ B5.out); have cT6 := BT6.out.cell; have fT6 := BT6.out.frozen; clear cT5 fT5; have HR6 := Lib.hid hr6; have HG6 := Lib.hid hg6; clear hr6 hg6))
      clear k1 k2 k3
      have hq := hq1 b3
      have hg6 : w5.grownBy w6 (some g) := ⟨HG6.out.os, HG6.out.tape, HG6.out.output, HG6.out.size, HG6.out.block⟩
      have HG7 := Lib.hid (gb_trans HG5.out hg6 (fun x e => .inl (by injection e with e; exact e.symm)))
      have BR6 := Lib.hid (BR5.out.grown hg6 (by intro e; injection e; omega))
      clear hg6 cR5 fR5 hq1 hq2
      have cR6 := BR6.out.cell; have fR6 := BR6.out.frozen
      go_wp2
      refine bodyPost_ret (v := .agg #[.int .i64 (1 + x), .int .i64 (1 + x), .int .i64 (1 + x + q), .int .i64 ev, .bool false]) (by simp [results, Try.results91, go_sem, cR6]) rfl ⟨1 + x, 1 + x, 1 + x + q, ev, false, p + 1 + 1 + 1 + 1 + 1, rfl, ⟨by omega, by omega, by omega, by omega, by omega, fun _ => by omega⟩, by omega, ?_, ?_⟩
      · repeat (refine Rd.set ?_ (by dsimp only; omega) (by dsimp only; omega) _)
        exact HR6.out
      · repeat (refine gb_set ?_ (.inr (by dsimp only; omega)) _)
        exact HG7.out
    · have tu : (u == 0) = false := by simpa using hu
      clear hu
      go_wp2
      refine bodyPost_ret (v := .agg #[.int .i64 (1 + x), .int .i64 (1 + x), .int .i64 ev, .int .i64 ev, .bool false]) (by simp [results, Try.results91, go_sem, cR5]) rfl ⟨1 + x, 1 + x, ev, ev, false, p + 1 + 1 + 1 + 1, rfl, ⟨by omega, by omega, by omega, by omega, by omega, fun _ => by omega⟩, by omega, ?_, ?_⟩
      · repeat (refine Rd.set ?_ (by dsimp only; omega) (by dsimp only; omega) _)
        exact HR5.out
      · repeat (refine gb_set ?_ (.inr (by dsimp only; omega)) _)
        exact HG5.out
end

section
/- Contract of the reference's opening of a reader over the bytes of the input; nothing that was there is written. -/
open Go.RowKit

/-- A slice of n bytes f 0, f 1, .. below block B. -/
structure Code (w : World) (B : Nat) (A : Option Addr) (n c : Nat) (f : Nat → Int) : Prop where
  le : n ≤ c
  max : c ≤ maxLen
  at_ : ∀ i, i < n → ∃ b o, A = some ⟨b, o, none⟩ ∧ b < B ∧ w.cell? ⟨b, o + i, none⟩ = some (.int .u8 (f i))
  byte : ∀ i, 0 ≤ f i ∧ f i < 256

theorem Code.alloc {w : World} {A : Option Addr} {n c : Nat} {f : Nat → Int} (h : Code w w.heap.size A n c f) (o : Obj) : Code (w.alloc o) (w.alloc o).heap.size A n c f :=
  ⟨h.le, h.max, fun i hi => by
    obtain ⟨b, of, e, hb, hc⟩ := h.at_ i hi
    exact ⟨b, of, e, by simp; omega, by rw [World.cell?_alloc_lt w o _ hb]; exact hc⟩, h.byte⟩

def Opened (A : Option Addr) (c : Nat) (f : Nat → Int) (w : World) (e : Ending) (w' : World) : Prop :=
  e = .returned (.pointer (some ⟨w.heap.size, 0, none⟩)) ∧ ∃ n, Rd w' w.heap.size w.heap.size A n c f 0 ∧ Below w.heap.size w w'

theorem rd_new {w : World} {A : Option Addr} {n c m : Nat} {f : Nat → Int} (h : Code w w.heap.size A n c f) (hm : m ≤ n) (hm2 : m ≤ 2000) :
    Rd (w.alloc (.cells #[.slice A m c, .int .i64 0] 85)) w.heap.size w.heap.size A m c f 0 :=
  ⟨heap_alloc_new w _, Nat.le_refl _, hm2, fun i hi => by
    obtain ⟨b, of, e, hb, hc⟩ := h.at_ i (by omega)
    exact ⟨b, of, e, hb, by rw [World.cell?_alloc_lt w _ _ hb]; exact hc⟩, h.byte⟩

set_option maxHeartbeats 1000000 in
theorem open_any (w : World) (A : Option Addr) (n c : Nat) (f : Nat → Int) (h : Code w w.heap.size A n c f) :
    Calls Try.prog 65 #[.slice A n c] w (Opened A c f w) := by
  have H := Lib.hid h
  have hle := h.le
  have hmax := h.max
  unfold maxLen at hmax
  by_cases hn : 2000 < n
  · obtain ⟨b, o, rfl, _, _⟩ := h.at_ 0 (by omega)
    clear h
    go_enter Try.func65, Try.ntmps65
    go_wp2
    go_ret
    exact ⟨rfl, 2000, rd_new H.out (by omega) (by omega), (Below.refl _ _).alloc (Nat.le_refl _) _⟩
  · clear h
    go_enter Try.func65, Try.ntmps65
    go_wp2
    go_ret
    exact ⟨rfl, n, rd_new H.out (by omega) (by omega), (Below.refl _ _).alloc (Nat.le_refl _) _⟩
end

section
/- Contracts of the reference's readers: a reader is opened over the bytes of the input; what is drawn from it as a task has small numbers; nothing that was there is written. -/
open Go.RowKit

def DrewTask (good : Int → Int → Int → Int → Bool → Prop) (w : World) (e : Ending) (w' : World) : Prop :=
  ∃ (lo hi du ev : Int) (cr : Bool), e = .returned (.agg #[.int .i64 lo, .int .i64 hi, .int .i64 du, .int .i64 ev, .bool cr]) ∧ good lo hi du ev cr ∧ Below w.heap.size w w'
end

section
/- Contract of the copy of one task that the exact laws make. -/
open Go.RowKit

set_option maxHeartbeats 1000000 in
theorem toTask_any (lo hi du ev : Int) (c : Bool) (w : World) :
    Calls Try.prog 75 #[.agg #[.int .i64 lo, .int .i64 hi, .int .i64 du, .int .i64 ev, .bool c]] w fun e w' =>
      e = .returned (.agg #[.int .i64 lo, .int .i64 hi, .int .i64 du, .int .i64 ev, .bool c]) ∧ Below w.heap.size w w' := by
  go_enter Try.func75, Try.ntmps75
  go_wp2
  refine bodyPost_ret (v := .agg #[.int .i64 lo, .int .i64 hi, .int .i64 du, .int .i64 ev, .bool c]) (by simp [results, Try.results75, go_sem]) rfl ⟨rfl, ?_⟩
  repeat (first | exact Below.refl _ _ | refine bl_alloc ?_ _ | refine bl_set ?_ (by dsimp only; omega) _)
end

section
/- Contracts of SetValid, in the program and in the reference, over tasks that lie in memory. -/
open Go.RowKit

/-- A task as plain data. -/
structure Tk where
  lo : Int
  hi : Int
  du : Int
  ev : Int
  cr : Bool

def Tk.ok (t : Tk) : Bool := validB t.lo t.hi t.du t.ev t.cr
def Tk.cells (t : Tk) : List Value := [.int .i64 t.lo, .int .i64 t.hi, .int .i64 t.du, .int .i64 t.ev, .bool t.cr]
def Tk.val (t : Tk) : Value := .agg #[.int .i64 t.lo, .int .i64 t.hi, .int .i64 t.du, .int .i64 t.ev, .bool t.cr]

/-- At (b, o) lies the task t. -/
structure TkAt (w : World) (b o : Nat) (t : Tk) : Prop where
  c0 : w.cell? ⟨b, o, none⟩ = some (.int .i64 t.lo)
  c1 : w.cell? ⟨b, o + 1, none⟩ = some (.int .i64 t.hi)
  c2 : w.cell? ⟨b, o + 2, none⟩ = some (.int .i64 t.du)
  c3 : w.cell? ⟨b, o + 3, none⟩ = some (.int .i64 t.ev)
  c4 : w.cell? ⟨b, o + 4, none⟩ = some (.bool t.cr)

/-- The slice (A, n) reads as the tasks ts; it lies below block B. -/
structure Tks (w : World) (B : Nat) (A : Option Addr) (n : Nat) (ts : List Tk) : Prop where
  len : ts.length = n
  at_ : ∀ i t, ts[i]? = some t → ∃ b o, A = some ⟨b, o, none⟩ ∧ b < B ∧ TkAt w b (o + i * 5) t

theorem TkAt.keep {w w' : World} {b o : Nat} {t : Tk} (h : TkAt w b o t) (hk : ∀ i, w'.cell? ⟨b, i, none⟩ = w.cell? ⟨b, i, none⟩) : TkAt w' b o t :=
  ⟨(hk _).trans h.c0, (hk _).trans h.c1, (hk _).trans h.c2, (hk _).trans h.c3, (hk _).trans h.c4⟩

theorem Tks.keep {w w' : World} {B : Nat} {A : Option Addr} {n : Nat} {ts : List Tk} (h : Tks w B A n ts) (hk : ∀ b i, b < B → w'.cell? ⟨b, i, none⟩ = w.cell? ⟨b, i, none⟩) : Tks w' B A n ts :=
  ⟨h.len, fun i t ht => by
    obtain ⟨b, o, e, hb, hc⟩ := h.at_ i t ht
    exact ⟨b, o, e, hb, hc.keep fun i => hk b i hb⟩⟩
theorem Tks.below {w w' : World} {B : Nat} {A : Option Addr} {n : Nat} {ts : List Tk} (h : Tks w B A n ts) (hb : Below B w w') : Tks w' B A n ts :=
  h.keep fun b i hbB => hb.cell (p := ⟨b, i, none⟩) hbB
theorem Tks.more {w : World} {B B' : Nat} {A : Option Addr} {n : Nat} {ts : List Tk} (h : Tks w B A n ts) (hB : B ≤ B') : Tks w B' A n ts :=
  ⟨h.len, fun i t ht => by
    obtain ⟨b, o, e, hb, hc⟩ := h.at_ i t ht
    exact ⟨b, o, e, by omega, hc⟩⟩

def setB (ts : List Tk) : Bool := decide (ts.length ≤ 5) && ts.all Tk.ok

theorem setB_take_false {ts : List Tk} {k : Nat} {t : Tk} (h : ts[k]? = some t) (hv : t.ok = false) : setB ts = false := by
  unfold setB
  have : ts.all Tk.ok = false := by
    rw [List.all_eq_false]
    exact ⟨t, List.mem_of_getElem? h, by simp [hv]⟩
  simp [this]

theorem all_take_succ {ts : List Tk} {k : Nat} {t : Tk} (h : ts[k]? = some t) (hv : t.ok = true) (ha : (ts.take k).all Tk.ok = true) : (ts.take (k + 1)).all Tk.ok = true := by
  obtain ⟨hk, rfl⟩ := List.getElem?_eq_some_iff.1 h
  rw [List.take_succ_eq_append_getElem hk, List.all_append, ha]
  simp [hv]

theorem ret_bool {a b : Bool} (h : a = b) : Ending.returned (.bool a) = .returned (.bool b) := by rw [h]

def SetRes (ts : List Tk) (w : World) (e : Ending) (w' : World) : Prop := e = .returned (.bool (setB ts)) ∧ Below w.heap.size w w'

set_option maxHeartbeats 1000000 in
theorem iSetValid_any (w : World) (A : Option Addr) (n c : Nat) (ts : List Tk) (h : Tks w w.heap.size A n ts) (hn : n ≤ 1048576) :
    Calls Try.prog 30 #[.slice A n c] w (SetRes ts w) := by
  have H := Lib.hid h
  have hlen := h.len
  clear h
  by_cases h5 : 5 < n
  · have hs : Hid (setB ts = false) := by show setB ts = false; unfold setB; simp; omega
    clear hlen
    go_enter Try.func30, Try.ntmps30
    go_wp2
    go_ret
    exact ⟨by rw [hs.out]; rfl, Below.refl _ _⟩
  have HL := Lib.hid hlen
  clear hlen
  go_enter Try.func30, Try.ntmps30
  go_wp2
  go_loopw [10] (fun i wr => ∃ k : Nat, k ≤ n ∧ i = .int .i64 k ∧ Hid ((ts.take k).all Tk.ok = true) ∧ Below w.heap.size w wr) (fun i _ => n - (intOf i).toNat)
  case atStart => exact ⟨0, Nat.zero_le _, rfl, by show _ = _; rfl, Below.refl _ _⟩
  case round =>
    obtain ⟨k, hk, rfl, hall, hb⟩ := hrel
    by_cases hlt : k < n
    · obtain ⟨t, ht⟩ : ∃ t, ts[k]? = some t := ⟨ts[k]'(by rw [HL.out]; exact hlt), List.getElem?_eq_getElem _⟩
      obtain ⟨b, o, rfl, hbl, c0, c1, c2, c3, c4⟩ := (H.out.below hb).at_ k t ht
      have hsz := hb.size
      have HB := Lib.hid hb
      have HT := Lib.hid ht
      clear hb ht
      cases hv : t.ok
      · have hv' : validB t.lo t.hi t.du t.ev t.cr = false := hv
        have hs : Hid (setB ts = false) := setB_take_false HT.out hv
        clear hv
        go_wp2_with (go_at_call 64; refine (iTaskValid_any _ _ _ _ _ _).mono ?_; rintro e w' ⟨rfl, rfl⟩)
        go_ret
        exact ⟨by rw [hs.out]; rfl, bl_alloc (bl_alloc HB.out _) _⟩
      · have hv' : validB t.lo t.hi t.du t.ev t.cr = true := hv
        have ha : Hid ((ts.take (k + 1)).all Tk.ok = true) := all_take_succ HT.out hv hall.out
        clear hv
        go_wp2_with (go_at_call 64; refine (iTaskValid_any _ _ _ _ _ _).mono ?_; rintro e w' ⟨rfl, rfl⟩)
        go_roundw
        case rel => exact ⟨k + 1, by omega, by go_num, ha, bl_alloc (bl_alloc HB.out _) _⟩
        case measure => simp [intOf]; omega
    · obtain rfl : k = n := by omega
      have hs : Hid (setB ts = true) := by
        show setB ts = true
        unfold setB
        have h := hall.out
        rw [List.take_of_length_le (by rw [HL.out]; omega)] at h
        rw [h]; simp [HL.out]; omega
      have HB := Lib.hid hb
      clear hb
      go_wp2
      go_ret
      exact ⟨by rw [hs.out]; rfl, HB.out⟩

set_option maxHeartbeats 1000000 in
theorem sSetValid_any (w : World) (A : Option Addr) (n c : Nat) (ts : List Tk) (h : Tks w w.heap.size A n ts) (hn : n ≤ 1048576) :
    Calls Try.prog 57 #[.slice A n c] w (SetRes ts w) := by
  have H := Lib.hid h
  have HL := Lib.hid h.len
  clear h
  go_enter Try.func57, Try.ntmps57
  go_wp2
  go_loopw [3] (fun i wr => ∃ k : Nat, k ≤ n ∧ k ≤ 6 ∧ i = .int .i64 k ∧ Hid ((ts.take k).all Tk.ok = true) ∧ Below w.heap.size w wr) (fun i _ => n - (intOf i).toNat)
  case atStart => exact ⟨0, Nat.zero_le _, Nat.zero_le _, rfl, by show _ = _; rfl, Below.refl _ _⟩
  case round =>
    obtain ⟨k, hk, hk6, rfl, hall, hb⟩ := hrel
    by_cases hlt : k < n
    · by_cases h5 : k ≤ 5
      · obtain ⟨t, ht⟩ : ∃ t, ts[k]? = some t := ⟨ts[k]'(by rw [HL.out]; exact hlt), List.getElem?_eq_getElem _⟩
        obtain ⟨b, o, rfl, hbl, c0, c1, c2, c3, c4⟩ := (H.out.below hb).at_ k t ht
        have hsz := hb.size
        have HB := Lib.hid hb
        have HT := Lib.hid ht
        clear hb ht
        cases hv : t.ok
        · have hv' : validB t.lo t.hi t.du t.ev t.cr = false := hv
          have hs : Hid (setB ts = false) := setB_take_false HT.out hv
          clear hv
          go_wp2_with (go_at_call 83; refine (sTaskValid_any _ _ _ _ _ _).mono ?_; rintro e w' ⟨rfl, rfl⟩)
          go_ret
          exact ⟨by rw [hs.out]; rfl, bl_alloc HB.out _⟩
        · have hv' : validB t.lo t.hi t.du t.ev t.cr = true := hv
          have ha : Hid ((ts.take (k + 1)).all Tk.ok = true) := all_take_succ HT.out hv hall.out
          clear hv
          go_wp2_with (go_at_call 83; refine (sTaskValid_any _ _ _ _ _ _).mono ?_; rintro e w' ⟨rfl, rfl⟩)
          go_roundw
          case rel => exact ⟨k + 1, by omega, by omega, by go_num, ha, bl_alloc HB.out _⟩
          case measure => simp [intOf]; omega
      · have hs : Hid (setB ts = false) := by show setB ts = false; unfold setB; simp [HL.out]; omega
        have HB := Lib.hid hb
        clear hb
        go_wp2
        go_ret
        exact ⟨ret_bool (a := decide ((n : Int) ≤ 5)) (by rw [hs.out]; exact decide_eq_false (by omega)), HB.out⟩
    · obtain rfl : k = n := by omega
      have h := hall.out
      rw [List.take_of_length_le (by rw [HL.out]; omega)] at h
      have hs : Hid (setB ts = decide (k ≤ 5)) := by
        show setB ts = _
        unfold setB
        rw [h]; simp [HL.out]
      clear h
      have HB := Lib.hid hb
      clear hb
      by_cases h5 : k ≤ 5
      · go_wp2
        go_ret
        exact ⟨ret_bool (a := decide ((k : Int) ≤ 5)) (by rw [hs.out, decide_eq_true h5]; exact decide_eq_true (by omega)), HB.out⟩
      · go_wp2
        go_ret
        exact ⟨ret_bool (a := decide ((k : Int) ≤ 5)) (by rw [hs.out, decide_eq_false h5]; exact decide_eq_false (by omega)), HB.out⟩
end

section
/- Contracts of what the reference draws as a list of tasks. -/
open Go.RowKit

theorem info_task : (Try.prog.info? 36).map (fun i => (i.zero, i.size, i.bytes)) = some (some (.agg #[.int .i64 0, .int .i64 0, .int .i64 0, .int .i64 0, .bool false]), 5, 40) := by kernel_rfl

/-- The slice value v is the call's own (a block from B on) and holds the tasks ts. -/
def Own (w : World) (B : Nat) (v : Value) (ts : List Tk) : Prop := w.ownsRow B 36 5 v ts.length (ts.flatMap Tk.cells)

theorem cells_length (ts : List Tk) : (ts.flatMap Tk.cells).length = ts.length * 5 := by
  induction ts with
  | nil => rfl
  | cons t ts ih => simp [List.flatMap_cons, Tk.cells, ih]; omega

theorem cells_one (ts : List Tk) : ∀ u ∈ ts.flatMap Tk.cells, u.oneCell' = true := by
  intro u hu
  simp only [List.mem_flatMap, Tk.cells] at hu
  obtain ⟨t, _, h⟩ := hu
  simp at h
  rcases h with rfl | rfl | rfl | rfl | rfl <;> rfl

theorem cells_get (ts : List Tk) : ∀ (i : Nat) (t : Tk), ts[i]? = some t → ∀ (j : Nat), j < 5 → (ts.flatMap Tk.cells)[i * 5 + j]? = t.cells[j]? := by
  induction ts with
  | nil => intro i t h; simp at h
  | cons a ts ih =>
    intro i t h j hj
    cases i with
    | zero =>
      simp at h
      subst h
      rw [List.flatMap_cons, List.getElem?_append_left (by simp [Tk.cells]; omega)]
      simp
    | succ i =>
      rw [List.flatMap_cons, List.getElem?_append_right (by simp [Tk.cells]; omega)]
      have e : (i + 1) * 5 + j - a.cells.length = i * 5 + j := by simp [Tk.cells]; omega
      rw [e]
      exact ih i t (by simpa using h) j hj

/-- An owned row reads as its tasks. -/
theorem Own.reads {w : World} {B : Nat} {A : Option Addr} {n c : Nat} {ts : List Tk} (h : Own w B (.slice A n c) ts) : n = ts.length ∧ Tks w w.heap.size A n ts := by
  have hn : n = ts.length := by
    rcases h.2 with ⟨e, h0⟩ | ⟨g, cap, cur, e, _⟩
    · injection e; omega
    · injection e
  refine ⟨hn, hn.symm, fun i t ht => ?_⟩
  have hi : i < ts.length := (List.getElem?_eq_some_iff.1 ht).1
  rcases h.2 with ⟨e, h0⟩ | ⟨g, cap, cur, e, _, hg, _⟩
  · omega
  · injection e with e1 e2 e3
    subst e1
    have hlt : g < w.heap.size := by
      rcases Nat.lt_or_ge g w.heap.size with hlt | hge
      · exact hlt
      · rw [Array.getElem?_eq_none hge] at hg; cases hg
    have hc := h.cells (g := g) rfl
    have at_ : ∀ j u, j < 5 → t.cells[j]? = some u → w.cell? ⟨g, i * 5 + j, none⟩ = some u := by
      intro j u hj hu
      have := hc (i * 5 + j) u (by rw [cells_get ts i t ht j hj]; exact hu)
      have ea : (⟨g, 0, none⟩ : Addr).add (i * 5 + j) = ⟨g, i * 5 + j, none⟩ := by unfold Addr.add; split <;> simp_all
      rwa [ea] at this
    refine ⟨g, 0, rfl, hlt, ?_⟩
    rw [Nat.zero_add]
    exact ⟨at_ 0 _ (by omega) rfl, at_ 1 _ (by omega) rfl, at_ 2 _ (by omega) rfl, at_ 3 _ (by omega) rfl, at_ 4 _ (by omega) rfl⟩

theorem Own.kept {w w' : World} {B : Nat} {v : Value} {ts : List Tk} {row : Option Nat} (h : Own w B v ts) (hg : w.grownBy w' row) (hr : ∀ k, row = some k → k < B) : Own w' B v ts := by
  refine World.ownsRow.kept h hg ?_
  rcases he : v.ownBlock with _ | k
  · exact .inl rfl
  · right
    intro e
    have := (World.ownsRow.lt h k he).1
    have := hr k e.symm
    omega

theorem Own.alloc {w : World} {B : Nat} {v : Value} {ts : List Tk} (h : Own w B v ts) (o : Obj) : Own (w.alloc o) B v ts := World.ownsRow.alloc h o

theorem Own.form {w : World} {B : Nat} {v : Value} {ts : List Tk} (h : Own w B v ts) : ∃ A c, v = .slice A ts.length c := by
  rcases h.2 with ⟨e, h0⟩ | ⟨g, cap, cur, e, _⟩
  · exact ⟨none, 0, by rw [e, h0]⟩
  · exact ⟨_, cap, e⟩

theorem cell_new5 (w : World) (t : Tk) (ty : TypeId) : ∀ j u, t.cells[j]? = some u → (w.alloc (.cells #[.int .i64 t.lo, .int .i64 t.hi, .int .i64 t.du, .int .i64 t.ev, .bool t.cr] ty)).cell? ((⟨w.heap.size, 0, none⟩ : Addr).add j) = some u := by
  intro j u hj
  have ea : (⟨w.heap.size, 0, none⟩ : Addr).add j = ⟨w.heap.size, j, none⟩ := by unfold Addr.add; split <;> simp_all
  rw [ea, (Blk.new w ty _).cell j, ← hj]
  simp [Tk.cells]

theorem cell_new5_at (w : World) (t : Tk) (ty : TypeId) (g : Nat) (hg : g = w.heap.size) : ∀ j u, t.cells[j]? = some u → (w.alloc (.cells #[.int .i64 t.lo, .int .i64 t.hi, .int .i64 t.du, .int .i64 t.ev, .bool t.cr] ty)).cell? ((⟨g, 0, none⟩ : Addr).add j) = some u := by
  subst hg; exact cell_new5 w t ty

theorem Own.snoc {w : World} {B : Nat} {v : Value} {ts : List Tk} {t : Tk} (h : w.ownsRow B 36 5 v (ts.length + 1) (ts.flatMap Tk.cells ++ t.cells)) : Own w B v (ts ++ [t]) := by
  unfold Own
  rw [List.flatMap_append, List.length_append]
  simpa using h

def goodTk (t : Tk) : Prop := goodT t.lo t.hi t.du t.ev t.cr
def smallTk (t : Tk) : Prop := smallT t.lo t.hi t.du t.ev t.cr

/-- What a draw of a list of tasks leaves. -/
def LsOut (B g : Nat) (A : Option Addr) (n c : Nat) (f : Nat → Int) (p d m : Nat) (good : Tk → Prop) (w : World) (e : Ending) (w' : World) : Prop :=
  ∃ (v : Value) (ts : List Tk) (p' : Nat), e = .returned v ∧ ts.length ≤ m ∧ (∀ t ∈ ts, good t) ∧ p' ≤ p + d ∧ Rd w' B g A n c f p' ∧ w.grownBy w' (some g) ∧ Own w' w.heap.size v ts

set_option maxRecDepth 100000 in
set_option maxHeartbeats 1000000 in
theorem set_any (w : World) (B g : Nat) (A : Option Addr) (n c : Nat) (f : Nat → Int) (p : Nat) (hr : Rd w B g A n c f p) (hp : p ≤ 10000) :
    Calls Try.prog 88 #[.pointer (some ⟨g, 0, none⟩)] w (LsOut B g A n c f p 40 5 goodTk w) := by
  obtain ⟨i0, hi, hz0, hz1, hz2⟩ := info_parts info_task
  have HR := Lib.hid hr
  have hgl := hr.lt
  have hBg := hr.ge
  clear hr
  go_enter Try.func88, Try.ntmps88
  go_wp2_with fail
  refine (num_any _ B g A n c f p _ 6 0 5 ((HR.out.alloc _).alloc _) (by omega) (by omega) (by omega) (by simp; omega) ?_).mono ?_
  · exact lit_cells_at _ _ _ _ _ _ (by simp) (fun i hi => by rcases (by omega : i = 0 ∨ i = 1 ∨ i = 2 ∨ i = 3 ∨ i = 4 ∨ i = 5) with rfl | rfl | rfl | rfl | rfl | rfl <;> exact ⟨_, rfl, by decide, by decide⟩)
  rintro e w1 ⟨m, rfl, hm0, hm1, hr1, hg1⟩
  obtain ⟨m, rfl⟩ := Int.eq_ofNat_of_zero_le hm0
  have hm : m ≤ 5 := by omega
  have own1 : Own w1 w.heap.size (.slice (some ⟨w.heap.size, 0, none⟩) 0 0) [] := by
    have b0 : Blk w1 w.heap.size 36 #[] := ((Blk.new w 36 _).alloc _).grown hg1 (by intro e; injection e; omega)
    exact ⟨rfl, .inr ⟨w.heap.size, 0, #[], rfl, Nat.le_refl _, b0, Nat.le_refl _, Nat.zero_le _, rfl, rfl⟩⟩
  have hgw1 : w.grownBy w1 (some g) := gb_trans (gb_alloc (gb_alloc (World.grownBy.refl w _) _) _) hg1 (fun x e => .inl (by injection e with e; exact e.symm))
  have HR1 := Lib.hid hr1
  have HG1 := Lib.hid hgw1
  have HO1 := Lib.hid own1
  clear hr1 hg1 hgw1 own1
  go_wp2
  go_loopw [3, 4] (fun v i wr => ∃ (j : Nat) (ts : List Tk) (p' : Nat), i = .int .i64 j ∧ ts.length + j ≤ 5 ∧ p' ≤ p + 2 + ts.length * 6 ∧ Hid (∀ t ∈ ts, goodTk t) ∧ Rd wr B g A n c f p' ∧ w.grownBy wr (some g) ∧ Own wr w.heap.size v ts) (fun _ i _ => (intOf i).toNat)
  case atStart => exact ⟨m, [], p + 1, rfl, by simpa using hm, by omega, fun t ht => by simp at ht, HR1.out, HG1.out, HO1.out⟩
  case round =>
    obtain ⟨j, ts, p', rfl, hj, hp', hgood, hr2, hg2, ho2⟩ := hrel
    have HR2 := Lib.hid hr2
    have HG2 := Lib.hid hg2
    have HO2 := Lib.hid ho2
    clear hr2 hg2 ho2
    by_cases h0 : 0 < j
    · go_wp2_with fail
      refine (task_any _ B g A n c f p' HR2.out (by omega)).mono ?_
      rintro e w3 ⟨lo, hi', du, ev, cr, p3, rfl, hg, hp3, hr3, hgb3⟩
      have HO3 := Lib.hid (HO2.out.kept hgb3 (fun k e => by injection e with e; omega))
      have HG3 := Lib.hid (gb_trans HG2.out hgb3 (fun x e => .inl (by injection e with e; exact e.symm)))
      have HR3 := Lib.hid hr3
      have hsz3 : w.heap.size ≤ w3.heap.size := HG3.out.size
      clear hr3 hgb3
      have b1 : ts.length + 1 ≤ maxLen := by unfold maxLen; omega
      have b2 : (ts.length + 1) * 40 ≤ 140737488355328 := by omega
      go_wp2_with (at_builtin; refine wpList_append_own _ rfl (.tmp 13) (.tmp 16) 23 rfl w.heap.size 36 i0 _ 5 40 Try.underlying23 hi hz0 hz1 hz2 rfl (by decide) _ ts.length (ts.flatMap Tk.cells) rfl (HO3.out.alloc _) ⟨w3.heap.size, 0, none⟩ 1 1 (Tk.cells ⟨lo, hi', du, ev, cr⟩) rfl rfl (cell_new5 _ ⟨lo, hi', du, ev, cr⟩ _) (by intro u hu; exact cells_one [⟨lo, hi', du, ev, cr⟩] u (by simpa using hu)) b1 b2 (by simp; omega) ?_; intro v' w4 hown' hgrow _)
      have HO4 := Lib.hid (Own.snoc hown')
      have HG4 := Lib.hid (gb_trans (gb_alloc HG3.out _) hgrow (fun x e => .inr ((World.ownsRow.lt HO3.out x e).1)))
      have HR4 := Lib.hid ((HR3.out.alloc _).grown hgrow (fun k e => by have := (World.ownsRow.lt HO3.out k e).1; exact ⟨by omega, by omega⟩))
      have hgood' : Hid (∀ t ∈ ts ++ [⟨lo, hi', du, ev, cr⟩], goodTk t) := fun t ht => by
        rcases List.mem_append.1 ht with h | h
        · exact hgood.out t h
        · simp at h; subst h; exact hg
      clear hown' hgrow hg
      go_wp2
      go_roundw
      case rel => exact ⟨j - 1, ts ++ [⟨lo, hi', du, ev, cr⟩], p3, by go_num, by simp; omega, by simp; omega, hgood', HR4.out, HG4.out, HO4.out⟩
      case measure => simp [intOf]; omega
    · obtain rfl : j = 0 := by omega
      go_wp2
      go_ret
      exact ⟨_, ts, p', rfl, by omega, hgood.out, by omega, HR2.out, HG2.out, HO2.out⟩
end

section
/- Lists of tasks of the call's own: the empty one, what is kept, results. -/
open Go.RowKit

theorem setB_len {ts : List Tk} (h : setB ts = true) : ts.length ≤ 5 := by
  unfold setB at h; simp at h; exact h.1
/-- A list of tasks as the result: in memory of its own; nothing that was there is written. -/
def LsRes (ts : List Tk) (w : World) (e : Ending) (w' : World) : Prop :=
  ∃ (A : Option Addr) (c : Nat), e = .returned (.slice A ts.length c) ∧ Own w' w.heap.size (.slice A ts.length c) ts ∧ Below w.heap.size w w'
theorem Own.nil_ (w : World) (B : Nat) : Own w B (.slice none 0 0) [] := ⟨rfl, .inl ⟨rfl, rfl⟩⟩
theorem lsRes_of {w w' : World} {v : Value} {ts ts' : List Tk} (ho : Own w' w.heap.size v ts) (hb : Below w.heap.size w w') (he : ts = ts') : LsRes ts' w (.returned v) w' := by
  subst he
  obtain ⟨A, c, rfl⟩ := ho.form
  exact ⟨A, c, rfl, ho, hb⟩
theorem Own.empty (w : World) : Own (w.alloc (.cells #[] 36)) w.heap.size (.slice (some ⟨w.heap.size, 0, none⟩) 0 0) [] :=
  ⟨rfl, .inr ⟨w.heap.size, 0, #[], rfl, Nat.le_refl _, heap_alloc_new w _, Nat.le_refl _, Nat.zero_le _, rfl, rfl⟩⟩
theorem Own.below {w w' : World} {B : Nat} {v : Value} {ts : List Tk} (h : Own w B v ts) (hb : Below w.heap.size w w') : Own w' B v ts :=
  h.kept (row := none) ⟨hb.os, hb.tape, hb.output, hb.size, fun k hk _ => hb.block k hk⟩ (fun k e => by cases e)
theorem own_more {w : World} {B B' : Nat} {v : Value} {ts : List Tk} (h : Own w B v ts) (hB : B' ≤ B) : Own w B' v ts := by
  refine ⟨h.1, ?_⟩
  rcases h.2 with h | ⟨g, cap, cur, e, hb, rest⟩
  · exact .inl h
  · exact .inr ⟨g, cap, cur, e, Nat.le_trans hB hb, rest⟩
end

section
/- Contracts of what the reference draws as a list of tasks, some of them wrong. -/
open Go.RowKit

def sliceLen : Value → Nat
  | .slice _ n _ => n
  | _ => 0

theorem set_cells (ts : List Tk) : ∀ (k : Nat) (t : Tk), k < ts.length →
    (((((ts.flatMap Tk.cells).set (k * 5) (.int .i64 t.lo)).set (k * 5 + 1) (.int .i64 t.hi)).set (k * 5 + 2) (.int .i64 t.du)).set (k * 5 + 3) (.int .i64 t.ev)).set (k * 5 + 4) (.bool t.cr) = (ts.set k t).flatMap Tk.cells := by
  induction ts with
  | nil => intro k t h; simp at h
  | cons a ts ih =>
    intro k t h
    cases k with
    | zero => simp [List.flatMap_cons, Tk.cells]
    | succ k =>
      have e0 : (k + 1) * 5 = k * 5 + 5 := by omega
      simp only [List.flatMap_cons, Tk.cells, List.set_cons_succ, e0, List.cons_append, List.nil_append]
      rw [← ih k t (by simpa using h)]

theorem Own.put {w : World} {B h n c : Nat} {ts : List Tk} (ho : Own w B (.slice (some ⟨h, 0, none⟩) n c) ts) (k : Nat) (t : Tk) (hk : k < ts.length) :
    Own (((((w.setCell ⟨h, k * 5, none⟩ (.int .i64 t.lo)).setCell ⟨h, k * 5 + 1, none⟩ (.int .i64 t.hi)).setCell ⟨h, k * 5 + 2, none⟩ (.int .i64 t.du)).setCell ⟨h, k * 5 + 3, none⟩ (.int .i64 t.ev)).setCell ⟨h, k * 5 + 4, none⟩ (.bool t.cr)) B (.slice (some ⟨h, 0, none⟩) n c) (ts.set k t) := by
  have hn := ho.reads.1
  subst hn
  have h5 := (((((World.ownsRow.stored ho (k * 5) (.int .i64 t.lo)).1.stored (k * 5 + 1) (.int .i64 t.hi)).1.stored (k * 5 + 2) (.int .i64 t.du)).1.stored (k * 5 + 3) (.int .i64 t.ev)).1.stored (k * 5 + 4) (.bool t.cr)).1
  unfold Own
  rw [List.length_set, ← set_cells ts k t hk]
  exact h5

theorem mem_set_small {ts : List Tk} {k : Nat} {t : Tk} {P : Tk → Prop} (h : ∀ t ∈ ts, P t) (ht : P t) : ∀ x ∈ ts.set k t, P x := fun x hx => by
  rcases List.mem_or_eq_of_mem_set hx with h1 | h1
  · exact h x h1
  · rw [h1]; exact ht

set_option maxRecDepth 100000 in
set_option maxHeartbeats 2000000 in
theorem some_any (w : World) (B g : Nat) (A : Option Addr) (n c : Nat) (f : Nat → Int) (p : Nat) (hr : Rd w B g A n c f p) (hp : p ≤ 1000) :
    Calls Try.prog 66 #[.pointer (some ⟨g, 0, none⟩)] w (LsOut B g A n c f p 100 6 smallTk w) := by
  obtain ⟨i0, hi, hz0, hz1, hz2⟩ := info_parts info_task
  have HR0 := Lib.hid hr
  have hgl := hr.lt
  have hBg := hr.ge
  clear hr
  go_enter Try.func66, Try.ntmps66
  go_wp2_with fail
  refine (set_any _ B g A n c f p HR0.out (by omega)).mono ?_
  rintro e w1 ⟨v, ts, p1, rfl, hl1, hg1, hp1, hr1, hgb1, ho1⟩
  obtain ⟨A1, c1, rfl⟩ := ho1.form
  have HR := Lib.hid hr1
  have HG := Lib.hid hgb1
  have HO := Lib.hid ho1
  have HS := Lib.hid (fun t ht => (hg1 t ht).small : ∀ t ∈ ts, smallTk t)
  clear hr1 hgb1 ho1 hg1
  by_cases h0 : ts.length = 0
  · have h0' : ¬ 0 < ts.length := by omega
    clear h0
    go_wp2_with fail
    refine (pick_any _ B g A n c f _ 24 HR.out (by omega) (by omega)).mono ?_
    rintro e w4 ⟨y, rfl, hy0, _, _, hr4, hg4⟩
    have HR4 := Lib.hid hr4
    have HG4 := Lib.hid (gb_trans HG.out hg4 (fun x e => .inl (by injection e with e; exact e.symm)))
    have HO4 := Lib.hid (HO.out.kept hg4 (fun k e => by injection e with e; omega))
    clear hr4 hg4 HR HG HO
    by_cases hy : y = 0
    · subst hy
      go_wp2
      go_loopw [3] (fun v wr => ∃ (ts : List Tk) (p' : Nat), ts.length ≤ 6 ∧ p' ≤ p + 60 + ts.length * 6 ∧ Hid (∀ t ∈ ts, smallTk t) ∧ Rd wr B g A n c f p' ∧ w.grownBy wr (some g) ∧ Own wr w.heap.size v ts) (fun v _ => 7 - sliceLen v)
      case atStart => exact ⟨ts, _, by omega, by omega, HS.out, HR4.out, HG4.out, HO4.out⟩
      case round =>
        obtain ⟨ts5, p5, hl5, hp5, hgood5, hr5, hg5, ho5⟩ := hrel
        obtain ⟨A5, c5, rfl⟩ := ho5.form
        have HR5 := Lib.hid hr5
        have HG5 := Lib.hid hg5
        have HO5 := Lib.hid ho5
        clear hr5 hg5 ho5
        by_cases h6 : ts5.length ≤ 5
        · go_wp2_with fail
          refine (task_any _ B g A n c f p5 HR5.out (by omega)).mono ?_
          rintro e w6 ⟨lo, hi', du, ev, cr, p6, rfl, hg, hp6, hr6, hgb6⟩
          have HO6 := Lib.hid (HO5.out.kept hgb6 (fun k e => by injection e with e; omega))
          have HG6 := Lib.hid (gb_trans HG5.out hgb6 (fun x e => .inl (by injection e with e; exact e.symm)))
          have HR6 := Lib.hid hr6
          have hsz6 : w.heap.size ≤ w6.heap.size := HG6.out.size
          clear hr6 hgb6
          have b1 : ts5.length + 1 ≤ maxLen := by unfold maxLen; omega
          have b2 : (ts5.length + 1) * 40 ≤ 140737488355328 := by omega
          go_wp2_with (at_builtin; refine wpList_append_own _ rfl (.tmp 29) (.tmp 32) 23 rfl w.heap.size 36 i0 _ 5 40 Try.underlying23 hi hz0 hz1 hz2 rfl (by decide) _ ts5.length (ts5.flatMap Tk.cells) rfl (HO6.out.alloc _) ⟨w6.heap.size, 0, none⟩ 1 1 (Tk.cells ⟨lo, hi', du, ev, cr⟩) rfl rfl (cell_new5 _ ⟨lo, hi', du, ev, cr⟩ _) (by intro u hu; exact cells_one [⟨lo, hi', du, ev, cr⟩] u (by simpa using hu)) b1 b2 (by simp; omega) ?_; intro v' w7 hown' hgrow _)
          have HO7 := Lib.hid (Own.snoc hown')
          have HG7 := Lib.hid (gb_trans (gb_alloc HG6.out _) hgrow (fun x e => .inr ((World.ownsRow.lt HO6.out x e).1)))
          have HR7 := Lib.hid ((HR6.out.alloc _).grown hgrow (fun k e => by have := (World.ownsRow.lt HO6.out k e).1; exact ⟨by omega, by omega⟩))
          have hgood' : Hid (∀ t ∈ ts5 ++ [⟨lo, hi', du, ev, cr⟩], smallTk t) := fun t ht => by
            rcases List.mem_append.1 ht with h | h
            · exact hgood5.out t h
            · simp at h; subst h; exact hg.small
          have hl7 : sliceLen v' = ts5.length + 1 := by obtain ⟨_, _, e⟩ := HO7.out.form; rw [e]; simp [sliceLen]
          have HL7 := Lib.hid hl7
          clear hown' hgrow hg hl7
          go_wp2
          go_roundw
          case rel => exact ⟨ts5 ++ [⟨lo, hi', du, ev, cr⟩], p6, by simp; omega, by simp; omega, hgood', HR7.out, HG7.out, HO7.out⟩
          case measure => have := HL7.out; simp [sliceLen] at this ⊢; omega
        · go_wp2
          go_ret
          exact ⟨_, ts5, p5, rfl, hl5, hgood5.out, by omega, HR5.out, HG5.out, HO5.out⟩
    · have ty : (y == 0) = false := by simpa using hy
      clear hy
      go_wp2
      go_ret
      exact ⟨_, ts, _, rfl, by omega, HS.out, by omega, HR4.out, HG4.out, HO4.out⟩
  · have h0' : 0 < ts.length := by omega
    clear h0
    obtain ⟨h, hA1⟩ : ∃ h, A1 = some ⟨h, 0, none⟩ := by
      rcases HO.out.2 with ⟨e, e0⟩ | ⟨h, cap, cur, e, _⟩
      · omega
      · injection e with e1 e2 e3; exact ⟨h, e1⟩
    subst hA1
    go_wp2_with fail
    refine (pick_any _ B g A n c f _ (ts.length : Int) HR.out (by omega) (by omega)).mono ?_
    rintro e w2 ⟨k, rfl, hk0, hk1, _, hr2, hg2⟩
    obtain ⟨k, rfl⟩ := Int.eq_ofNat_of_zero_le hk0
    have hk : k < ts.length := by have := hk1 (by omega); omega
    clear hk1
    have HR2 := Lib.hid hr2
    have HG2 := Lib.hid (gb_trans HG.out hg2 (fun x e => .inl (by injection e with e; exact e.symm)))
    have HO2 := Lib.hid (HO.out.kept hg2 (fun k e => by injection e with e; omega))
    clear hr2 hg2 HR HG HO
    obtain ⟨t, ht⟩ : ∃ t, ts[k]? = some t := ⟨ts[k], List.getElem?_eq_getElem hk⟩
    have hst := HS.out t (List.mem_of_getElem? ht)
    obtain ⟨b, o, eA, hbl, c0, c1', c2, c3, c4⟩ := HO2.out.reads.2.at_ k t ht
    injection eA with eA
    injection eA with eA1 eA2
    subst eA1 eA2
    simp only [Nat.zero_add] at c0 c1' c2 c3 c4
    have HST := Lib.hid hst
    have HT := Lib.hid ht
    clear hst ht
    go_wp2_with fail
    refine (wrong_any _ B g A n c f _ t.lo t.hi t.du t.ev t.cr HR2.out (by omega) HST.out).mono ?_
    rintro e w3 ⟨lo, hi', du, ev, cr, p3, rfl, hs3, hp3, hr3, hg3⟩
    clear c0 c1' c2 c3 c4
    have HR3 := Lib.hid hr3
    have HG3 := Lib.hid (gb_trans HG2.out hg3 (fun x e => .inl (by injection e with e; exact e.symm)))
    have HO3 := Lib.hid (HO2.out.kept hg3 (fun k e => by injection e with e; omega))
    have hge : w.heap.size ≤ h := (World.ownsRow.lt HO3.out h rfl).1
    have hfz := World.ownsRow.frozenAt HO3.out
    obtain ⟨b, o, eA, hbl, c0, c1', c2, c3, c4⟩ := HO3.out.reads.2.at_ k t HT.out
    injection eA with eA
    injection eA with eA1 eA2
    subst eA1 eA2
    simp only [Nat.zero_add] at c0 c1' c2 c3 c4
    have HS3 := Lib.hid hs3
    clear hr3 hg3 hs3
    go_wp2_with fail
    have HO := Lib.hid (HO3.out.put k ⟨lo, hi', du, ev, cr⟩ hk)
    have HR : Hid (Rd _ B g A n c f p3) := Rd.set (Rd.set (Rd.set (Rd.set (Rd.set HR3.out (q := ⟨h, k * 5, none⟩) (by dsimp only; omega) (by dsimp only; omega) (.int .i64 lo)) (q := ⟨h, k * 5 + 1, none⟩) (by dsimp only; omega) (by dsimp only; omega) (.int .i64 hi')) (q := ⟨h, k * 5 + 2, none⟩) (by dsimp only; omega) (by dsimp only; omega) (.int .i64 du)) (q := ⟨h, k * 5 + 3, none⟩) (by dsimp only; omega) (by dsimp only; omega) (.int .i64 ev)) (q := ⟨h, k * 5 + 4, none⟩) (by dsimp only; omega) (by dsimp only; omega) (.bool cr)
    have HG : Hid (w.grownBy _ (some g)) := gb_set (gb_set (gb_set (gb_set (gb_set HG3.out (p := ⟨h, k * 5, none⟩) (.inr (by dsimp only; omega)) (.int .i64 lo)) (p := ⟨h, k * 5 + 1, none⟩) (.inr (by dsimp only; omega)) (.int .i64 hi')) (p := ⟨h, k * 5 + 2, none⟩) (.inr (by dsimp only; omega)) (.int .i64 du)) (p := ⟨h, k * 5 + 3, none⟩) (.inr (by dsimp only; omega)) (.int .i64 ev)) (p := ⟨h, k * 5 + 4, none⟩) (.inr (by dsimp only; omega)) (.bool cr)
    obtain ⟨ts', hts', hlen'⟩ : ∃ ts', ts' = ts.set k ⟨lo, hi', du, ev, cr⟩ ∧ ts'.length = ts.length := ⟨_, rfl, by simp⟩
    have HSS : Hid (∀ t ∈ ts', smallTk t) := by rw [hts']; exact mem_set_small HS.out HS3.out
    clear HS
    have HS := HSS
    clear HSS
    rw [← hts'] at HO
    clear c0 c1' c2 c3 c4 hfz hts'
    have hlen6 : ts'.length ≤ 5 := by omega
    have HLL := Lib.hid hlen'
    clear hlen'
    refine (pick_any _ B g A n c f _ 24 HR.out (by omega) (by omega)).mono ?_
    rintro e w4 ⟨y, rfl, hy0, _, _, hr4, hg4⟩
    have HR4 := Lib.hid hr4
    have HG4 := Lib.hid (gb_trans HG.out hg4 (fun x e => .inl (by injection e with e; exact e.symm)))
    have HO4 := Lib.hid (HO.out.kept hg4 (fun k e => by injection e with e; omega))
    clear hr4 hg4 HR HG HO
    by_cases hy : y = 0
    · subst hy
      go_wp2
      go_loopw [3] (fun v wr => ∃ (ts : List Tk) (p' : Nat), ts.length ≤ 6 ∧ p' ≤ p + 60 + ts.length * 6 ∧ Hid (∀ t ∈ ts, smallTk t) ∧ Rd wr B g A n c f p' ∧ w.grownBy wr (some g) ∧ Own wr w.heap.size v ts) (fun v _ => 7 - sliceLen v)
      case atStart => exact ⟨ts', _, by omega, by omega, HS.out, HR4.out, HG4.out, HO4.out⟩
      case round =>
        obtain ⟨ts5, p5, hl5, hp5, hgood5, hr5, hg5, ho5⟩ := hrel
        obtain ⟨A5, c5, rfl⟩ := ho5.form
        have HR5 := Lib.hid hr5
        have HG5 := Lib.hid hg5
        have HO5 := Lib.hid ho5
        clear hr5 hg5 ho5
        by_cases h6 : ts5.length ≤ 5
        · go_wp2_with fail
          refine (task_any _ B g A n c f p5 HR5.out (by omega)).mono ?_
          rintro e w6 ⟨lo, hi', du, ev, cr, p6, rfl, hg, hp6, hr6, hgb6⟩
          have HO6 := Lib.hid (HO5.out.kept hgb6 (fun k e => by injection e with e; omega))
          have HG6 := Lib.hid (gb_trans HG5.out hgb6 (fun x e => .inl (by injection e with e; exact e.symm)))
          have HR6 := Lib.hid hr6
          have hsz6 : w.heap.size ≤ w6.heap.size := HG6.out.size
          clear hr6 hgb6
          have b1 : ts5.length + 1 ≤ maxLen := by unfold maxLen; omega
          have b2 : (ts5.length + 1) * 40 ≤ 140737488355328 := by omega
          go_wp2_with (at_builtin; refine wpList_append_own _ rfl (.tmp 29) (.tmp 32) 23 rfl w.heap.size 36 i0 _ 5 40 Try.underlying23 hi hz0 hz1 hz2 rfl (by decide) _ ts5.length (ts5.flatMap Tk.cells) rfl (HO6.out.alloc _) ⟨w6.heap.size, 0, none⟩ 1 1 (Tk.cells ⟨lo, hi', du, ev, cr⟩) rfl rfl (cell_new5 _ ⟨lo, hi', du, ev, cr⟩ _) (by intro u hu; exact cells_one [⟨lo, hi', du, ev, cr⟩] u (by simpa using hu)) b1 b2 (by simp; omega) ?_; intro v' w7 hown' hgrow _)
          have HO7 := Lib.hid (Own.snoc hown')
          have HG7 := Lib.hid (gb_trans (gb_alloc HG6.out _) hgrow (fun x e => .inr ((World.ownsRow.lt HO6.out x e).1)))
          have HR7 := Lib.hid ((HR6.out.alloc _).grown hgrow (fun k e => by have := (World.ownsRow.lt HO6.out k e).1; exact ⟨by omega, by omega⟩))
          have hgood' : Hid (∀ t ∈ ts5 ++ [⟨lo, hi', du, ev, cr⟩], smallTk t) := fun t ht => by
            rcases List.mem_append.1 ht with h | h
            · exact hgood5.out t h
            · simp at h; subst h; exact hg.small
          have hl7 : sliceLen v' = ts5.length + 1 := by obtain ⟨_, _, e⟩ := HO7.out.form; rw [e]; simp [sliceLen]
          have HL7 := Lib.hid hl7
          clear hown' hgrow hg hl7
          go_wp2
          go_roundw
          case rel => exact ⟨ts5 ++ [⟨lo, hi', du, ev, cr⟩], p6, by simp; omega, by simp; omega, hgood', HR7.out, HG7.out, HO7.out⟩
          case measure => have := HL7.out; simp [sliceLen] at this ⊢; omega
        · go_wp2
          go_ret
          exact ⟨_, ts5, p5, rfl, hl5, hgood5.out, by omega, HR5.out, HG5.out, HO5.out⟩
    · have ty : (y == 0) = false := by simpa using hy
      clear hy
      go_wp2
      go_ret
      exact ⟨_, ts', _, rfl, by omega, HS.out, by omega, HR4.out, HG4.out, HO4.out⟩

def DrewList (m : Nat) (good : Tk → Prop) (w : World) (e : Ending) (w' : World) : Prop :=
  ∃ (A : Option Addr) (c : Nat) (ts : List Tk), e = .returned (.slice A ts.length c) ∧ ts.length ≤ m ∧ (∀ t ∈ ts, good t) ∧ Own w' w.heap.size (.slice A ts.length c) ts ∧ Below w.heap.size w w'
end

section
/- Contracts of what the exact laws do with lists: count, copy, compare, mark, and look at the marks again. -/
open Go.RowKit

set_option maxHeartbeats 400000 in
theorem sz_any (w : World) (A : Option Addr) (n c : Nat) (hn : n ≤ 9223372036854775807) :
    Calls Try.prog 41 #[.slice A n c, .int .i64 1048576] w fun e w' => e = .returned (.int .i64 (if 1048576 < (n : Int) then -1 else 1048576 - (n : Int))) ∧ w = w' := by
  by_cases h : 1048576 < n
  · go_enter Try.func41, Try.ntmps41
    go_wp2
    go_ret
    exact ⟨rfl, rfl⟩
  · go_enter Try.func41, Try.ntmps41
    go_wp2
    go_ret
    exact ⟨rfl, rfl⟩

theorem Own.frozen {w : World} {B g n c : Nat} {ts : List Tk} (h : Own w B (.slice (some ⟨g, 0, none⟩) n c) ts) : ∀ i, w.frozen? ⟨g, i, none⟩ = false := by
  have hn := h.reads.1
  subst hn
  exact World.ownsRow.frozenAt h

def zeroTk : Tk := ⟨0, 0, 0, 0, false⟩

theorem info_zero : zeroTk.cells = [.int .i64 0, .int .i64 0, .int .i64 0, .int .i64 0, .bool false] := rfl

theorem zero_cells (n : Nat) : (madeCells (Value.agg #[.int .i64 0, .int .i64 0, .int .i64 0, .int .i64 0, .bool false]).cells (n * 5)).toList = (List.replicate n zeroTk).flatMap Tk.cells := by
  have hl : ∀ m : Nat, (List.replicate m zeroTk).flatMap Tk.cells = (List.range (m * 5)).map fun j => if j % 5 = 4 then Value.bool false else .int .i64 0 := by
    intro m
    induction m with
    | zero => rfl
    | succ m ih =>
      rw [List.replicate_succ', List.flatMap_append, ih]
      have e : (m + 1) * 5 = m * 5 + 1 + 1 + 1 + 1 + 1 := by omega
      rw [e, List.range_succ, List.range_succ, List.range_succ, List.range_succ, List.range_succ]
      have q0 : ¬ (m * 5) % 5 = 4 := by omega
      have q1 : ¬ (m * 5 + 1) % 5 = 4 := by omega
      have q2 : ¬ (m * 5 + 1 + 1) % 5 = 4 := by omega
      have q3 : ¬ (m * 5 + 1 + 1 + 1) % 5 = 4 := by omega
      have q4 : (m * 5 + 1 + 1 + 1 + 1) % 5 = 4 := by omega
      simp only [List.map_append, List.map_cons, List.map_nil, q0, q1, q2, q3, q4, if_true, if_false, List.append_assoc, List.flatMap_cons, List.flatMap_nil, List.append_nil]
      rfl
  rw [hl]
  have hz : (Value.agg #[.int .i64 0, .int .i64 0, .int .i64 0, .int .i64 0, .bool false]).cells = #[.int .i64 0, .int .i64 0, .int .i64 0, .int .i64 0, .bool false] := rfl
  unfold madeCells
  rw [hz, Array.toList_map, Array.toList_range]
  refine List.map_congr_left fun j _ => ?_
  show (#[Value.int .i64 0, .int .i64 0, .int .i64 0, .int .i64 0, .bool false])[j % 5]! = _
  rcases (by omega : j % 5 = 0 ∨ j % 5 = 1 ∨ j % 5 = 2 ∨ j % 5 = 3 ∨ j % 5 = 4) with h | h | h | h | h <;> rw [h] <;> rfl

/-- The list of the laws' own tasks reads as the tasks ts (of another type of the same fields). -/
theorem take_put {ts : List Tk} {k : Nat} {t : Tk} (h : ts[k]? = some t) : (ts.take k ++ List.replicate (ts.length - k) zeroTk).set k t = ts.take (k + 1) ++ List.replicate (ts.length - (k + 1)) zeroTk := by
  obtain ⟨hk, rfl⟩ := List.getElem?_eq_some_iff.1 h
  rw [List.take_succ_eq_append_getElem hk]
  have e : ts.length - k = (ts.length - (k + 1)) + 1 := by omega
  rw [e, List.replicate_succ, List.set_append_right _ _ (by rw [List.length_take]; omega)]
  have e2 : k - (ts.take k).length = 0 := by rw [List.length_take]; omega
  rw [e2, List.set_cons_zero, List.append_assoc]
  rfl

set_option maxHeartbeats 1000000 in
theorem toTaskS_any (w : World) (A : Option Addr) (n c : Nat) (ts : List Tk) (h : Tks w w.heap.size A n ts) (hn : n ≤ 1048576) :
    Calls Try.prog 42 #[.slice A n c] w (LsRes ts w) := by
  obtain ⟨i0, hi, hz0, hz1, hz2⟩ := info_parts info_task
  have H := Lib.hid h
  have HL := Lib.hid h.len
  clear h
  go_enter Try.func42, Try.ntmps42
  go_wp2_with (at_make; refine wpList_make_full _ rfl _ _ 23 rfl w.heap.size 36 i0 _ 5 Try.underlying23 hi hz0 hz1 .i64 .i64 _ _ n rfl rfl rfl rfl (by rw [hz2]; omega) (by unfold maxLen; omega) (Nat.le_refl _) ?_; intro w2 hown0 hgrow0)
  have HO0 : Hid (Own w2 w.heap.size (.slice (some ⟨w.heap.size, 0, none⟩) n n) (List.replicate n zeroTk)) := by
    show w2.ownsRow _ _ _ _ _ _
    rw [← zero_cells, List.length_replicate]
    exact hown0
  have HB2 := Lib.hid ((Below.refl _ w).grown hgrow0 (Nat.le_refl _) (fun k e => by cases e))
  clear hown0 hgrow0
  go_loopw [4] (fun i wr => ∃ k : Nat, k ≤ n ∧ i = .int .i64 k ∧ Own wr w.heap.size (.slice (some ⟨w.heap.size, 0, none⟩) n n) (ts.take k ++ List.replicate (ts.length - k) zeroTk) ∧ Below w.heap.size w wr) (fun i _ => n - (intOf i).toNat)
  case atStart => exact ⟨0, Nat.zero_le _, rfl, by rw [HL.out]; exact HO0.out, HB2.out⟩
  case round =>
    obtain ⟨k, hk, rfl, ho, hb⟩ := hrel
    have HO := Lib.hid ho
    have HB := Lib.hid hb
    clear ho hb
    by_cases hlt : k < n
    · obtain ⟨t, ht⟩ : ∃ t, ts[k]? = some t := ⟨ts[k]'(by rw [HL.out]; exact hlt), List.getElem?_eq_getElem _⟩
      obtain ⟨b, o, rfl, hbl, c0, c1, c2, c3, c4⟩ := (H.out.below HB.out).at_ k t ht
      have HP := Lib.hid (take_put ht)
      obtain ⟨lo, hi', du, ev, cr⟩ := t
      dsimp only at c0 c1 c2 c3 c4
      clear ht
      go_wp2_with fail
      refine (toTask_any lo hi' du ev cr wr).mono ?_
      rintro e w3 ⟨rfl, hb3⟩
      clear c0 c1 c2 c3 c4
      have HB3 := Lib.hid (bl_trans HB.out hb3)
      have HO3 := Lib.hid (HO.out.below hb3)
      clear hb3
      have hlen : (ts.take k ++ List.replicate (ts.length - k) zeroTk).length = n := by simp [HL.out]; omega
      obtain ⟨t', ht'⟩ : ∃ t', (ts.take k ++ List.replicate (ts.length - k) zeroTk)[k]? = some t' := ⟨_, List.getElem?_eq_getElem (by omega)⟩
      have hfz := Own.frozen HO3.out
      obtain ⟨b', o', eA, hbl', c0, c1, c2, c3, c4⟩ := HO3.out.reads.2.at_ k t' ht'
      injection eA with eA
      injection eA with eA1 eA2
      subst eA1 eA2
      simp only [Nat.zero_add] at c0 c1 c2 c3 c4
      have HLN := Lib.hid hlen
      clear ht' hlen
      go_wp2
      go_roundw
      case rel => exact ⟨k + 1, by omega, by go_num, by rw [← HP.out]; exact HO3.out.put k ⟨lo, hi', du, ev, cr⟩ (by rw [HLN.out]; exact hlt), by repeat (first | exact HB3.out | refine bl_set ?_ (by dsimp only; omega) _)⟩
      case measure => simp [intOf]; omega
    · obtain rfl : k = n := by omega
      go_wp2
      go_ret
      exact lsRes_of HO.out HB.out (by rw [HL.out, List.take_of_length_le (by rw [HL.out]; omega)]; simp)
end

section
/- Contract of dmTasks: two lists of the same tasks are equal. -/
open Go.RowKit

def Same (w : World) (e : Ending) (w' : World) : Prop := e = .returned (.bool true) ∧ Below w.heap.size w w'

set_option maxHeartbeats 1000000 in
theorem dmTasks_any (w : World) (A A' : Option Addr) (n c c' : Nat) (ts : List Tk) (h : Tks w w.heap.size A n ts) (h' : Tks w w.heap.size A' n ts) (hn : n ≤ 1048576) :
    Calls Try.prog 34 #[.slice A n c, .slice A' n c'] w (Same w) := by
  have H := Lib.hid h
  have H' := Lib.hid h'
  have HL := Lib.hid h.len
  clear h h'
  go_enter Try.func34, Try.ntmps34
  go_wp2
  go_loopw [5] (fun i wr => ∃ k : Nat, k ≤ n ∧ i = .int .i64 k ∧ Below w.heap.size w wr) (fun i _ => n - (intOf i).toNat)
  case atStart => exact ⟨0, Nat.zero_le _, rfl, Below.refl _ _⟩
  case round =>
    obtain ⟨k, hk, rfl, hb⟩ := hrel
    have HB := Lib.hid hb
    clear hb
    by_cases hlt : k < n
    · obtain ⟨t, ht⟩ : ∃ t, ts[k]? = some t := ⟨ts[k]'(by rw [HL.out]; exact hlt), List.getElem?_eq_getElem _⟩
      obtain ⟨b, o, rfl, hbl, c0, c1, c2, c3, c4⟩ := (H.out.below HB.out).at_ k t ht
      obtain ⟨b', o', rfl, hbl', d0, d1, d2, d3, d4⟩ := (H'.out.below HB.out).at_ k t ht
      obtain ⟨lo, hi, du, ev, cr⟩ := t
      dsimp only at c0 c1 c2 c3 c4 d0 d1 d2 d3 d4
      clear ht
      have i1 : (0 : Int) ≤ (k : Int) := by omega
      have i2 : (k : Int) < (n : Int) := by omega
      go_wp2
      go_quiet (fail)
      go_wp2
      go_roundw
      case rel => exact ⟨k + 1, by omega, by go_num, bl_drewN HB.out _⟩
      case measure => simp [intOf]; omega
    · obtain rfl : k = n := by omega
      go_wp2
      go_ret
      exact ⟨rfl, HB.out⟩
end

section
/- Contracts of what the exact laws do with results: compare two lists, write marks into one, and look at the marks again. -/
open Go.RowKit

set_option maxHeartbeats 1000000 in
theorem eqTask_any (w : World) (lo hi du ev : Int) (cr : Bool) :
    Calls Try.prog 76 #[.agg #[.int .i64 lo, .int .i64 hi, .int .i64 du, .int .i64 ev, .bool cr], .agg #[.int .i64 lo, .int .i64 hi, .int .i64 du, .int .i64 ev, .bool cr]] w fun e w' =>
      e = .returned (.bool true) ∧ Below w.heap.size w w' := by
  go_enter Try.func76, Try.ntmps76
  go_wp2
  go_ret
  exact ⟨rfl, bl_alloc (bl_alloc (Below.refl _ _) _) _⟩

set_option maxHeartbeats 2000000 in
theorem eqTaskS_any (w : World) (A A' : Option Addr) (n c c' : Nat) (ts : List Tk) (h : Tks w w.heap.size A n ts) (h' : Tks w w.heap.size A' n ts) (hn : n ≤ 1048576) :
    Calls Try.prog 44 #[.slice A n c, .slice A' n c'] w (Same w) := by
  have H := Lib.hid h
  have H' := Lib.hid h'
  have HL := Lib.hid h.len
  clear h h'
  go_enter Try.func44, Try.ntmps44
  go_wp2
  go_loopw [5] (fun i wr => ∃ k : Nat, k ≤ n ∧ i = .int .i64 k ∧ Below w.heap.size w wr) (fun i _ => n - (intOf i).toNat)
  case atStart => exact ⟨0, Nat.zero_le _, rfl, Below.refl _ _⟩
  case round =>
    obtain ⟨k, hk, rfl, hb⟩ := hrel
    have HB := Lib.hid hb
    have hsz := hb.size
    clear hb
    by_cases hlt : k < n
    · obtain ⟨t, ht⟩ : ∃ t, ts[k]? = some t := ⟨ts[k]'(by rw [HL.out]; exact hlt), List.getElem?_eq_getElem _⟩
      obtain ⟨b, o, rfl, hbl, c0, c1, c2, c3, c4⟩ := (H.out.below HB.out).at_ k t ht
      obtain ⟨b', o', rfl, hbl', d0, d1, d2, d3, d4⟩ := (H'.out.below HB.out).at_ k t ht
      obtain ⟨lo, hi, du, ev, cr⟩ := t
      dsimp only at c0 c1 c2 c3 c4 d0 d1 d2 d3 d4
      clear ht
      have i1 : (0 : Int) ≤ (k : Int) := by omega
      have i2 : (k : Int) < (n : Int) := by omega
      go_wp2
      go_region_held3 (fun W => (W.cell? ⟨b, o + k * 5, none⟩ = some (.int .i64 lo) ∧ W.cell? ⟨b, o + k * 5 + 1, none⟩ = some (.int .i64 hi) ∧ W.cell? ⟨b, o + k * 5 + 2, none⟩ = some (.int .i64 du) ∧ W.cell? ⟨b, o + k * 5 + 3, none⟩ = some (.int .i64 ev) ∧ W.cell? ⟨b, o + k * 5 + 4, none⟩ = some (.bool cr)) ∧ W.cell? ⟨b', o' + k * 5, none⟩ = some (.int .i64 lo) ∧ W.cell? ⟨b', o' + k * 5 + 1, none⟩ = some (.int .i64 hi) ∧ W.cell? ⟨b', o' + k * 5 + 2, none⟩ = some (.int .i64 du) ∧ W.cell? ⟨b', o' + k * 5 + 3, none⟩ = some (.int .i64 ev) ∧ W.cell? ⟨b', o' + k * 5 + 4, none⟩ = some (.bool cr)) (first | assumption | (simp [go_sem, *]; done))
        ((go_at_call 76; refine (eqTask_any _ lo hi du ev cr).mono ?_; rintro e w' ⟨rfl, hb⟩; have c0' := (hb.cell (p := ⟨b, o + k * 5, none⟩) (Nat.lt_of_lt_of_le hbl hsz)).trans c0; have c1' := (hb.cell (p := ⟨b, o + k * 5 + 1, none⟩) (Nat.lt_of_lt_of_le hbl hsz)).trans c1; have c2' := (hb.cell (p := ⟨b, o + k * 5 + 2, none⟩) (Nat.lt_of_lt_of_le hbl hsz)).trans c2; have c3' := (hb.cell (p := ⟨b, o + k * 5 + 3, none⟩) (Nat.lt_of_lt_of_le hbl hsz)).trans c3; have c4' := (hb.cell (p := ⟨b, o + k * 5 + 4, none⟩) (Nat.lt_of_lt_of_le hbl hsz)).trans c4; have d0' := (hb.cell (p := ⟨b', o' + k * 5, none⟩) (Nat.lt_of_lt_of_le hbl' hsz)).trans d0; have d1' := (hb.cell (p := ⟨b', o' + k * 5 + 1, none⟩) (Nat.lt_of_lt_of_le hbl' hsz)).trans d1; have d2' := (hb.cell (p := ⟨b', o' + k * 5 + 2, none⟩) (Nat.lt_of_lt_of_le hbl' hsz)).trans d2; have d3' := (hb.cell (p := ⟨b', o' + k * 5 + 3, none⟩) (Nat.lt_of_lt_of_le hbl' hsz)).trans d3; have d4' := (hb.cell (p := ⟨b', o' + k * 5 + 4, none⟩) (Nat.lt_of_lt_of_le hbl' hsz)).trans d4; have HB3 : Hid (Below w.heap.size w w') := HB.out.trans ((show Below wr.heap.size wr w' from ⟨hb.os, hb.tape, hb.output, hb.size, hb.block⟩).mono hsz); clear hb))
      go_wp2
      go_roundw
      case rel => exact ⟨k + 1, by omega, by go_num, HB3.out⟩
      case measure => simp [intOf]; omega
    · obtain rfl : k = n := by omega
      go_wp2
      go_ret
      exact ⟨rfl, HB.out⟩

def markTk (k0 j : Nat) : Tk := ⟨(k0 + j * 5 : Nat), (k0 + j * 5 + 1 : Nat), (k0 + j * 5 + 2 : Nat), (k0 + j * 5 + 3 : Nat), ((k0 + j * 5 + 4 : Nat) : Int) % 3 == 0⟩
def marks (k0 n : Nat) : List Tk := (List.range n).map (markTk k0)

theorem marks_len (k0 n : Nat) : (marks k0 n).length = n := by simp [marks]
theorem marks_get {k0 n j : Nat} (h : j < n) : (marks k0 n)[j]? = some (markTk k0 j) := by
  unfold marks; rw [List.getElem?_map, List.getElem?_range h]; rfl
theorem marks_succ (k0 j : Nat) : marks k0 (j + 1) = marks k0 j ++ [markTk k0 j] := by
  unfold marks; rw [List.range_succ, List.map_append]; rfl
theorem marks_put {ts : List Tk} {k0 j : Nat} (h : j < ts.length) : (marks k0 j ++ ts.drop j).set j (markTk k0 j) = marks k0 (j + 1) ++ ts.drop (j + 1) := by
  rw [List.set_append_right _ _ (by rw [marks_len]; omega), marks_len, Nat.sub_self, List.drop_eq_getElem_cons h, List.set_cons_zero, marks_succ, List.append_assoc]
  rfl

def MarkRes (k0 n g : Nat) (B : Nat) (v : Value) (w : World) (e : Ending) (w' : World) : Prop :=
  e = .returned (.int .i64 ((k0 + n * 5 : Nat) : Int)) ∧ Own w' B v (marks k0 n) ∧ w.grownBy w' (some g)

set_option maxHeartbeats 2000000 in
theorem mark_any (w : World) (B g n c k0 : Nat) (ts : List Tk) (h : Own w B (.slice (some ⟨g, 0, none⟩) n c) ts) (hn : n ≤ 1048576) (hk0 : k0 ≤ 10) :
    Calls Try.prog 45 #[.slice (some ⟨g, 0, none⟩) n c, .int .i64 k0] w (MarkRes k0 n g B (.slice (some ⟨g, 0, none⟩) n c) w) := by
  have H := Lib.hid h
  have HL := Lib.hid h.reads.1
  clear h
  go_enter Try.func45, Try.ntmps45
  go_wp2
  go_loopw [1, 5] (fun q i wr => ∃ j : Nat, j ≤ n ∧ i = .int .i64 j ∧ q = .int .i64 ((k0 + j * 5 : Nat) : Int) ∧ Own wr B (.slice (some ⟨g, 0, none⟩) n c) (marks k0 j ++ ts.drop j) ∧ w.grownBy wr (some g)) (fun _ i _ => n - (intOf i).toNat)
  case atStart => exact ⟨0, Nat.zero_le _, rfl, rfl, H.out, World.grownBy.refl _ _⟩
  case round =>
    obtain ⟨j, hj, rfl, rfl, ho, hg⟩ := hrel
    have HO := Lib.hid ho
    have HG := Lib.hid hg
    clear ho hg
    by_cases hlt : j < n
    · have hjl : j < ts.length := by rw [← HL.out]; exact hlt
      have HP := Lib.hid (marks_put (k0 := k0) hjl)
      obtain ⟨t, ht⟩ : ∃ t, (marks k0 j ++ ts.drop j)[j]? = some t := ⟨_, List.getElem?_eq_getElem (by simp [marks_len]; omega)⟩
      have hlen : j < (marks k0 j ++ ts.drop j).length := by simp [marks_len]; omega
      obtain ⟨b, o, eA, hbl, c0, c1, c2, c3, c4⟩ := HO.out.reads.2.at_ j t ht
      injection eA with eA
      injection eA with eA1 eA2
      subst eA1 eA2
      simp only [Nat.zero_add] at c0 c1 c2 c3 c4
      have hfz := HO.out.frozen
      have HH := Lib.hid hlen
      clear ht hlen
      go_wp2
      go_roundw
      case rel =>
        refine ⟨j + 1, by omega, by go_num, by go_num, ?_, ?_⟩
        · rw [← HP.out]
          have hx := HO.out.put j (markTk k0 j) HH.out
          exact hx
        · repeat (first | exact HG.out | refine gb_set ?_ (.inl rfl) _)
      case measure => simp [intOf]; omega
    · obtain rfl : j = n := by omega
      go_wp2
      go_ret
      exact ⟨rfl, by have h := HO.out; rw [List.drop_eq_nil_of_le (by rw [← HL.out]; omega), List.append_nil] at h; exact h, HG.out⟩

set_option maxHeartbeats 2000000 in
theorem held_any (w : World) (A : Option Addr) (n c k0 : Nat) (h : Tks w w.heap.size A n (marks k0 n)) (hn : n ≤ 1048576) (hk0 : k0 ≤ 10) :
    Calls Try.prog 50 #[.slice A n c, .int .i64 k0] w fun e w' => e = .returned (.int .i64 ((k0 + n * 5 : Nat) : Int)) ∧ w = w' := by
  have H := Lib.hid h
  clear h
  go_enter Try.func50, Try.ntmps50
  go_wp2
  go_loop [1, 5] (fun q i => ∃ j : Nat, j ≤ n ∧ i = .int .i64 j ∧ q = .int .i64 ((k0 + j * 5 : Nat) : Int)) (fun _ i => n - (intOf i).toNat)
  case atStart => exact ⟨0, Nat.zero_le _, rfl, rfl⟩
  case round =>
    obtain ⟨j, hj, rfl, rfl⟩ := hrel
    by_cases hlt : j < n
    · obtain ⟨b, o, rfl, hbl, c0, c1, c2, c3, c4⟩ := H.out.at_ j _ (marks_get hlt)
      have e0 : w.cell? ⟨b, o + j * 5, none⟩ = some (.int .i64 ((k0 : Int) + (j : Int) * 5)) := c0
      have e1 : w.cell? ⟨b, o + j * 5 + 1, none⟩ = some (.int .i64 ((k0 : Int) + (j : Int) * 5 + 1)) := c1
      have e2 : w.cell? ⟨b, o + j * 5 + 2, none⟩ = some (.int .i64 ((k0 : Int) + (j : Int) * 5 + 1 + 1)) := c2
      have e3 : w.cell? ⟨b, o + j * 5 + 3, none⟩ = some (.int .i64 ((k0 : Int) + (j : Int) * 5 + 1 + 1 + 1)) := c3
      have e4 : w.cell? ⟨b, o + j * 5 + 4, none⟩ = some (.bool (((k0 : Int) + (j : Int) * 5 + 1 + 1 + 1 + 1) % 3 == 0)) := c4
      clear c0 c1 c2 c3 c4
      go_wp2
      go_round
      case rel => exact ⟨j + 1, by omega, by go_num, by go_num⟩
      case measure => simp [intOf]; omega
    · obtain rfl : j = n := by omega
      go_wp2
      go_ret
      exact ⟨rfl, rfl⟩
end

section
/- Contract of the marks that the exact laws write into a result: into its own memory, and nothing beside. -/
open Go.RowKit

theorem mark_own (w : World) (B : Nat) (A : Option Addr) (n c k0 : Nat) (ts : List Tk) (h : Own w B (.slice A n c) ts) (hn : n ≤ 1048576) (hk0 : k0 ≤ 10) :
    Calls Try.prog 45 #[.slice A n c, .int .i64 k0] w fun e w' => e = .returned (.int .i64 ((k0 + n * 5 : Nat) : Int)) ∧ Own w' B (.slice A n c) (marks k0 n) ∧ w.grownBy w' (Value.slice A n c).ownBlock := by
  rcases h.2 with ⟨e, h0⟩ | ⟨g, cap, cur, e, _⟩
  · injection e with e1 e2 e3
    subst e1 e2 e3
    go_enter Try.func45, Try.ntmps45
    go_wp2
    go_loop [1, 5] (fun q i => q = .int .i64 k0 ∧ i = .int .i64 0) (fun _ _ => 0)
    case atStart => exact ⟨rfl, rfl⟩
    case round =>
      obtain ⟨rfl, rfl⟩ := hrel
      go_wp2
      go_ret
      exact ⟨rfl, Own.nil_ _ _, World.grownBy.refl _ _⟩
  · injection e with e1 e2 e3
    subst e1
    exact (mark_any w B g n c k0 ts h hn hk0).mono fun _ _ hh => hh

theorem Own.kept_down {w w' : World} {B M : Nat} {v : Value} {ts : List Tk} {row : Option Nat} (h : Own w B v ts) (hg : w.grownBy w' row) (hv : ∀ k, v.ownBlock = some k → k < M) (hr : ∀ k, row = some k → M ≤ k) : Own w' B v ts := by
  refine World.ownsRow.kept h hg ?_
  rcases he : v.ownBlock with _ | k
  · exact .inl rfl
  · right
    intro e
    have := hv k he
    have := hr k e.symm
    omega
end

section
/- Least windows that are enough: what a need that only grows with the window asks (no program text). -/
set_option linter.unusedVariables false

/-- How many jobs come within a window, times what each needs. -/
def demN (n e w : Nat) : Nat := (w + e - 1) / e * n
theorem dem_mono (n e : Nat) {v w : Nat} (h : v ≤ w) : demN n e v ≤ demN n e w :=
  Nat.mul_le_mul_right n (Nat.div_le_div_right (by omega))
theorem dem_need {n m : Nat} (e w : Nat) (h : n ≤ m) : demN n e w ≤ demN m e w := Nat.mul_le_mul_left _ h
theorem dem_zero (n : Nat) {e : Nat} (he : 1 ≤ e) : demN n e 0 = 0 := by
  unfold demN
  rw [Nat.div_eq_of_lt (by omega), Nat.zero_mul]
theorem dem_more (n : Nat) {e : Nat} (he : 1 ≤ e) (w : Nat) : demN n e (w + e) = demN n e w + n := by
  unfold demN
  have h : w + e + e - 1 = w + e - 1 + e := by omega
  rw [h, Nat.add_div_right _ (by omega), Nat.succ_mul]
theorem dem_one (n : Nat) {e : Nat} (he : 1 ≤ e) : demN n e 1 = n := by
  unfold demN
  have h : 1 + e - 1 = e := by omega
  rw [h, Nat.div_self (by omega), Nat.one_mul]
theorem dem_every (n : Nat) {e : Nat} (he : 1 ≤ e) : demN n e e = n := by
  have := dem_more n he 0
  rw [Nat.zero_add, dem_zero n he, Nat.zero_add] at this
  exact this
theorem dem_past (n : Nat) {e : Nat} (he : 1 ≤ e) : demN n e (e + 1) = 2 * n := by
  rw [Nat.add_comm, dem_more n he 1, dem_one n he, Nat.two_mul]
theorem dem_pos {n e : Nat} (hn : 1 ≤ n) (he : 1 ≤ e) {w : Nat} (hw : 1 ≤ w) : n ≤ demN n e w := by
  have := dem_mono n e hw
  rwa [dem_one n he] at this
theorem dem_eq_zero {n e : Nat} (hn : 1 ≤ n) (he : 1 ≤ e) {w : Nat} : demN n e w = 0 ↔ w = 0 := by
  constructor
  · intro h
    rcases Nat.eq_zero_or_pos w with h0 | h0
    · exact h0
    · have := dem_pos hn he h0
      omega
  · rintro rfl
    exact dem_zero n he
theorem dem_add (n : Nat) {e : Nat} (he : 1 ≤ e) (v w : Nat) : demN n e (v + w) ≤ demN n e v + demN n e w := by
  unfold demN
  rw [← Nat.add_mul]
  refine Nat.mul_le_mul_right n ?_
  have h1 := Nat.div_add_mod (v + e - 1) e
  have h2 := Nat.div_add_mod (w + e - 1) e
  have m1 := Nat.mod_lt (v + e - 1) (show e > 0 by omega)
  have m2 := Nat.mod_lt (w + e - 1) (show e > 0 by omega)
  refine Nat.le_of_lt_succ ((Nat.div_lt_iff_lt_mul (by omega)).2 ?_)
  generalize hx : (v + e - 1) / e = x at *
  generalize hy : (w + e - 1) / e = y at *
  have e3 : (x + y).succ * e = e * x + e * y + e := by rw [Nat.succ_mul, Nat.add_mul, Nat.mul_comm x, Nat.mul_comm y]
  rw [e3]
  omega
/-- A window's worth at least. -/
theorem dem_ge (n : Nat) {e : Nat} (he : 1 ≤ e) (w : Nat) : w * n ≤ demN n e w * e := by
  unfold demN
  have h1 := Nat.div_add_mod (w + e - 1) e
  have m1 := Nat.mod_lt (w + e - 1) (show e > 0 by omega)
  generalize (w + e - 1) / e = x at *
  have h2 : w ≤ e * x := by omega
  calc w * n ≤ e * x * n := Nat.mul_le_mul_right n h2
    _ = x * n * e := by ac_rfl

/-- No window from lo on and below w is enough. -/
def NoneBelow (F : Nat → Nat) (lo w : Nat) : Prop := lo ≤ w ∧ ∀ v, lo ≤ v → v < w → v < F v
/-- The least window from lo to hi that is enough. -/
def leastN (F : Nat → Nat) (lo hi : Nat) : Option Nat := (List.range (hi + 1)).find? fun w => decide (lo ≤ w) && decide (F w ≤ w)
theorem find_range {p : Nat → Bool} {n w : Nat} : (List.range n).find? p = some w ↔ w < n ∧ p w = true ∧ ∀ v, v < w → p v = false := by
  rw [List.find?_range_eq_some]
  simp
  constructor
  · rintro ⟨a, b, c⟩; exact ⟨b, a, c⟩
  · rintro ⟨a, b, c⟩; exact ⟨b, a, c⟩
theorem least_some {F : Nat → Nat} {lo hi w : Nat} : leastN F lo hi = some w ↔ lo ≤ w ∧ w ≤ hi ∧ F w ≤ w ∧ ∀ v, lo ≤ v → v < w → v < F v := by
  unfold leastN
  rw [find_range]
  constructor
  · rintro ⟨h1, h2, h3⟩
    rw [Bool.and_eq_true, decide_eq_true_iff, decide_eq_true_iff] at h2
    refine ⟨h2.1, by omega, h2.2, fun v hv hw => ?_⟩
    have := h3 v hw
    rw [decide_eq_true hv, Bool.true_and, decide_eq_false_iff_not] at this
    omega
  · rintro ⟨h1, h2, h3, h4⟩
    refine ⟨by omega, by rw [decide_eq_true h1, decide_eq_true h3]; rfl, fun v hv => ?_⟩
    by_cases hl : lo ≤ v
    · have := h4 v hl hv
      rw [decide_eq_false (show ¬ F v ≤ v by omega), Bool.and_false]
    · rw [decide_eq_false hl, Bool.false_and]
theorem least_none {F : Nat → Nat} {lo hi : Nat} : leastN F lo hi = none ↔ ∀ v, lo ≤ v → v ≤ hi → v < F v := by
  unfold leastN
  rw [List.find?_eq_none]
  constructor
  · intro h v h1 h2
    have := h v (List.mem_range.2 (by omega))
    rw [Bool.and_eq_true, decide_eq_true_iff, decide_eq_true_iff] at this
    have h3 : ¬ F v ≤ v := fun h3 => this ⟨h1, h3⟩
    omega
  · intro h v hv
    have hv := List.mem_range.1 hv
    rw [Bool.and_eq_true, decide_eq_true_iff, decide_eq_true_iff]
    rintro ⟨h1, h2⟩
    have := h v h1 (by omega)
    omega

theorem none_start (F : Nat → Nat) (lo : Nat) : NoneBelow F lo lo := ⟨Nat.le_refl _, fun v h1 h2 => by omega⟩
/-- At a window below which none is enough the need is no less than the window. -/
theorem none_le {F : Nat → Nat} {lo : Nat} (hm : ∀ v w, v ≤ w → F v ≤ F w) (hF : ∀ w, lo ≤ w → lo ≤ F w) {w : Nat} (h : NoneBelow F lo w) : w ≤ F w := by
  rcases Nat.lt_or_ge (F w) w with hlt | hge
  · have h1 := h.2 (F w) (hF w h.1) hlt
    have h2 := hm (F w) w (Nat.le_of_lt hlt)
    omega
  · exact hge
/-- One round: the need of a window below which none is enough is again such a window. -/
theorem none_step {F : Nat → Nat} {lo : Nat} (hm : ∀ v w, v ≤ w → F v ≤ F w) (hF : ∀ w, lo ≤ w → lo ≤ F w) {w : Nat} (h : NoneBelow F lo w) : NoneBelow F lo (F w) := by
  refine ⟨hF w h.1, fun v h1 h2 => ?_⟩
  rcases Nat.lt_or_ge v w with hv | hv
  · exact h.2 v h1 hv
  · exact Nat.lt_of_lt_of_le h2 (hm w v hv)
theorem least_hit {F : Nat → Nat} {lo hi w : Nat} (h : NoneBelow F lo w) (hw : w ≤ hi) (he : F w = w) : leastN F lo hi = some w :=
  least_some.2 ⟨h.1, hw, by omega, h.2⟩
theorem least_past {F : Nat → Nat} {lo hi w : Nat} (h : NoneBelow F lo w) (hw : hi < w) : leastN F lo hi = none :=
  least_none.2 fun v h1 h2 => h.2 v h1 (by omega)
/-- What is enough first is just enough. -/
theorem least_fix {F : Nat → Nat} {lo hi w : Nat} (hm : ∀ v w, v ≤ w → F v ≤ F w) (hF : ∀ w, lo ≤ w → lo ≤ F w) (h : leastN F lo hi = some w) : F w = w := by
  obtain ⟨h1, _, h3, h4⟩ := least_some.1 h
  have := none_le hm hF ⟨h1, h4⟩
  omega
/-- A need that is less at every window is met no later. -/
theorem least_less {F G : Nat → Nat} {lo lo' hi hi' w : Nat} (hG : ∀ v, lo ≤ v → v ≤ w → G v ≤ F v) (hl : lo' ≤ lo) (hh : hi ≤ hi') (h : leastN F lo hi = some w) : ∃ v, leastN G lo' hi' = some v ∧ v ≤ w := by
  obtain ⟨h1, h2, h3, _⟩ := least_some.1 h
  cases hg : leastN G lo' hi' with
  | none =>
    have := least_none.1 hg w (by omega) (by omega)
    have := hG w h1 (Nat.le_refl w)
    omega
  | some v =>
    refine ⟨v, rfl, ?_⟩
    obtain ⟨g1, g2, g3, g4⟩ := least_some.1 hg
    rcases Nat.lt_or_ge w v with hlt | hge
    · have := g4 w (by omega) hlt
      have := hG w h1 (Nat.le_refl w)
      omega
    · exact hge

/-- Needs that come in a list of (need, distance). -/
def sumD (ks : List (Nat × Nat)) (w : Nat) : Nat := (ks.map fun k => demN k.1 k.2 w).sum
theorem sumD_nil (w : Nat) : sumD [] w = 0 := rfl
theorem sumD_cons (k : Nat × Nat) (ks : List (Nat × Nat)) (w : Nat) : sumD (k :: ks) w = demN k.1 k.2 w + sumD ks w := rfl
theorem sumD_app (xs ys : List (Nat × Nat)) (w : Nat) : sumD (xs ++ ys) w = sumD xs w + sumD ys w := by
  unfold sumD
  rw [List.map_append, List.sum_append]
theorem sumD_snoc (ks : List (Nat × Nat)) (k : Nat × Nat) (w : Nat) : sumD (ks ++ [k]) w = sumD ks w + demN k.1 k.2 w := by
  rw [sumD_app, sumD_cons, sumD_nil, Nat.add_zero]
theorem sumD_mono : ∀ (ks : List (Nat × Nat)) {v w : Nat}, v ≤ w → sumD ks v ≤ sumD ks w
  | [], _, _, _ => Nat.le_refl _
  | k :: ks, v, w, h => by
    rw [sumD_cons, sumD_cons]
    exact Nat.add_le_add (dem_mono _ _ h) (sumD_mono ks h)
theorem sumD_perm {xs ys : List (Nat × Nat)} (h : xs.Perm ys) (w : Nat) : sumD xs w = sumD ys w := (h.map _).sum_nat
theorem sumD_sub {xs ys : List (Nat × Nat)} (h : xs.Sublist ys) (w : Nat) : sumD xs w ≤ sumD ys w := by
  induction h with
  | slnil => exact Nat.le_refl _
  | cons a _ ih => rw [sumD_cons]; omega
  | cons_cons a _ ih => rw [sumD_cons, sumD_cons]; omega
/-- What a list needs in no window. -/
theorem sumD_zero : ∀ {ks : List (Nat × Nat)}, (∀ k ∈ ks, 1 ≤ k.2) → sumD ks 0 = 0
  | [], _ => rfl
  | k :: ks, h => by
    rw [sumD_cons, dem_zero _ (h k (by simp)), sumD_zero fun x hx => h x (by simp [hx])]
theorem sumD_pos {ks : List (Nat × Nat)} (hn : ks ≠ []) (h : ∀ k ∈ ks, 1 ≤ k.1 ∧ 1 ≤ k.2) {w : Nat} (hw : 1 ≤ w) : 1 ≤ sumD ks w := by
  cases ks with
  | nil => exact absurd rfl hn
  | cons k ks =>
    rw [sumD_cons]
    obtain ⟨h1, h2⟩ := h k (by simp)
    have := dem_pos h1 h2 hw
    omega
end

section
/- Contracts of CriticalOf, in the program and in the reference: both return the critical tasks with their high needs as low ones, in memory of their own. -/
open Go.RowKit

def critL (ts : List Tk) : List Tk := (ts.filter Tk.cr).map fun t => ⟨t.hi, t.hi, t.du, t.ev, t.cr⟩
def critOf (ts : List Tk) : List Tk := if setB ts then critL ts else []

theorem critL_yes {ts : List Tk} {k : Nat} {t : Tk} (h : ts[k]? = some t) (hc : t.cr = true) : critL (ts.take (k + 1)) = critL (ts.take k) ++ [⟨t.hi, t.hi, t.du, t.ev, t.cr⟩] := by
  obtain ⟨hk, rfl⟩ := List.getElem?_eq_some_iff.1 h
  rw [List.take_succ_eq_append_getElem hk]
  simp only [critL, List.filter_append, List.map_append, List.filter_cons, hc, if_true, List.filter_nil, List.map_cons, List.map_nil]
theorem critL_no {ts : List Tk} {k : Nat} {t : Tk} (h : ts[k]? = some t) (hc : t.cr = false) : critL (ts.take (k + 1)) = critL (ts.take k) := by
  obtain ⟨hk, rfl⟩ := List.getElem?_eq_some_iff.1 h
  rw [List.take_succ_eq_append_getElem hk]
  simp only [critL, List.filter_append, List.filter_cons, hc, Bool.false_eq_true, if_false, List.filter_nil, List.append_nil]
theorem critL_len (ts : List Tk) : (critL ts).length ≤ ts.length := by
  unfold critL; rw [List.length_map]; exact List.length_filter_le _ _
end

section
/- Responses of tasks as plain data: demands of lists of tasks, the least windows, what holds (no program text). -/
set_option linter.unusedVariables false

def dmd (t : Tk) (w : Nat) (h : Bool) : Nat := demN (if h then t.hi.toNat else t.lo.toNat) t.ev.toNat w
def dLow (ts : List Tk) (w : Nat) : Nat := (ts.map fun t => dmd t w false).sum
/-- What a task needs around a switch that comes within the window l. -/
def dmS (l w : Nat) (t : Tk) : Nat := if t.cr then dmd t w true else dmd t l false
def dSwi (ts : List Tk) (l w : Nat) : Nat := (ts.map (dmS l w)).sum

theorem ok_parts {t : Tk} (h : t.ok = true) : 1 ≤ t.lo ∧ t.lo ≤ t.hi ∧ t.hi ≤ t.du ∧ t.du ≤ t.ev ∧ t.ev ≤ 20 ∧ (t.cr = false → t.lo = t.hi) := by
  unfold Tk.ok validB at h
  simp only [Bool.and_eq_true, decide_eq_true_iff, Bool.or_eq_true, beq_iff_eq] at h
  refine ⟨h.1, h.2.1, h.2.2.1, h.2.2.2.1, h.2.2.2.2.1, fun hc => ?_⟩
  rcases h.2.2.2.2.2 with h | h
  · rw [h] at hc; cases hc
  · exact h
theorem set_ok {ts : List Tk} (h : setB ts = true) {t : Tk} (ht : t ∈ ts) : t.ok = true := by
  unfold setB at h
  rw [Bool.and_eq_true] at h
  exact List.all_eq_true.1 h.2 t ht
theorem get_mem {ts : List Tk} {k : Nat} {t : Tk} (h : ts[k]? = some t) : t ∈ ts := List.mem_of_getElem? h
theorem set_of {ts : List Tk} (hl : ts.length ≤ 5) (h : ∀ t ∈ ts, t.ok = true) : setB ts = true := by
  unfold setB
  rw [Bool.and_eq_true, decide_eq_true_iff]
  exact ⟨hl, List.all_eq_true.2 h⟩
theorem set_sub {xs ys : List Tk} (h : setB ys = true) (hs : xs.Sublist ys) : setB xs = true :=
  set_of (Nat.le_trans hs.length_le (setB_len h)) fun t ht => set_ok h (hs.subset ht)
theorem set_take {ts : List Tk} (h : setB ts = true) (k : Nat) : setB (ts.take k) = true := set_sub h (List.take_sublist k ts)
theorem set_drop {ts : List Tk} (h : setB ts = true) (k : Nat) : setB (ts.drop k) = true := set_sub h (List.drop_sublist k ts)

theorem dmd_mono (t : Tk) (h : Bool) {v w : Nat} (hv : v ≤ w) : dmd t v h ≤ dmd t w h := dem_mono _ _ hv
theorem dmd_bound {t : Tk} (ht : t.ok = true) (w : Nat) (h : Bool) : dmd t w h ≤ 20 * (w + 20) := by
  obtain ⟨h1, h2, h3, h4, h5, _⟩ := ok_parts ht
  unfold dmd demN
  have a : (w + t.ev.toNat - 1) / t.ev.toNat ≤ w + 20 := Nat.le_trans (Nat.div_le_self _ _) (by omega)
  have b : (if h then t.hi.toNat else t.lo.toNat) ≤ 20 := by split <;> omega
  calc _ ≤ (w + 20) * 20 := Nat.mul_le_mul a b
    _ = 20 * (w + 20) := Nat.mul_comm _ _
theorem dmd_low {t : Tk} (ht : t.ok = true) (w : Nat) (h : Bool) : dmd t w false ≤ dmd t w h := by
  obtain ⟨h1, h2, _⟩ := ok_parts ht
  refine dem_need _ _ ?_
  cases h
  · exact Nat.le_refl _
  · show t.lo.toNat ≤ t.hi.toNat
    omega
theorem take_snoc {ts : List Tk} {k : Nat} {t : Tk} (h : ts[k]? = some t) : ts.take (k + 1) = ts.take k ++ [t] := by
  rw [List.take_add_one, h]; rfl
theorem sum_snoc (f : Tk → Nat) {ts : List Tk} {k : Nat} {t : Tk} (h : ts[k]? = some t) : ((ts.take (k + 1)).map f).sum = ((ts.take k).map f).sum + f t := by
  rw [take_snoc h]; simp
theorem dLow_take {ts : List Tk} {k : Nat} {t : Tk} (h : ts[k]? = some t) (w : Nat) : dLow (ts.take (k + 1)) w = dLow (ts.take k) w + dmd t w false := sum_snoc _ h
theorem dSwi_take {ts : List Tk} {k : Nat} {t : Tk} (h : ts[k]? = some t) (l w : Nat) : dSwi (ts.take (k + 1)) l w = dSwi (ts.take k) l w + dmS l w t := sum_snoc _ h
theorem sum_le {f g : Tk → Nat} : ∀ {ts : List Tk}, (∀ t ∈ ts, f t ≤ g t) → (ts.map f).sum ≤ (ts.map g).sum
  | [], _ => Nat.le_refl _
  | t :: ts, h => by
    simp only [List.map_cons, List.sum_cons]
    have h1 := h t (by simp)
    have h2 := sum_le (ts := ts) fun x hx => h x (by simp [hx])
    omega
theorem sum_sub (f : Tk → Nat) {xs ys : List Tk} (h : xs.Sublist ys) : (xs.map f).sum ≤ (ys.map f).sum := by
  induction h with
  | slnil => exact Nat.le_refl _
  | cons a _ ih => simp only [List.map_cons, List.sum_cons]; omega
  | cons_cons a _ ih => simp only [List.map_cons, List.sum_cons]; omega
theorem tsum_bound {f : Tk → Nat} {b : Nat} : ∀ {ts : List Tk}, (∀ t ∈ ts, f t ≤ b) → (ts.map f).sum ≤ ts.length * b
  | [], _ => by simp
  | t :: ts, h => by
    simp only [List.map_cons, List.sum_cons, List.length_cons]
    have h1 := h t (by simp)
    have h2 := tsum_bound (ts := ts) fun x hx => h x (by simp [hx])
    rw [Nat.succ_mul]
    omega
theorem dLow_mono (ts : List Tk) {v w : Nat} (h : v ≤ w) : dLow ts v ≤ dLow ts w := sum_le fun t _ => dmd_mono t false h
theorem dSwi_mono (ts : List Tk) (l : Nat) {v w : Nat} (h : v ≤ w) : dSwi ts l v ≤ dSwi ts l w := sum_le fun t _ => by
  unfold dmS; split
  · exact dmd_mono t true h
  · exact Nat.le_refl _
theorem dLow_bound {ts : List Tk} (h : setB ts = true) (w : Nat) : dLow ts w ≤ 100 * (w + 20) := by
  have h1 := tsum_bound (f := fun t => dmd t w false) fun t ht => dmd_bound (set_ok h ht) w false
  have h2 := setB_len h
  have h3 : ts.length * (20 * (w + 20)) ≤ 5 * (20 * (w + 20)) := Nat.mul_le_mul_right _ h2
  unfold dLow
  omega
theorem dmS_bound {t : Tk} (ht : t.ok = true) (l w : Nat) : dmS l w t ≤ 20 * (l + w + 20) := by
  unfold dmS; split
  · have := dmd_bound ht w true; omega
  · have := dmd_bound ht l false; omega
theorem dSwi_bound {ts : List Tk} (h : setB ts = true) (l w : Nat) : dSwi ts l w ≤ 100 * (l + w + 20) := by
  have h1 := tsum_bound (f := dmS l w) fun t ht => dmS_bound (set_ok h ht) l w
  have h2 := setB_len h
  have h3 : ts.length * (20 * (l + w + 20)) ≤ 5 * (20 * (l + w + 20)) := Nat.mul_le_mul_right _ h2
  unfold dSwi
  omega

/-- The longest response of a task that needs n, is due in d, and comes behind xs. -/
def respOf (xs : List Tk) (n d : Nat) : Option Nat := leastN (fun w => n + dLow xs w) n d
def swiOf (xs : List Tk) (l n d : Nat) : Option Nat := leastN (fun w => n + dSwi xs l w) n d
def rLow (ts : List Tk) (k : Nat) : Option Nat :=
  if setB ts then match ts[k]? with
    | some t => respOf (ts.take k) t.lo.toNat t.du.toNat
    | none => none
  else none
def rSwi (ts : List Tk) (k : Nat) : Option Nat :=
  match rLow ts k, ts[k]? with
  | some l, some t => if t.cr then swiOf (ts.take k) l t.hi.toNat t.du.toNat else none
  | _, _ => none
def rHigh (ts : List Tk) (k : Nat) : Option Nat :=
  match ts[k]? with
  | some t => if setB ts && t.cr then rLow (critL ts) (critL (ts.take k)).length else none
  | none => none
def bothAt (ts : List Tk) (k : Nat) : Bool :=
  match ts[k]? with
  | some t => if t.cr then (rSwi ts k).isSome else (rLow ts k).isSome
  | none => false
def hLow (ts : List Tk) : Bool := setB ts && (List.range ts.length).all fun k => (rLow ts k).isSome
def hBoth (ts : List Tk) : Bool := setB ts && (List.range ts.length).all (bothAt ts)
def fBad (ts : List Tk) : Option Nat := if setB ts then (List.range ts.length).find? fun k => !bothAt ts k else none
def bLow (ts : List Tk) : Option Nat := if setB ts && !ts.isEmpty then leastN (dLow ts) 1 (ts.foldl (fun m t => Nat.lcm m t.ev.toNat) 1) else none

theorem resp_mono (xs : List Tk) (n : Nat) : ∀ v w, v ≤ w → n + dLow xs v ≤ n + dLow xs w := fun v w h => Nat.add_le_add_left (dLow_mono xs h) n
theorem swi_mono (xs : List Tk) (l n : Nat) : ∀ v w, v ≤ w → n + dSwi xs l v ≤ n + dSwi xs l w := fun v w h => Nat.add_le_add_left (dSwi_mono xs l h) n
theorem rLow_bad {ts : List Tk} (k : Nat) (h : setB ts = false) : rLow ts k = none := by unfold rLow; rw [h]; rfl
theorem rLow_past {ts : List Tk} {k : Nat} (h : ts[k]? = none) : rLow ts k = none := by unfold rLow; rw [h]; split <;> rfl
theorem rLow_at {ts : List Tk} {k : Nat} {t : Tk} (hs : setB ts = true) (h : ts[k]? = some t) : rLow ts k = respOf (ts.take k) t.lo.toNat t.du.toNat := by
  unfold rLow; rw [hs, h]; rfl
theorem rSwi_none {ts : List Tk} {k : Nat} (h : rLow ts k = none) : rSwi ts k = none := by unfold rSwi; rw [h]
theorem rSwi_not {ts : List Tk} {k : Nat} {t : Tk} (h : ts[k]? = some t) (hc : t.cr = false) : rSwi ts k = none := by
  unfold rSwi; rw [h]; cases rLow ts k
  · rfl
  · simp [hc]
theorem rSwi_at {ts : List Tk} {k l : Nat} {t : Tk} (hl : rLow ts k = some l) (h : ts[k]? = some t) (hc : t.cr = true) : rSwi ts k = swiOf (ts.take k) l t.hi.toNat t.du.toNat := by
  unfold rSwi; rw [hl, h]; simp [hc]
theorem rHigh_past {ts : List Tk} {k : Nat} (h : ts[k]? = none) : rHigh ts k = none := by unfold rHigh; rw [h]
theorem rHigh_bad {ts : List Tk} (k : Nat) (h : setB ts = false) : rHigh ts k = none := by unfold rHigh; rw [h]; split <;> rfl
theorem rHigh_not {ts : List Tk} {k : Nat} {t : Tk} (h : ts[k]? = some t) (hc : t.cr = false) : rHigh ts k = none := by unfold rHigh; rw [h]; simp [hc]
theorem rHigh_at {ts : List Tk} {k : Nat} {t : Tk} (hs : setB ts = true) (h : ts[k]? = some t) (hc : t.cr = true) : rHigh ts k = rLow (critL ts) (critL (ts.take k)).length := by
  unfold rHigh; rw [h]; simp [hc, hs]
theorem both_cr {ts : List Tk} {k : Nat} {t : Tk} (h : ts[k]? = some t) (hc : t.cr = true) : bothAt ts k = (rSwi ts k).isSome := by unfold bothAt; rw [h]; simp [hc]
theorem both_no {ts : List Tk} {k : Nat} {t : Tk} (h : ts[k]? = some t) (hc : t.cr = false) : bothAt ts k = (rLow ts k).isSome := by unfold bothAt; rw [h]; simp [hc]
/-- Both modes hold for a task: low needs do. -/
theorem both_low {ts : List Tk} {k : Nat} (h : bothAt ts k = true) : (rLow ts k).isSome = true := by
  unfold bothAt at h
  cases ht : ts[k]? with
  | none => rw [ht] at h; cases h
  | some t =>
    rw [ht] at h
    simp only at h
    cases hl : rLow ts k with
    | some l => rfl
    | none =>
      rw [rSwi_none hl, hl] at h
      split at h <;> cases h
theorem some_of {o : Option Nat} (h : o.isSome = true) : ∃ n, o = some n := Option.isSome_iff_exists.1 h

theorem all_range {p : Nat → Bool} {n : Nat} : (List.range n).all p = true ↔ ∀ k, k < n → p k = true := by
  rw [List.all_eq_true]
  exact ⟨fun h k hk => h k (List.mem_range.2 hk), fun h k hk => h k (List.mem_range.1 hk)⟩
theorem fBad_some {ts : List Tk} {k : Nat} (hs : setB ts = true) (hk : k < ts.length) (hb : bothAt ts k = false) (ha : ∀ j, j < k → bothAt ts j = true) : fBad ts = some k := by
  unfold fBad
  rw [if_pos hs, find_range]
  exact ⟨hk, by rw [hb]; rfl, fun v hv => by rw [ha v hv]; rfl⟩
theorem fBad_none {ts : List Tk} (hs : setB ts = true) (ha : ∀ j, j < ts.length → bothAt ts j = true) : fBad ts = none := by
  unfold fBad
  rw [if_pos hs, List.find?_eq_none]
  intro k hk
  rw [ha k (List.mem_range.1 hk)]
  simp
theorem fBad_bad {ts : List Tk} (hs : setB ts = false) : fBad ts = none := by unfold fBad; rw [hs]; rfl
theorem hBoth_bad {ts : List Tk} (hs : setB ts = false) : hBoth ts = false := by unfold hBoth; rw [hs]; rfl
theorem hLow_bad {ts : List Tk} (hs : setB ts = false) : hLow ts = false := by unfold hLow; rw [hs]; rfl
theorem hBoth_iff {ts : List Tk} : hBoth ts = true ↔ setB ts = true ∧ ∀ k, k < ts.length → bothAt ts k = true := by
  unfold hBoth; rw [Bool.and_eq_true, all_range]
theorem hLow_iff {ts : List Tk} : hLow ts = true ↔ setB ts = true ∧ ∀ k, k < ts.length → (rLow ts k).isSome = true := by
  unfold hLow; rw [Bool.and_eq_true, all_range]
theorem hBoth_no {ts : List Tk} {k : Nat} (hk : k < ts.length) (hb : bothAt ts k = false) : hBoth ts = false := by
  cases h : hBoth ts
  · rfl
  · have := (hBoth_iff.1 h).2 k hk
    rw [hb] at this; cases this
theorem hLow_no {ts : List Tk} {k : Nat} (hk : k < ts.length) (hb : rLow ts k = none) : hLow ts = false := by
  cases h : hLow ts
  · rfl
  · have := (hLow_iff.1 h).2 k hk
    rw [hb] at this; cases this
theorem hBoth_fBad {ts : List Tk} (hs : setB ts = true) : hBoth ts = (fBad ts).isNone := by
  cases h : fBad ts with
  | none =>
    refine hBoth_iff.2 ⟨hs, fun k hk => ?_⟩
    unfold fBad at h
    rw [if_pos hs, List.find?_eq_none] at h
    have := h k (List.mem_range.2 hk)
    cases hb : bothAt ts k
    · rw [hb] at this; exact absurd rfl this
    · rfl
  | some k =>
    unfold fBad at h
    rw [if_pos hs, find_range] at h
    obtain ⟨h1, h2, _⟩ := h
    refine hBoth_no h1 ?_
    cases hb : bothAt ts k
    · rfl
    · rw [hb] at h2; cases h2
theorem fBad_at {ts : List Tk} {k : Nat} (h : fBad ts = some k) : setB ts = true ∧ k < ts.length ∧ bothAt ts k = false ∧ ∀ j, j < k → bothAt ts j = true := by
  unfold fBad at h
  cases hs : setB ts with
  | false => rw [hs] at h; cases h
  | true =>
    rw [if_pos hs, find_range] at h
    obtain ⟨h1, h2, h3⟩ := h
    refine ⟨rfl, h1, ?_, fun j hj => ?_⟩
    · cases hb : bothAt ts k
      · rfl
      · rw [hb] at h2; cases h2
    · have := h3 j hj
      cases hb : bothAt ts j
      · rw [hb] at this; cases this
      · rfl
end

section
/- Contracts of HyperOf, in the program and in the reference: both return the least common multiple of the periods, 0 if the list is not valid. -/
open Go.RowKit

/-- The least common multiple of the periods of the first tasks. -/
def lcmL (ts : List Tk) : Nat := ts.foldl (fun m t => Nat.lcm m t.ev.toNat) 1
def hyperOf (ts : List Tk) : Nat := if setB ts then lcmL ts else 0

def GcdRes (a b : Nat) (w : World) (e : Ending) (w' : World) : Prop := e = .returned (.int .i64 (Nat.gcd a b)) ∧ Below w.heap.size w w'

/-- A slice that reads as the integers zs. -/
structure Ints (w : World) (B : Nat) (A : Option Addr) (n : Nat) (zs : List Nat) : Prop where
  len : zs.length = n
  at_ : ∀ (i z : Nat), zs[i]? = some z → ∃ b o, A = some ⟨b, o, none⟩ ∧ b < B ∧ w.cell? ⟨b, o + i, none⟩ = some (.int .i64 (z : Int))

theorem Ints.below {w w' : World} {B : Nat} {A : Option Addr} {n : Nat} {zs : List Nat} (h : Ints w B A n zs) (hb : Below B w w') : Ints w' B A n zs :=
  ⟨h.len, fun i z hz => by
    obtain ⟨b, o, e, hbB, hc⟩ := h.at_ i z hz
    exact ⟨b, o, e, hbB, (hb.cell (p := ⟨b, o + i, none⟩) hbB).trans hc⟩⟩

def lcmN (zs : List Nat) : Nat := zs.foldl Nat.lcm 1
theorem lcmN_snoc (zs : List Nat) (z : Nat) : lcmN (zs ++ [z]) = Nat.lcm (lcmN zs) z := by simp [lcmN, List.foldl_append]
theorem lcmN_take {zs : List Nat} {k z : Nat} (h : zs[k]? = some z) : lcmN (zs.take (k + 1)) = Nat.lcm (lcmN (zs.take k)) z := by
  obtain ⟨hk, rfl⟩ := List.getElem?_eq_some_iff.1 h
  rw [List.take_succ_eq_append_getElem hk, lcmN_snoc]

theorem lcmN_bound (zs : List Nat) (hz : ∀ z ∈ zs, 1 ≤ z ∧ z ≤ 20) : 1 ≤ lcmN zs ∧ lcmN zs ≤ 20 ^ zs.length := by
  have key : ∀ (zs : List Nat) (m b : Nat), (∀ z ∈ zs, 1 ≤ z ∧ z ≤ 20) → 1 ≤ m → m ≤ b → 1 ≤ zs.foldl Nat.lcm m ∧ zs.foldl Nat.lcm m ≤ b * 20 ^ zs.length := by
    intro zs
    induction zs with
    | nil => intro m b _ h1 h2; simpa using ⟨h1, h2⟩
    | cons z zs ih =>
      intro m b hz h1 h2
      obtain ⟨z1, z2⟩ := hz z (by simp)
      have l1 : 1 ≤ Nat.lcm m z := Nat.lcm_pos (by omega) (by omega)
      have l2 : Nat.lcm m z ≤ b * 20 := Nat.le_trans (Nat.le_of_dvd (Nat.mul_pos (by omega) (by omega)) (Nat.lcm_dvd_mul m z)) (Nat.mul_le_mul h2 z2)
      obtain ⟨a1, a2⟩ := ih (Nat.lcm m z) (b * 20) (fun y hy => hz y (by simp [hy])) l1 l2
      refine ⟨a1, ?_⟩
      rw [List.length_cons, Nat.pow_succ, Nat.mul_comm _ 20, ← Nat.mul_assoc]
      exact a2
  have := key zs 1 1 hz (by omega) (by omega)
  simpa [lcmN] using this

theorem lcm_impl (m z : Nat) : m * (z / Nat.gcd m z) = Nat.lcm m z := by
  rw [Nat.lcm, Nat.mul_div_assoc _ (Nat.gcd_dvd_right m z)]
theorem lcm_spec (m z : Nat) : m / Nat.gcd m z * z = Nat.lcm m z := by
  rw [Nat.lcm, Nat.mul_comm m z, Nat.mul_div_assoc _ (Nat.gcd_dvd_left m z), Nat.mul_comm]

def NumRes (m : Nat) (w : World) (e : Ending) (w' : World) : Prop := e = .returned (.int .i64 (m : Int)) ∧ Below w.heap.size w w'

theorem info_int : (Try.prog.info? 3).map (fun i => (i.zero, i.size, i.bytes)) = some (some (.int .i64 0), 1, 8) := by kernel_rfl

def evs (ts : List Tk) : List Nat := ts.map fun t => t.ev.toNat
theorem hyper_evs (ts : List Tk) : lcmN (evs ts) = lcmL ts := by simp [lcmN, lcmL, evs, List.foldl_map]
theorem evs_bound {ts : List Tk} (h : setB ts = true) : ∀ z ∈ evs ts, 1 ≤ z ∧ z ≤ 20 := by
  intro z hz
  unfold evs at hz
  rw [List.mem_map] at hz
  obtain ⟨t, ht, rfl⟩ := hz
  unfold setB at h
  simp at h
  have := h.2 t ht
  unfold Tk.ok validB at this
  simp at this
  omega
theorem ev_bound {ts : List Tk} {t : Tk} {k : Nat} (h : setB ts = true) (ht : ts[k]? = some t) : 1 ≤ t.ev ∧ t.ev ≤ 20 := by
  unfold setB at h
  simp at h
  have := h.2 t (List.mem_of_getElem? ht)
  unfold Tk.ok validB at this
  simp at this
  omega

def OwnI (w : World) (B : Nat) (v : Value) (zs : List Nat) : Prop := w.ownsRow B 3 1 v zs.length (zs.map fun z : Nat => Value.int .i64 (z : Int))

theorem OwnI.form {w : World} {B : Nat} {v : Value} {zs : List Nat} (h : OwnI w B v zs) : ∃ A c, v = .slice A zs.length c := by
  rcases h.2 with ⟨e, h0⟩ | ⟨g, cap, cur, e, _⟩
  · exact ⟨none, 0, by rw [e, h0]⟩
  · exact ⟨_, cap, e⟩
theorem OwnI.reads {w : World} {B : Nat} {A : Option Addr} {c : Nat} {zs : List Nat} (h : OwnI w B (.slice A zs.length c) zs) : Ints w w.heap.size A zs.length zs := by
  refine ⟨rfl, fun i z hz => ?_⟩
  have hi : i < zs.length := (List.getElem?_eq_some_iff.1 hz).1
  rcases h.2 with ⟨e, h0⟩ | ⟨g, cap, cur, e, _, hg, _⟩
  · omega
  · injection e with e1 e2 e3
    subst e1
    have hlt : g < w.heap.size := by
      rcases Nat.lt_or_ge g w.heap.size with hlt | hge
      · exact hlt
      · rw [Array.getElem?_eq_none hge] at hg; cases hg
    have := h.cells (g := g) rfl i (.int .i64 (z : Int)) (by rw [List.getElem?_map, hz]; rfl)
    have ea : (⟨g, 0, none⟩ : Addr).add i = ⟨g, i, none⟩ := by unfold Addr.add; split <;> simp_all
    rw [ea] at this
    exact ⟨g, 0, rfl, hlt, by rw [Nat.zero_add]; exact this⟩
theorem OwnI.snoc {w : World} {B : Nat} {v : Value} {zs : List Nat} {z : Nat} (h : w.ownsRow B 3 1 v (zs.length + 1) (zs.map (fun z : Nat => Value.int .i64 (z : Int)) ++ [.int .i64 (z : Int)])) : OwnI w B v (zs ++ [z]) := by
  unfold OwnI
  rw [List.map_append, List.length_append]
  simpa using h
theorem evs_take {ts : List Tk} {k : Nat} {t : Tk} (h : ts[k]? = some t) : evs (ts.take (k + 1)) = evs (ts.take k) ++ [t.ev.toNat] := by
  obtain ⟨hk, rfl⟩ := List.getElem?_eq_some_iff.1 h
  rw [List.take_succ_eq_append_getElem hk]
  simp only [evs, List.map_append, List.map_cons, List.map_nil]
theorem evs_len (ts : List Tk) : (evs ts).length = ts.length := by simp [evs]

theorem lcmL_take {ts : List Tk} {k : Nat} {t : Tk} (h : ts[k]? = some t) : lcmL (ts.take (k + 1)) = Nat.lcm (lcmL (ts.take k)) t.ev.toNat := by
  rw [← hyper_evs, ← hyper_evs, evs_take h, lcmN_snoc]
theorem lcmL_bound {ts : List Tk} (hs : setB ts = true) (k : Nat) : 1 ≤ lcmL (ts.take k) ∧ lcmL (ts.take k) ≤ 3200000 := by
  rw [← hyper_evs]
  obtain ⟨m1, m2⟩ := lcmN_bound (evs (ts.take k)) (fun y hy => by
    refine evs_bound hs y ?_
    unfold evs at hy ⊢
    rw [List.mem_map] at hy ⊢
    obtain ⟨t, ht, e⟩ := hy
    exact ⟨t, List.mem_of_mem_take ht, e⟩)
  refine ⟨m1, Nat.le_trans m2 (Nat.le_trans (Nat.pow_le_pow_right (by omega) ?_) (by decide : 20 ^ 5 ≤ 3200000))⟩
  rw [evs_len, List.length_take]
  have := setB_len hs
  omega
end

section
/- Contract of the program's search of a least fixed number: whatever function it asks, as long as that one only writes memory of its own. -/
open Go.RowKit
set_option linter.unusedVariables false

def resN (o : Option Nat) : Nat × Bool := (o.getD 0, o.isSome)
/-- A number and whether there is one. -/
def NbRes (v : Nat) (b : Bool) (w : World) (e : Ending) (w' : World) : Prop := e = .returned (.tuple #[.int .i64 (v : Int), .bool b]) ∧ Below w.heap.size w w'

/-- What is asked of the function that the search calls. -/
def NextIs (k : Nat) (cap : Array Value) (F : Nat → Nat) (lo hi : Nat) (w : World) : Prop :=
  ∀ (W : World) (v : Nat), lo ≤ v → v ≤ hi → Below w.heap.size w W → Calls Try.prog k (#[.int .i64 (v : Int)] ++ cap) W fun e W' => e = .returned (.int .i64 (F v : Int)) ∧ Below W.heap.size W W'

def lfW (a : Act) : Nat := (intOf (a.tmps.getD 8 undef)).toNat

set_option maxRecDepth 100000 in
set_option maxHeartbeats 2000000 in
theorem iLeast_is (w : World) (lo hi k : Nat) (cap : Array Value) (F : Nat → Nat) (v : Nat) (b : Bool) (ho : resN (leastN F lo hi) = (v, b)) (hm : ∀ x y, x ≤ y → F x ≤ F y) (hF : ∀ x, lo ≤ x → lo ≤ F x) (hB : ∀ x, x ≤ hi → F x ≤ 1000000000000) (hhi : hi ≤ 100000000) (hlo : lo ≤ 100000000)
    (ek : ∀ args w, (callFunc k args).run Try.prog w = .ok (.enter k args) w) (hfn : NextIs k cap F lo hi w) :
    Calls Try.prog 110 #[.int .i64 (lo : Int), .int .i64 (hi : Int), .func (.func k) #[] cap] w (NbRes v b w) := by
  have HO := Lib.hid ho
  have HM := Lib.hid hm
  have HF := Lib.hid hF
  have HB := Lib.hid hB
  have HFN := Lib.hid hfn
  clear ho hm hF hB hfn
  go_enter Try.func110, Try.ntmps110
  go_wp2
  refine wp_scope_jumps 0 (fun a' w' => Below w.heap.size w w' ∧ ∃ (x : Nat) (u3 u4 u5 u9 u10 u11 u12 u13 u14 u15 u16 u17 u18 u19 u20 u21 : Value), a' = { tmps := #[.int .i64 (lo : Int), .int .i64 (hi : Int), .func (.func k) #[] cap, u3, u4, u5, .int .i64 0, .bool false, .int .i64 (x : Int), u9, u10, u11, u12, u13, u14, u15, u16, u17, u18, u19, u20, u21], defers := [] } ∧ NoneBelow F lo x ∧ x ≤ 1000000000000) (fun a' _ => hi + 1 - lfW a') rfl ?_ ?_
  · by_cases hx : hi < lo
    · obtain ⟨rfl, rfl⟩ : 0 = v ∧ false = b := Prod.mk.inj (by rw [← HO.out, least_past (none_start F lo) hx]; rfl)
      go_wp2
      go_step3
      go_wp2
      simp only [Exit.jump]
      go_ret2
      exact ⟨rfl, Below.refl _ _⟩
    · have hc := HFN.out w lo (Nat.le_refl _) (by omega) (Below.refl _ _)
      have hcb := HB.out lo (by omega)
      by_cases he : F lo = lo
      · have hei : (F lo : Int) = (lo : Int) := by omega
        obtain ⟨rfl, rfl⟩ : lo = v ∧ true = b := Prod.mk.inj (by rw [← HO.out, least_hit (none_start F lo) (by omega) he]; rfl)
        go_wp2
        go_step3
        go_wp2_with (go_at_fn k; refine hc.mono ?_; rintro e w' ⟨rfl, hb'⟩)
        simp only [Exit.jump]
        go_ret2
        exact ⟨rfl, hb'⟩
      · have hei : ¬ (F lo : Int) = (lo : Int) := by omega
        have hnx := none_step HM.out HF.out (none_start F lo)
        have HN := Lib.hid hnx
        clear hnx
        go_wp2
        go_step3
        go_wp2_with (go_at_fn k; refine hc.mono ?_; rintro e w' ⟨rfl, hb'⟩)
        go_step3
        exact ⟨rfl, hb', F lo, _, _, _, _, _, _, _, _, _, _, _, _, _, _, _, _, rfl, HN.out, hcb⟩
  · rintro a' w' ⟨hb, x, u3, u4, u5, u9, u10, u11, u12, u13, u14, u15, u16, u17, u18, u19, u20, u21, rfl, hnn, hxb⟩
    have HN := Lib.hid hnn
    have HW := Lib.hid hb
    have hge := hnn.1
    clear hnn hb
    by_cases hx : hi < x
    · obtain ⟨rfl, rfl⟩ : 0 = v ∧ false = b := Prod.mk.inj (by rw [← HO.out, least_past HN.out hx]; rfl)
      go_wp2
      simp only [Exit.jump]
      go_ret2
      exact ⟨rfl, HW.out⟩
    · have hc := HFN.out w' x hge (by omega) HW.out
      have hcb := HB.out x (by omega)
      by_cases he : F x = x
      · have hei : (F x : Int) = (x : Int) := by omega
        obtain ⟨rfl, rfl⟩ : x = v ∧ true = b := Prod.mk.inj (by rw [← HO.out, least_hit HN.out (by omega) he]; rfl)
        go_wp2_with (go_at_fn k; refine hc.mono ?_; rintro e w2 ⟨rfl, hb'⟩)
        simp only [Exit.jump]
        go_ret2
        exact ⟨rfl, bl_trans HW.out hb'⟩
      · have hei : ¬ (F x : Int) = (x : Int) := by omega
        have hnx := none_step HM.out HF.out HN.out
        have hlt := none_le HM.out HF.out HN.out
        have HN2 := Lib.hid hnx
        clear hnx
        go_wp2_with (go_at_fn k; refine hc.mono ?_; rintro e w2 ⟨rfl, hb'⟩)
        go_step3
        exact ⟨rfl, ⟨bl_trans HW.out hb', F x, _, _, _, _, _, _, _, _, _, _, _, _, _, _, _, _, rfl, HN2.out, hcb⟩, by simp [lfW, intOf]; omega⟩
end

section
/- Critical tasks as plain data, and what busy times are (no program text). -/
set_option linter.unusedVariables false

/-- A task with its high need alone. -/
def Tk.up (t : Tk) : Tk := ⟨t.hi, t.hi, t.du, t.ev, t.cr⟩
theorem up_ok {t : Tk} (h : t.ok = true) : t.up.ok = true := by
  obtain ⟨h1, h2, h3, h4, h5, h6⟩ := ok_parts h
  unfold Tk.ok validB Tk.up
  simp only [Bool.and_eq_true, decide_eq_true_iff, Bool.or_eq_true, beq_iff_eq]
  exact ⟨by omega, by omega, h3, h4, h5, .inr (by first | trivial | rfl)⟩
theorem critL_eq (ts : List Tk) : critL ts = (ts.filter Tk.cr).map Tk.up := rfl
theorem crit_app (xs ys : List Tk) : critL (xs ++ ys) = critL xs ++ critL ys := by rw [critL_eq, critL_eq, critL_eq, List.filter_append, List.map_append]
theorem crit_split (ts : List Tk) (k : Nat) : critL ts = critL (ts.take k) ++ critL (ts.drop k) := by rw [← crit_app, List.take_append_drop]
theorem crit_sub {xs ys : List Tk} (h : xs.Sublist ys) : (critL xs).Sublist (critL ys) := (h.filter _).map _
theorem set_crit {ts : List Tk} (h : setB ts = true) : setB (critL ts) = true := by
  refine set_of (Nat.le_trans (critL_len ts) (setB_len h)) fun t ht => ?_
  rw [critL_eq, List.mem_map] at ht
  obtain ⟨u, hu, rfl⟩ := ht
  exact up_ok (set_ok h (List.mem_filter.1 hu).1)
theorem crit_all {ts : List Tk} {t : Tk} (h : t ∈ critL ts) : t.cr = true := by
  rw [critL_eq, List.mem_map] at h
  obtain ⟨u, hu, rfl⟩ := h
  exact (List.mem_filter.1 hu).2
theorem drop_at' {ts : List Tk} {k : Nat} {t : Tk} (h : ts[k]? = some t) : ts.drop k = t :: ts.drop (k + 1) := by
  obtain ⟨hk, rfl⟩ := List.getElem?_eq_some_iff.1 h
  exact List.drop_eq_getElem_cons hk
/-- Where a critical task stands among the critical ones. -/
theorem crit_at {ts : List Tk} {k : Nat} {t : Tk} (h : ts[k]? = some t) (hc : t.cr = true) : (critL ts)[(critL (ts.take k)).length]? = some t.up := by
  rw [crit_split ts k, List.getElem?_append_right (Nat.le_refl _), Nat.sub_self, drop_at' h, critL_eq]
  simp [hc]
theorem crit_take {ts : List Tk} (k : Nat) : (critL ts).take (critL (ts.take k)).length = critL (ts.take k) := by
  rw [crit_split ts k, List.take_left]
theorem critOf_set {ts : List Tk} (h : setB ts = true) : critOf ts = critL ts := by unfold critOf; rw [if_pos h]
theorem rHigh_is {ts : List Tk} {k : Nat} {t : Tk} (hs : setB ts = true) (h : ts[k]? = some t) (hc : t.cr = true) : rHigh ts k = respOf (critL (ts.take k)) t.hi.toNat t.du.toNat := by
  rw [rHigh_at hs h hc, rLow_at (set_crit hs) (crit_at h hc), crit_take]; rfl

/-- What critical tasks need with their high needs. -/
theorem dmd_up (t : Tk) (w : Nat) : dmd t.up w false = dmd t w true := rfl
theorem dCrit_sum (ts : List Tk) (w : Nat) : dLow (critL ts) w = (ts.map fun t => if t.cr then dmd t w true else 0).sum := by
  induction ts with
  | nil => rfl
  | cons t ts ih =>
    rw [critL_eq, List.filter_cons]
    cases hc : t.cr
    · rw [if_neg (by decide), ← critL_eq, ih]; simp [hc]
    · rw [if_pos rfl, List.map_cons]
      have : dLow (t.up :: critL ts) w = dmd t.up w false + dLow (critL ts) w := by simp [dLow]
      rw [critL_eq] at this
      rw [this, ← critL_eq, ih, dmd_up]; simp [hc]
/-- What tasks need: at least what the critical ones need. -/
theorem dCrit_le (ts : List Tk) (l w : Nat) : dLow (critL ts) w ≤ dSwi ts l w := by
  rw [dCrit_sum]
  refine sum_le fun t _ => ?_
  unfold dmS
  split
  · exact Nat.le_refl _
  · exact Nat.zero_le _
theorem dLow_pos {ts : List Tk} (hs : setB ts = true) (hn : ts ≠ []) {w : Nat} (hw : 1 ≤ w) : 1 ≤ dLow ts w := by
  cases ts with
  | nil => exact absurd rfl hn
  | cons t ts =>
    have h := ok_parts (set_ok hs (List.mem_cons_self ..))
    have h1 : t.lo.toNat ≤ dmd t w false := dem_pos (by omega) (by omega) hw
    have : dLow (t :: ts) w = dmd t w false + dLow ts w := by simp [dLow]
    omega
theorem bLow_bad {ts : List Tk} (h : setB ts = false) : bLow ts = none := by unfold bLow; rw [h]; rfl
theorem bLow_nil : bLow [] = none := rfl
theorem bLow_is {ts : List Tk} (hs : setB ts = true) (hn : ts ≠ []) : bLow ts = leastN (dLow ts) 1 (lcmL ts) := by
  unfold bLow; rw [hs]
  cases ts with
  | nil => exact absurd rfl hn
  | cons t ts => rfl
theorem lcmL_le {ts : List Tk} (hs : setB ts = true) : 1 ≤ lcmL ts ∧ lcmL ts ≤ 3200000 := by
  have := lcmL_bound hs ts.length
  rwa [List.take_length] at this
end

section
/- Contracts of demands, in the program and in the reference: what a task needs at most within a window. Nothing that was there is written. -/
open Go.RowKit
set_option linter.unusedVariables false

theorem dem_cast {n z j : Nat} (hz : 1 ≤ z) (hj : (n + z - 1) / z = j) : 0 ≤ (n : Int) + (z : Int) - 1 ∧ Int.tdiv ((n : Int) + (z : Int) - 1) (z : Int) = (j : Int) ∧ ((n : Int) + (z : Int) - 1) / (z : Int) = (j : Int) := by
  have h0 : 0 ≤ (n : Int) + (z : Int) - 1 := by omega
  have h1 : ((n : Int) + (z : Int) - 1) / (z : Int) = (j : Int) := by
    have : (n : Int) + (z : Int) - 1 = ((n + z - 1 : Nat) : Int) := by omega
    rw [this, ← hj]; simp
  exact ⟨h0, by rw [Int.tdiv_eq_ediv_of_nonneg h0]; exact h1, h1⟩

theorem needT_ex (w : World) (lo hi du ev : Int) (cr b : Bool) :
    Calls Try.prog 116 #[.agg #[.int .i64 lo, .int .i64 hi, .int .i64 du, .int .i64 ev, .bool cr], .bool b] w fun e w' => e = .returned (.int .i64 (if b then hi else lo)) ∧ w.alloc (.cells #[.int .i64 lo, .int .i64 hi, .int .i64 du, .int .i64 ev, .bool cr] 36) = w' := by
  cases b <;>
  · go_enter Try.func116, Try.ntmps116
    go_wp2
    go_ret
    exact ⟨rfl, rfl⟩
set_option maxHeartbeats 1000000 in
theorem iDemand_is (w : World) (lo hi du ev : Int) (cr : Bool) (n : Nat) (hb : Bool) (m : Nat) (hv : validB lo hi du ev cr = true) (hn : n ≤ 100000000) (hm : dmd ⟨lo, hi, du, ev, cr⟩ n hb = m) :
    Calls Try.prog 115 #[.agg #[.int .i64 lo, .int .i64 hi, .int .i64 du, .int .i64 ev, .bool cr], .int .i64 (n : Int), .bool hb] w fun e w' =>
      e = .returned (.int .i64 (m : Int)) ∧ (w.alloc (.cells #[.int .i64 lo, .int .i64 hi, .int .i64 du, .int .i64 ev, .bool cr] 36)).alloc (.cells #[.int .i64 lo, .int .i64 hi, .int .i64 du, .int .i64 ev, .bool cr] 36) = w' := by
  obtain ⟨h1, h2, h3, h4, h5, _⟩ := ok_parts (t := ⟨lo, hi, du, ev, cr⟩) hv
  dsimp only at h1 h2 h3 h4 h5
  obtain ⟨a, rfl⟩ := Int.eq_ofNat_of_zero_le (show 0 ≤ lo by omega)
  obtain ⟨b, rfl⟩ := Int.eq_ofNat_of_zero_le (show 0 ≤ hi by omega)
  obtain ⟨z, rfl⟩ := Int.eq_ofNat_of_zero_le (show 0 ≤ ev by omega)
  obtain ⟨j, hj⟩ : ∃ j, (n + z - 1) / z = j := ⟨_, rfl⟩
  have hjn : j ≤ n + 20 := by rw [← hj]; exact Nat.le_trans (Nat.div_le_self _ _) (by omega)
  obtain ⟨q1, q2, q3⟩ := dem_cast (n := n) (z := z) (by omega) hj
  have hjp : 0 ≤ (j : Int) := by omega
  cases hb
  · have hm' : j * a = m := by rw [← hm, ← hj]; rfl
    have hA : (a : Int) * (j : Int) = (m : Int) := by rw [← hm', Int.natCast_mul, Int.mul_comm]
    have hA' : (j : Int) * (a : Int) = (m : Int) := by rw [← hm', Int.natCast_mul]
    have hmb : m ≤ 20 * (n + 20) := by rw [← hm', Nat.mul_comm]; exact Nat.mul_le_mul (by omega) hjn
    clear hm hm' hj hv
    have HNX := Lib.hid (fun W : World => needT_ex W (a : Int) (b : Int) du (z : Int) cr false)
    have cT := (Blk.new w 36 #[.int .i64 (a : Int), .int .i64 (b : Int), .int .i64 du, .int .i64 (z : Int), .bool cr]).cell
    go_enter Try.func115, Try.ntmps115
    go_wp2_with fail
    refine (HNX.out _).mono ?_
    rintro e w' ⟨rfl, rfl⟩
    go_wp2
    go_ret
    exact ⟨by simp [*], by simp [*]⟩
  · have hm' : j * b = m := by rw [← hm, ← hj]; rfl
    have hA : (b : Int) * (j : Int) = (m : Int) := by rw [← hm', Int.natCast_mul, Int.mul_comm]
    have hA' : (j : Int) * (b : Int) = (m : Int) := by rw [← hm', Int.natCast_mul]
    have hmb : m ≤ 20 * (n + 20) := by rw [← hm', Nat.mul_comm]; exact Nat.mul_le_mul (by omega) hjn
    clear hm hm' hj hv
    have HNX := Lib.hid (fun W : World => needT_ex W (a : Int) (b : Int) du (z : Int) cr true)
    have cT := (Blk.new w 36 #[.int .i64 (a : Int), .int .i64 (b : Int), .int .i64 du, .int .i64 (z : Int), .bool cr]).cell
    go_enter Try.func115, Try.ntmps115
    go_wp2_with fail
    refine (HNX.out _).mono ?_
    rintro e w' ⟨rfl, rfl⟩
    go_wp2
    go_ret
    exact ⟨by simp [*], by simp [*]⟩

set_option maxHeartbeats 1000000 in
theorem sDemand_is (w : World) (lo hi du ev : Int) (cr : Bool) (n : Nat) (hb : Bool) (m : Nat) (hv : validB lo hi du ev cr = true) (hn : n ≤ 100000000) (hm : dmd ⟨lo, hi, du, ev, cr⟩ n hb = m) :
    Calls Try.prog 106 #[.agg #[.int .i64 lo, .int .i64 hi, .int .i64 du, .int .i64 ev, .bool cr], .int .i64 (n : Int), .bool hb] w fun e w' =>
      e = .returned (.int .i64 (m : Int)) ∧ w.alloc (.cells #[.int .i64 lo, .int .i64 hi, .int .i64 du, .int .i64 ev, .bool cr] 36) = w' := by
  obtain ⟨h1, h2, h3, h4, h5, _⟩ := ok_parts (t := ⟨lo, hi, du, ev, cr⟩) hv
  dsimp only at h1 h2 h3 h4 h5
  obtain ⟨a, rfl⟩ := Int.eq_ofNat_of_zero_le (show 0 ≤ lo by omega)
  obtain ⟨b, rfl⟩ := Int.eq_ofNat_of_zero_le (show 0 ≤ hi by omega)
  obtain ⟨z, rfl⟩ := Int.eq_ofNat_of_zero_le (show 0 ≤ ev by omega)
  obtain ⟨j, hj⟩ : ∃ j, (n + z - 1) / z = j := ⟨_, rfl⟩
  have hjn : j ≤ n + 20 := by rw [← hj]; exact Nat.le_trans (Nat.div_le_self _ _) (by omega)
  obtain ⟨q1, q2, q3⟩ := dem_cast (n := n) (z := z) (by omega) hj
  have hjp : 0 ≤ (j : Int) := by omega
  cases hb
  · have hm' : j * a = m := by rw [← hm, ← hj]; rfl
    have hA : (a : Int) * (j : Int) = (m : Int) := by rw [← hm', Int.natCast_mul, Int.mul_comm]
    have hA' : (j : Int) * (a : Int) = (m : Int) := by rw [← hm', Int.natCast_mul]
    have hmb : m ≤ 20 * (n + 20) := by rw [← hm', Nat.mul_comm]; exact Nat.mul_le_mul (by omega) hjn
    clear hm hm' hj hv
    go_enter Try.func106, Try.ntmps106
    go_wp2
    go_ret
    exact ⟨by simp [*], by simp [*]⟩
  · have hm' : j * b = m := by rw [← hm, ← hj]; rfl
    have hA : (b : Int) * (j : Int) = (m : Int) := by rw [← hm', Int.natCast_mul, Int.mul_comm]
    have hA' : (j : Int) * (b : Int) = (m : Int) := by rw [← hm', Int.natCast_mul]
    have hmb : m ≤ 20 * (n + 20) := by rw [← hm', Nat.mul_comm]; exact Nat.mul_le_mul (by omega) hjn
    clear hm hm' hj hv
    go_enter Try.func106, Try.ntmps106
    go_wp2
    go_ret
    exact ⟨by simp [*], by simp [*]⟩

/-- What the demand of a task is, and whether there is one. -/
def dmOf (t : Tk) (win : Int) (hb : Bool) : Nat × Bool := if t.ok && (decide (0 ≤ win) && decide (win ≤ 1000000)) then (dmd t win.toNat hb, true) else (0, false)
end

section
/- Parts of tasks that lie in memory. -/
open Go.RowKit
theorem Tks.take {w : World} {B : Nat} {A : Option Addr} {n k : Nat} {ts : List Tk} (h : Tks w B A n ts) (hk : k ≤ n) : Tks w B A k (ts.take k) :=
  ⟨by rw [List.length_take, h.len]; omega, fun i t ht => h.at_ i t (by
    rw [List.getElem?_take] at ht
    split at ht
    · exact ht
    · cases ht)⟩
theorem Tks.drop {w : World} {B b o : Nat} {n k m : Nat} {ts : List Tk} (h : Tks w B (some ⟨b, o, none⟩) n ts) (hm : m = o + k * 5) : Tks w B (some ⟨b, m, none⟩) (n - k) (ts.drop k) :=
  ⟨by rw [List.length_drop, h.len], fun i t ht => by
    rw [List.getElem?_drop] at ht
    obtain ⟨b', o', e, hb, hc⟩ := h.at_ _ _ ht
    injection e with e
    injection e with e1 e2
    subst e1 e2 hm
    refine ⟨b, _, rfl, hb, ?_⟩
    rw [show o + k * 5 + i * 5 = o + (k + i) * 5 by omega]
    exact hc⟩
theorem Tks.none_ {w : World} {B : Nat} {A : Option Addr} : Tks w B A 0 [] := ⟨rfl, fun i t ht => by simp at ht⟩
end

section
/- Contracts of the program's ResponseLow and of what it calls: sums of demands, its closure. Nothing that was there is written. -/
open Go.RowKit
set_option linter.unusedVariables false

def NumIs (m : Nat) (w : World) (e : Ending) (w' : World) : Prop := e = .returned (.int .i64 (m : Int)) ∧ Below w.heap.size w w'

theorem take_all {ts : List Tk} {k : Nat} (h : ts.length ≤ k) : ts.take k = ts := List.take_of_length_le h
theorem get_at {ts : List Tk} {k n : Nat} (h : ts.length = n) (hk : k < n) : ∃ t, ts[k]? = some t := ⟨ts[k]'(by omega), List.getElem?_eq_getElem _⟩

set_option maxHeartbeats 1000000 in
theorem iDemLow_is (w : World) (A : Option Addr) (n c : Nat) (ts : List Tk) (h : Tks w w.heap.size A n ts) (hs : setB ts = true) (x m : Nat) (hx : x ≤ 10000000) (hm : dLow ts x = m) :
    Calls Try.prog 112 #[.slice A n c, .int .i64 (x : Int)] w (NumIs m w) := by
  have H := Lib.hid h
  have HL := Lib.hid h.len
  have HS := Lib.hid hs
  have HM := Lib.hid hm
  have h5 : n ≤ 5 := by have := setB_len hs; rw [HL.out] at this; exact this
  clear h hs hm
  go_enter Try.func112, Try.ntmps112
  go_wp2
  go_loopw [5, 10] (fun s i wr => ∃ k : Nat, k ≤ n ∧ i = .int .i64 k ∧ s = .int .i64 (dLow (ts.take k) x : Nat) ∧ Below w.heap.size w wr) (fun _ i _ => n - (intOf i).toNat)
  case atStart => exact ⟨0, Nat.zero_le _, rfl, rfl, Below.refl _ _⟩
  case round =>
    obtain ⟨k, hk, rfl, rfl, hb⟩ := hrel
    have HB := Lib.hid hb
    clear hb
    by_cases hlt : k < n
    · obtain ⟨t, ht⟩ := get_at HL.out hlt
      obtain ⟨b, o, rfl, hbl, c0, c1, c2, c3, c4⟩ := (H.out.below HB.out).at_ k t ht
      have HT := Lib.hid (dLow_take ht x)
      have HV := Lib.hid (set_ok HS.out (get_mem ht))
      have hb1 := dLow_bound (set_take HS.out k) x
      have hb2 := dmd_bound HV.out x false
      obtain ⟨lo, hi, du, ev, cr⟩ := t
      dsimp only at c0 c1 c2 c3 c4
      obtain ⟨d, hd⟩ : ∃ d, dmd ⟨lo, hi, du, ev, cr⟩ x false = d := ⟨_, rfl⟩
      rw [hd] at hb2
      have HT' : Hid (dLow (ts.take (k + 1)) x = dLow (ts.take k) x + d) := by have := HT.out; rw [hd] at this; exact this
      have HD := Lib.hid hd
      clear ht hd HT
      generalize dLow (ts.take k) x = s at *
      have hsz := HB.out.size
      go_wp2_with (go_at_call 115; refine (iDemand_is _ lo hi du ev cr x false d HV.out (by omega) HD.out).mono ?_; rintro e w2 ⟨rfl, rfl⟩)
      go_roundw
      case rel => exact ⟨k + 1, by omega, by go_num, by rw [HT'.out]; go_num, by repeat (first | with_reducible exact HB.out | refine bl_alloc ?_ _ | refine bl_set ?_ (by simp; omega) _)⟩
      case measure => simp [intOf]; omega
    · obtain rfl : k = n := by omega
      have hbd := dLow_bound HS.out x
      have HE : Hid (dLow (ts.take k) x = m) := by show _ = _; rw [take_all (by rw [HL.out]; omega)]; exact HM.out
      go_wp2
      go_ret
      exact ⟨by rw [HE.out]; rfl, HB.out⟩

set_option maxHeartbeats 1000000 in
theorem iCloLow_is (w : World) (Bt Bs : Nat) (A : Option Addr) (k c : Nat) (us : List Tk) (lo : Nat) (hT : w.cell? ⟨Bt, 0, none⟩ = some (.int .i64 (lo : Int))) (hS : w.cell? ⟨Bs, 0, none⟩ = some (.slice A k c)) (hTs : Tks w w.heap.size A k us) (hs : setB us = true) (hlo : lo ≤ 20) (x m : Nat) (hx : x ≤ 10000000) (hm : lo + dLow us x = m) (hbt : Bt < w.heap.size) (hbs : Bs < w.heap.size) :
    Calls Try.prog 111 #[.int .i64 (x : Int), .pointer (some ⟨Bt, 0, none⟩), .pointer (some ⟨Bs, 0, none⟩)] w (NumIs m w) := by
  have H := Lib.hid hTs
  have HS := Lib.hid hs
  obtain ⟨d, hd⟩ : ∃ d, dLow us x = d := ⟨_, rfl⟩
  have hdb := dLow_bound hs x
  rw [hd] at hm hdb
  subst hm
  have HD := Lib.hid hd
  have kw : IntKind.i64.wrap ((lo : Int) + (d : Int)) = (lo : Int) + (d : Int) := IntWalk.i64_in _ (by omega)
  have hS0 : w.cell? ⟨Bt, 0, none⟩ = some (.int .i64 (lo : Int)) ∧ w.cell? ⟨Bs, 0, none⟩ = some (.slice A k c) := ⟨hT, hS⟩
  clear hTs hs hd
  go_enter Try.func111, Try.ntmps111
  go_wp2_with fail
  go_region_held3 (fun W => W.cell? ⟨Bt, 0, none⟩ = some (.int .i64 (lo : Int)) ∧ W.cell? ⟨Bs, 0, none⟩ = some (.slice A k c)) (first | exact hS0 | exact hS2)
    ((first
      | (go_at_call 112; refine (iDemLow_is _ A k c us ?_ HS.out x d hx HD.out).mono ?_; exact H.out.below (by repeat (first | with_reducible exact Below.refl w.heap.size w | with_reducible refine Below.drew ?_ | with_reducible refine bl_drewN ?_ _)); rintro e w2 ⟨rfl, hb⟩; have HB2 := Lib.hid (show Below w.heap.size w w2 from bl_trans (by repeat (first | with_reducible exact Below.refl w.heap.size w | with_reducible refine bl_drewN ?_ _ | with_reducible refine Below.drew ?_)) hb); have hS2 : w2.cell? ⟨Bt, 0, none⟩ = some (.int .i64 (lo : Int)) ∧ w2.cell? ⟨Bs, 0, none⟩ = some (.slice A k c) := ⟨(HB2.out.cell (p := ⟨Bt, 0, none⟩) hbt).trans hT, (HB2.out.cell (p := ⟨Bs, 0, none⟩) hbs).trans hS⟩; clear hb)))
  go_wp2
  go_ret
  exact ⟨by first | rfl | go_num, HB2.out⟩

set_option maxHeartbeats 1000000 in
theorem iHas_is (w : World) (A : Option Addr) (n c : Nat) (ts : List Tk) (a : Int) (h : Tks w w.heap.size A n ts) (hn : n ≤ 1048576) (b : Bool) (hb : (setB ts && (decide (0 ≤ a) && decide (a < (n : Int)))) = b) :
    Calls Try.prog 79 #[.slice A n c, .int .i64 a] w fun e w' => e = .returned (.bool b) ∧ Below w.heap.size w w' := by
  have H := Lib.hid h
  clear h
  cases hs : setB ts
  · subst hb
    go_enter Try.func79, Try.ntmps79
    go_wp2_with (go_at_call 30; refine (iSetValid_any _ A n c ts H.out hn).mono ?_; rintro e w2 ⟨rfl, hb2⟩)
    go_ret
    exact ⟨by simp [hs], hb2⟩
  rw [hs, Bool.true_and] at hb
  by_cases h0 : 0 ≤ a
  · by_cases h1 : a < (n : Int)
    · rw [decide_eq_true h0, decide_eq_true h1] at hb
      subst hb
      go_enter Try.func79, Try.ntmps79
      go_wp2_with (go_at_call 30; refine (iSetValid_any _ A n c ts H.out hn).mono ?_; rintro e w2 ⟨rfl, hb2⟩)
      go_ret
      exact ⟨by simp [*], hb2⟩
    · rw [decide_eq_true h0, decide_eq_false h1] at hb
      subst hb
      go_enter Try.func79, Try.ntmps79
      go_wp2_with (go_at_call 30; refine (iSetValid_any _ A n c ts H.out hn).mono ?_; rintro e w2 ⟨rfl, hb2⟩)
      go_ret
      exact ⟨by simp [*], hb2⟩
  · rw [decide_eq_false h0] at hb
    subst hb
    go_enter Try.func79, Try.ntmps79
    go_wp2_with (go_at_call 30; refine (iSetValid_any _ A n c ts H.out hn).mono ?_; rintro e w2 ⟨rfl, hb2⟩)
    go_ret
    exact ⟨by simp [*], hb2⟩

theorem cloLow_next (w : World) (Bt Bs : Nat) (A : Option Addr) (k c : Nat) (us : List Tk) (lo hi du : Nat) (h1 h2 h3 h4 : Value) (hT : Blk w Bt 36 #[.int .i64 (lo : Int), h1, h2, h3, h4]) (hS : Blk w Bs 23 #[.slice A k c]) (hTs : Tks w w.heap.size A k us) (hs : setB us = true) (hlo : lo ≤ 20) (hdu : du ≤ 10000000) :
    NextIs 111 #[.pointer (some ⟨Bt, 0, none⟩), .pointer (some ⟨Bs, 0, none⟩)] (fun x => lo + dLow us x) lo du w := fun W x h1 h2 hb =>
  iCloLow_is W Bt Bs A k c us lo ((hb.cell (p := ⟨Bt, 0, none⟩) hT.lt).trans (hT.cell 0)) ((hb.cell (p := ⟨Bs, 0, none⟩) hS.lt).trans (hS.cell 0)) ((hTs.below hb).more hb.size) hs hlo x _ (by omega) rfl (Nat.lt_of_lt_of_le hT.lt hb.size) (Nat.lt_of_lt_of_le hS.lt hb.size)
theorem blk_second (w : World) (o : Obj) (t : TypeId) (cs : Array Value) : Blk ((w.alloc o).alloc (.cells cs t)) (w.heap.size + 1) t cs := by
  have h := Blk.new (w.alloc o) t cs
  simp only [World.size_alloc] at h
  exact h

/-- A task's longest response at a place that may be none. -/
def atI (f : Nat → Option Nat) (a : Int) : Option Nat := if 0 ≤ a then f a.toNat else none

set_option maxRecDepth 100000 in
set_option maxHeartbeats 2000000 in
theorem iRLow_is (w : World) (A : Option Addr) (n c : Nat) (ts : List Tk) (a : Int) (h : Tks w w.heap.size A n ts) (hn : n ≤ 1048576) (hnc : n ≤ c) (v : Nat) (b : Bool) (hv : resN (atI (rLow ts) a) = (v, b)) :
    Calls Try.prog 102 #[.slice A n c, .int .i64 a] w (NbRes v b w) := by
  have H := Lib.hid h
  have HL := Lib.hid h.len
  clear h
  cases hh : (setB ts && (decide (0 ≤ a) && decide (a < (n : Int))))
  · have hr : atI (rLow ts) a = none := by
      unfold atI
      split
      · rename_i h0
        cases hs : setB ts
        · exact rLow_bad _ hs
        · rw [hs, Bool.true_and, decide_eq_true h0, Bool.true_and] at hh
          have h1 : ¬ a < (n : Int) := of_decide_eq_false hh
          exact rLow_past (List.getElem?_eq_none (by have := HL.out; omega))
      · rfl
    rw [hr] at hv
    obtain ⟨rfl, rfl⟩ := Prod.mk.inj hv
    have HH := Lib.hid hh
    clear hr hv hh
    go_enter Try.func102, Try.ntmps102
    go_wp2_with (go_at_call 79; refine (iHas_is _ A n c ts a H.out hn false HH.out).mono ?_; rintro e w1 ⟨rfl, hb⟩)
    go_ret2
    exact ⟨rfl, hb⟩
  have HH := Lib.hid hh
  rw [Bool.and_eq_true, Bool.and_eq_true, decide_eq_true_iff, decide_eq_true_iff] at hh
  obtain ⟨hs, h0, h1⟩ := hh
  obtain ⟨k, rfl⟩ := Int.eq_ofNat_of_zero_le h0
  have hk : k < n := by omega
  obtain ⟨t, ht⟩ := get_at HL.out hk
  have hr : atI (rLow ts) (k : Int) = respOf (ts.take k) t.lo.toNat t.du.toNat := by
    unfold atI; rw [if_pos h0]; exact rLow_at hs ht
  rw [hr] at hv
  have hok := ok_parts (set_ok hs (get_mem ht))
  have HS := Lib.hid (set_take hs k)
  have HT := Lib.hid ht
  have HV := Lib.hid hv
  clear hr hv ht hs
  obtain ⟨lo, hi, du, ev, cr⟩ := t
  dsimp only at hok HV
  obtain ⟨p1, p2, p3, p4, p5, _⟩ := hok
  obtain ⟨lo, rfl⟩ := Int.eq_ofNat_of_zero_le (show 0 ≤ lo by omega)
  obtain ⟨du, rfl⟩ := Int.eq_ofNat_of_zero_le (show 0 ≤ du by omega)
  go_enter Try.func102, Try.ntmps102
  go_wp2_with fail
  refine (iHas_is _ A n c ts (k : Int) H.out hn true HH.out).mono ?_
  rintro e w1 ⟨rfl, hb⟩
  have HB1 := Lib.hid hb
  have hsz := hb.size
  obtain ⟨bb, o, rfl, hbl, c0, c1, c2, c3, c4⟩ := (H.out.below hb).at_ k _ HT.out
  dsimp only at c0 c1 c2 c3 c4
  have HTk := Lib.hid (Tks.take ((H.out.below hb).more hb.size) (show k ≤ n by omega))
  clear hb
  have hbl1 : bb < w1.heap.size := by omega
  have hbl2 : bb < w1.heap.size + 1 := by omega
  have i1 : (k : Int) < (n : Int) := h1
  have i2 : (k : Int) ≤ (c : Int) := by omega
  have i3 : ¬ (c : Int) < (k : Int) := by omega
  go_wp2
  go_region
  all_goals go_wp2_with fail
  · refine (iLeast_is _ lo du 111 _ (fun x => lo + dLow (ts.take k) x) v b HV.out (resp_mono _ lo) (fun x _ => Nat.le_add_right _ _) (fun x hx => by have := dLow_bound HS.out x; omega) (by omega) (by omega) (fun _ _ => rfl) (cloLow_next _ _ _ (some ⟨bb, o, none⟩) k c (ts.take k) lo 0 du _ _ _ _ (((Blk.new w1 _ _).alloc _).drewN 1) ((blk_second w1 _ _ _).drewN 1) ((HTk.out.below (bl_drewN (bl_alloc (bl_alloc (Below.refl w1.heap.size w1) _) _) 1)).more (bl_drewN (bl_alloc (bl_alloc (Below.refl w1.heap.size w1) _) _) 1).size) HS.out (by omega) (by omega))).mono ?_
    rintro e w2 ⟨rfl, hb2⟩
    go_wp2
    go_ret2
    exact ⟨rfl, bl_trans (bl_drewN (bl_alloc (bl_alloc HB1.out _) _) 1) hb2⟩
  · refine (iLeast_is _ lo du 111 _ (fun x => lo + dLow (ts.take k) x) v b HV.out (resp_mono _ lo) (fun x _ => Nat.le_add_right _ _) (fun x hx => by have := dLow_bound HS.out x; omega) (by omega) (by omega) (fun _ _ => rfl) (cloLow_next _ _ _ (some ⟨bb, o, none⟩) k c (ts.take k) lo 0 du _ _ _ _ ((blk_second w1 _ _ _).drewN 1) (((Blk.new w1 _ _).alloc _).drewN 1) ((HTk.out.below (bl_drewN (bl_alloc (bl_alloc (Below.refl w1.heap.size w1) _) _) 1)).more (bl_drewN (bl_alloc (bl_alloc (Below.refl w1.heap.size w1) _) _) 1).size) HS.out (by omega) (by omega))).mono ?_
    rintro e w2 ⟨rfl, hb2⟩
    go_wp2
    go_ret2
    exact ⟨rfl, bl_trans (bl_drewN (bl_alloc (bl_alloc HB1.out _) _) 1) hb2⟩
end

section
/- Contract of the reference's ResponseLow. Nothing that was there is written. -/
open Go.RowKit
set_option linter.unusedVariables false

theorem Tks.get {w : World} {B b o n : Nat} {ts : List Tk} (h : Tks w B (some ⟨b, o, none⟩) n ts) {i : Nat} {t : Tk} (ht : ts[i]? = some t) : b < B ∧ TkAt w b (o + i * 5) t := by
  obtain ⟨b', o', e, hb, hc⟩ := h.at_ i t ht
  injection e with e
  injection e with e1 e2
  subst e1 e2
  exact ⟨hb, hc⟩

set_option maxHeartbeats 1000000 in
theorem sAt_is (w : World) (A : Option Addr) (n c : Nat) (ts : List Tk) (a : Int) (h : Tks w w.heap.size A n ts) (hn : n ≤ 1048576) (b : Bool) (hb : (setB ts && (decide (0 ≤ a) && decide (a < (n : Int)))) = b) :
    Calls Try.prog 77 #[.slice A n c, .int .i64 a] w fun e w' => e = .returned (.bool b) ∧ Below w.heap.size w w' := by
  have H := Lib.hid h
  clear h
  cases hs : setB ts
  · subst hb
    go_enter Try.func77, Try.ntmps77
    go_wp2_with (go_at_call 57; refine (sSetValid_any _ A n c ts H.out hn).mono ?_; rintro e w2 ⟨rfl, hb2⟩)
    go_ret
    exact ⟨by simp [hs], hb2⟩
  rw [hs, Bool.true_and] at hb
  by_cases h0 : 0 ≤ a
  · by_cases h1 : a < (n : Int)
    · rw [decide_eq_true h0, decide_eq_true h1] at hb
      subst hb
      go_enter Try.func77, Try.ntmps77
      go_wp2_with (go_at_call 57; refine (sSetValid_any _ A n c ts H.out hn).mono ?_; rintro e w2 ⟨rfl, hb2⟩)
      go_ret
      exact ⟨by simp [*], hb2⟩
    · rw [decide_eq_true h0, decide_eq_false h1] at hb
      subst hb
      go_enter Try.func77, Try.ntmps77
      go_wp2_with (go_at_call 57; refine (sSetValid_any _ A n c ts H.out hn).mono ?_; rintro e w2 ⟨rfl, hb2⟩)
      go_ret
      exact ⟨by simp [*], hb2⟩
  · rw [decide_eq_false h0] at hb
    subst hb
    go_enter Try.func77, Try.ntmps77
    go_wp2_with (go_at_call 57; refine (sSetValid_any _ A n c ts H.out hn).mono ?_; rintro e w2 ⟨rfl, hb2⟩)
    go_ret
    exact ⟨by simp [*], hb2⟩

set_option maxRecDepth 100000 in
set_option maxHeartbeats 2000000 in
theorem sRLow_is (w : World) (A : Option Addr) (n c : Nat) (ts : List Tk) (a : Int) (h : Tks w w.heap.size A n ts) (hn : n ≤ 1048576) (v : Nat) (b : Bool) (hv : resN (atI (rLow ts) a) = (v, b)) :
    Calls Try.prog 105 #[.slice A n c, .int .i64 a] w (NbRes v b w) := by
  have H := Lib.hid h
  have HL := Lib.hid h.len
  clear h
  cases hh : (setB ts && (decide (0 ≤ a) && decide (a < (n : Int))))
  · have hr : atI (rLow ts) a = none := by
      unfold atI
      split
      · rename_i h0
        cases hs : setB ts
        · exact rLow_bad _ hs
        · rw [hs, Bool.true_and, decide_eq_true h0, Bool.true_and] at hh
          have h1 : ¬ a < (n : Int) := of_decide_eq_false hh
          exact rLow_past (List.getElem?_eq_none (by have := HL.out; omega))
      · rfl
    rw [hr] at hv
    obtain ⟨rfl, rfl⟩ := Prod.mk.inj hv
    have HH := Lib.hid hh
    clear hr hv hh
    go_enter Try.func105, Try.ntmps105
    go_wp2_with (go_at_call 77; refine (sAt_is _ A n c ts a H.out hn false HH.out).mono ?_; rintro e w1 ⟨rfl, hb⟩)
    go_ret2
    exact ⟨rfl, hb⟩
  have HH := Lib.hid hh
  rw [Bool.and_eq_true, Bool.and_eq_true, decide_eq_true_iff, decide_eq_true_iff] at hh
  obtain ⟨hs, h0, h1⟩ := hh
  obtain ⟨k, rfl⟩ := Int.eq_ofNat_of_zero_le h0
  have hk : k < n := by omega
  obtain ⟨t, ht⟩ := get_at HL.out hk
  have hr : atI (rLow ts) (k : Int) = respOf (ts.take k) t.lo.toNat t.du.toNat := by
    unfold atI; rw [if_pos h0]; exact rLow_at hs ht
  rw [hr] at hv
  have hok := ok_parts (set_ok hs (get_mem ht))
  have HSS := Lib.hid hs
  have HS := Lib.hid (set_take hs k)
  have HT := Lib.hid ht
  have HV := Lib.hid hv
  clear hr hv hs
  obtain ⟨bb, o, rfl, hbl, _⟩ := H.out.at_ k _ ht
  clear ht
  obtain ⟨lo, hi, du, ev, cr⟩ := t
  dsimp only at hok HV
  obtain ⟨p1, p2, p3, p4, p5, _⟩ := hok
  obtain ⟨lo, rfl⟩ := Int.eq_ofNat_of_zero_le (show 0 ≤ lo by omega)
  obtain ⟨du, rfl⟩ := Int.eq_ofNat_of_zero_le (show 0 ≤ du by omega)
  have HV' : Hid (resN (leastN (fun y => lo + dLow (ts.take k) y) lo du) = (v, b)) := HV.out
  go_enter Try.func105, Try.ntmps105
  go_wp2_with fail
  refine (sAt_is _ _ n c ts (k : Int) H.out hn true HH.out).mono ?_
  rintro e w1 ⟨rfl, hb⟩
  have HB1 := Lib.hid hb
  have hsz := hb.size
  have C1 := (Tks.get (H.out.below hb) HT.out).2
  have c0 := C1.c0
  clear C1 hb
  have i1 : (k : Int) < (n : Int) := h1
  go_wp2
  go_loopw [6] (fun i wr => ∃ x : Nat, i = .int .i64 x ∧ x ≤ 1000000 ∧ Hid (NoneBelow (fun y => lo + dLow (ts.take k) y) lo x) ∧ Below w.heap.size w wr) (fun i _ => du + 1 - (intOf i).toNat)
  case atStart => exact ⟨lo, rfl, by omega, none_start _ lo, HB1.out⟩
  case round =>
    obtain ⟨x, rfl, hx, HN, hb⟩ := hrel
    have HB := Lib.hid hb
    have hsz2 := hb.size
    have C2 := (Tks.get (H.out.below hb) HT.out).2
    have d0 := C2.c0
    have d2 := C2.c2
    dsimp only at d0 d2
    clear C2 hb
    by_cases hxd : x ≤ du
    · have hxd' : (x : Int) ≤ (du : Int) := by omega
      go_wp2
      go_loopw [7, 8] (fun s i wr => ∃ j m : Nat, j ≤ k ∧ i = .int .i64 j ∧ s = .int .i64 (m : Int) ∧ Hid (m = lo + dLow (ts.take j) x) ∧ Below w.heap.size w wr) (fun _ i _ => k - (intOf i).toNat)
      case atStart => exact ⟨0, lo, Nat.zero_le _, rfl, rfl, (show lo = _ by simp [dLow]), HB.out⟩
      case round =>
        obtain ⟨j, m, hj, rfl, rfl, HM, hb3⟩ := hrel
        have HB3 := Lib.hid hb3
        have hsz3 := hb3.size
        clear hb3
        by_cases hjk : j < k
        · obtain ⟨u, hu⟩ := get_at HL.out (show j < n by omega)
          have C3 := (Tks.get (H.out.below HB3.out) hu).2
          have HVu := Lib.hid (set_ok HSS.out (get_mem hu))
          have HTu := Lib.hid (dLow_take hu x)
          have hb1 := dLow_bound (set_take HSS.out j) x
          have hb2 := dmd_bound HVu.out x false
          obtain ⟨d, hd⟩ : ∃ d, dmd u x false = d := ⟨_, rfl⟩
          rw [hd] at hb2
          have hm1 : m ≤ lo + 100 * (x + 20) := by rw [HM.out]; omega
          have HM' : Hid (m + d = lo + dLow (ts.take (j + 1)) x) := by show _ = _; rw [HTu.out, hd, HM.out]; omega
          have HD := Lib.hid hd
          clear hd hu HTu hb1
          obtain ⟨lo', hi', du', ev', cr'⟩ := u
          obtain ⟨g0, g1, g2, g3, g4⟩ := C3
          dsimp only at g0 g1 g2 g3 g4
          have i2 : (j : Int) < (n : Int) := by omega
          go_wp2_with (go_at_call 106; refine (sDemand_is _ lo' hi' du' ev' cr' x false d HVu.out (by omega) HD.out).mono ?_; rintro e w2 ⟨rfl, rfl⟩)
          go_roundw
          case rel => exact ⟨j + 1, m + d, by omega, by go_num, by go_num, HM', bl_alloc HB3.out _⟩
          case measure => simp [intOf]; omega
        · obtain rfl : j = k := by omega
          have hmb : m ≤ lo + 100 * (x + 20) := by have := dLow_bound HS.out x; rw [HM.out]; omega
          by_cases he : m = x
          · have hei : (m : Int) = (x : Int) := by omega
            obtain ⟨rfl, rfl⟩ : x = v ∧ true = b := Prod.mk.inj (by rw [← HV'.out, least_hit HN.out hxd (by rw [← he]; exact (by rw [he]; exact HM.out.symm.trans he))]; rfl)
            go_wp2
            go_ret2
            exact ⟨rfl, HB3.out⟩
          · have hei : ¬ (m : Int) = (x : Int) := by omega
            have hnx := none_step (resp_mono (ts.take j) lo) (fun y _ => Nat.le_add_right lo (dLow (ts.take j) y)) HN.out
            have hlt := none_le (resp_mono (ts.take j) lo) (fun y _ => Nat.le_add_right lo (dLow (ts.take j) y)) HN.out
            have hnm : Hid (NoneBelow (fun y => lo + dLow (ts.take j) y) lo m) := by show NoneBelow _ _ _; rw [HM.out]; exact hnx
            have hlm : x ≤ m := by rw [HM.out]; exact hlt
            clear hnx hlt
            go_wp2
            go_roundw
            case rel => exact ⟨m, rfl, by omega, hnm, HB3.out⟩
            case measure => simp [intOf]; omega
    · have hxd' : ¬ (x : Int) ≤ (du : Int) := by omega
      obtain ⟨rfl, rfl⟩ : 0 = v ∧ false = b := Prod.mk.inj (by rw [← HV'.out, least_past HN.out (by omega)]; rfl)
      go_wp2
      go_ret2
      exact ⟨rfl, HB.out⟩
end

section
/- Contracts of what the reference draws as arguments that are lists of tasks; nothing that was there is written. -/
open Go.RowKit

theorem drewList {w w1 w2 : World} {v : Value} {ts : List Tk} (h1 : Below w.heap.size w w1) (h2 : w1.grownBy w2 (some w.heap.size)) (ho : Own w2 w1.heap.size v ts) (hl : ts.length ≤ 6) (hg : ∀ t ∈ ts, smallTk t) :
    DrewList 6 smallTk w (.returned v) w2 := by
  obtain ⟨A, c, rfl⟩ := ho.form
  refine ⟨A, c, ts, rfl, hl, hg, ?_, below_of_gb h1 h2 h1.size (Nat.le_refl _)⟩
  refine ⟨ho.1, ?_⟩
  rcases ho.2 with h | ⟨g, cap, cur, e, hb, rest⟩
  · exact .inl h
  · exact .inr ⟨g, cap, cur, e, Nat.le_trans h1.size hb, rest⟩
end

section
/- The walks of the laws on critical tasks. -/
open Go.RowKit

theorem critOf_len (ts : List Tk) : (critOf ts).length ≤ ts.length := by
  unfold critOf; split
  · exact critL_len ts
  · simp

theorem ok_crit {t : Tk} (h : t.ok = true) : Tk.ok ⟨t.hi, t.hi, t.du, t.ev, t.cr⟩ = true := by
  unfold Tk.ok validB at *
  simp at h ⊢
  omega

theorem critL_mem {ts : List Tk} {t : Tk} (h : t ∈ critL ts) : ∃ u ∈ ts, u.cr = true ∧ t = ⟨u.hi, u.hi, u.du, u.ev, u.cr⟩ := by
  unfold critL at h
  rw [List.mem_map] at h
  obtain ⟨u, hu, rfl⟩ := h
  rw [List.mem_filter] at hu
  exact ⟨u, hu.1, hu.2, rfl⟩

theorem crit_facts {ts us : List Tk} (hs : setB ts = true) (hu : us = critOf ts) : setB us = true ∧ critOf us = us ∧ us.length ≤ ts.length ∧ ∀ t ∈ us, t.cr = true ∧ t.lo = t.hi := by
  have e : us = critL ts := by rw [hu]; simp [critOf, hs]
  have hall : ∀ t ∈ us, t.cr = true ∧ t.lo = t.hi := fun t ht => by
    rw [e] at ht
    obtain ⟨u, _, h2, rfl⟩ := critL_mem ht
    exact ⟨h2, rfl⟩
  have hsu : setB us = true := by
    unfold setB at hs ⊢
    simp at hs ⊢
    refine ⟨by rw [e]; exact Nat.le_trans (critL_len ts) hs.1, fun t ht => ?_⟩
    rw [e] at ht
    obtain ⟨u, hu, _, rfl⟩ := critL_mem ht
    exact ok_crit (hs.2 u hu)
  refine ⟨hsu, ?_, by rw [e]; exact critL_len ts, hall⟩
  have e1 : critOf us = critL us := by simp [critOf, hsu]
  rw [e1]
  clear e e1 hsu hu hs
  induction us with
  | nil => rfl
  | cons t us ih =>
    obtain ⟨a, b⟩ := hall t (by simp)
    have := ih (fun t ht => hall t (by simp [ht]))
    unfold critL at this ⊢
    rw [List.filter_cons, a]
    simp only [if_true, List.map_cons, this]
    obtain ⟨lo, hi, du, ev, cr⟩ := t
    simp at a b
    subst b
    rfl
end

section
/- Contracts of ResponseHigh, in the program and in the reference. Nothing that was there is written. -/
open Go.RowKit
set_option linter.unusedVariables false

theorem own_le {w : World} {B c : Nat} {A : Option Addr} {ts : List Tk} (h : Own w B (.slice A ts.length c) ts) : ts.length ≤ c := by
  rcases h.2 with ⟨e, h0⟩ | ⟨g, cap, cur, e, _, _, h1, h2, _⟩
  · omega
  · injection e with e1 e2 e3
    subst e3
    exact h1
theorem has_no {ts : List Tk} {n : Nat} {a : Int} (hl : ts.length = n) (h : (setB ts && (decide (0 ≤ a) && decide (a < (n : Int)))) = false) (f : Nat → Option Nat) (hb : ∀ k, setB ts = false → f k = none) (hp : ∀ k, ts[k]? = none → f k = none) : atI f a = none := by
  unfold atI
  split
  · rename_i h0
    cases hs : setB ts
    · exact hb _ hs
    · rw [hs, Bool.true_and, decide_eq_true h0, Bool.true_and] at h
      have h1 : ¬ a < (n : Int) := of_decide_eq_false h
      exact hp _ (List.getElem?_eq_none (by omega))
  · rfl
end

section
/- What the walks of chapter 3's laws share (no program text). -/
open Go.RowKit
set_option linter.unusedVariables false

theorem tks_to {w1 W : World} {A : Option Addr} {n : Nat} {ts : List Tk} (h : Tks w1 w1.heap.size A n ts) (hb : Below w1.heap.size w1 W) : Tks W W.heap.size A n ts := (h.below hb).more hb.size
theorem res_false {o : Option Nat} {v : Nat} (h : resN o = (v, false)) : o = none ∧ 0 = v := by
  cases o with
  | none => exact ⟨rfl, (Prod.mk.inj h).1⟩
  | some x => cases (Prod.mk.inj h).2
theorem res_true {o : Option Nat} {v : Nat} (h : resN o = (v, true)) : o = some v := by
  cases o with
  | none => cases (Prod.mk.inj h).2
  | some x => rw [← (Prod.mk.inj h).1]; rfl
theorem at_some {f : Nat → Option Nat} {a : Int} {v : Nat} (h : atI f a = some v) : ∃ k : Nat, a = (k : Int) ∧ f k = some v := by
  unfold atI at h
  split at h
  · rename_i h0
    obtain ⟨k, rfl⟩ := Int.eq_ofNat_of_zero_le h0
    exact ⟨k, rfl, h⟩
  · cases h
theorem at_nat (f : Nat → Option Nat) (k : Nat) : atI f (k : Int) = f k := by unfold atI; rw [if_pos (by omega)]; rfl
/-- A task that responds. -/
theorem rLow_some {ts : List Tk} {k v : Nat} (h : rLow ts k = some v) : setB ts = true ∧ ∃ t, ts[k]? = some t ∧ respOf (ts.take k) t.lo.toNat t.du.toNat = some v := by
  cases hs : setB ts
  · rw [rLow_bad k hs] at h; cases h
  · cases ht : ts[k]? with
    | none => rw [rLow_past ht] at h; cases h
    | some t =>
      rw [rLow_at hs ht] at h
      exact ⟨rfl, t, rfl, h⟩
theorem resp_fix {xs : List Tk} {n d v : Nat} (h : respOf xs n d = some v) : n + dLow xs v = v ∧ n ≤ v ∧ v ≤ d ∧ ∀ x, n ≤ x → x < v → x < n + dLow xs x := by
  obtain ⟨h1, h2, _, h4⟩ := least_some.1 h
  exact ⟨least_fix (resp_mono xs n) (fun x _ => Nat.le_add_right _ _) h, h1, h2, h4⟩
theorem rHigh_some {ts : List Tk} {k v : Nat} (h : rHigh ts k = some v) : setB ts = true ∧ ∃ t, ts[k]? = some t ∧ t.cr = true ∧ respOf (critL (ts.take k)) t.hi.toNat t.du.toNat = some v := by
  cases hs : setB ts
  · rw [rHigh_bad k hs] at h; cases h
  · cases ht : ts[k]? with
    | none => rw [rHigh_past ht] at h; cases h
    | some t =>
      cases hc : t.cr
      · rw [rHigh_not ht hc] at h; cases h
      · rw [rHigh_is hs ht hc] at h
        exact ⟨rfl, t, rfl, hc, h⟩
/-- The demand of a valid task in a window that is no longer than may be. -/
theorem dm_ok {t : Tk} {x m : Nat} {hb : Bool} (h : t.ok = true) (hx : x ≤ 1000000) (hm : dmd t x hb = m) : dmOf t (x : Int) hb = (m, true) := by
  unfold dmOf
  rw [h, decide_eq_true (show (0 : Int) ≤ x by omega), decide_eq_true (show (x : Int) ≤ 1000000 by omega), ← hm]; rfl
theorem task_nat {t : Tk} (h : t.ok = true) : ∃ (a b d e : Nat) (c : Bool), t = ⟨a, b, d, e, c⟩ ∧ 1 ≤ a ∧ a ≤ b ∧ b ≤ d ∧ d ≤ e ∧ e ≤ 20 := by
  obtain ⟨h1, h2, h3, h4, h5, _⟩ := ok_parts h
  obtain ⟨lo, hi, du, ev, cr⟩ := t
  dsimp only at h1 h2 h3 h4 h5
  obtain ⟨a, rfl⟩ := Int.eq_ofNat_of_zero_le (show 0 ≤ lo by omega)
  obtain ⟨b, rfl⟩ := Int.eq_ofNat_of_zero_le (show 0 ≤ hi by omega)
  obtain ⟨d, rfl⟩ := Int.eq_ofNat_of_zero_le (show 0 ≤ du by omega)
  obtain ⟨e, rfl⟩ := Int.eq_ofNat_of_zero_le (show 0 ≤ ev by omega)
  exact ⟨a, b, d, e, cr, rfl, by omega, by omega, by omega, by omega, by omega⟩
theorem own_at0 {w : World} {B c : Nat} {A : Option Addr} {ts : List Tk} (h : Own w B (.slice A ts.length c) ts) (hl : 1 ≤ ts.length) : ∃ g, A = some ⟨g, 0, none⟩ := by
  rcases h.2 with ⟨e, h0⟩ | ⟨g, cap, cur, e, _, _, h1, h2, _⟩
  · omega
  · injection e with e1 e2 e3
    exact ⟨g, e1⟩
end

section
/- Switches, prefixes and critical tasks alone, as plain data (no program text). -/
open Go.RowKit
set_option linter.unusedVariables false

theorem rSwi_some {ts : List Tk} {k v : Nat} (h : rSwi ts k = some v) : setB ts = true ∧ ∃ t l, ts[k]? = some t ∧ t.cr = true ∧ rLow ts k = some l ∧ swiOf (ts.take k) l t.hi.toNat t.du.toNat = some v := by
  cases hl : rLow ts k with
  | none => rw [rSwi_none hl] at h; cases h
  | some l =>
    obtain ⟨hs, t, ht, hf⟩ := rLow_some hl
    cases hc : t.cr
    · rw [rSwi_not ht hc] at h; cases h
    · rw [rSwi_at hl ht hc] at h
      exact ⟨hs, t, l, ht, hc, rfl, h⟩
theorem swi_fix {xs : List Tk} {l n d v : Nat} (h : swiOf xs l n d = some v) : n + dSwi xs l v = v ∧ n ≤ v ∧ v ≤ d ∧ ∀ x, n ≤ x → x < v → x < n + dSwi xs l x := by
  obtain ⟨h1, h2, _, h4⟩ := least_some.1 h
  exact ⟨least_fix (swi_mono xs l n) (fun x _ => Nat.le_add_right _ _) h, h1, h2, h4⟩
theorem dLow_le_swi {ts : List Tk} (ho : ∀ t ∈ ts, t.ok = true) {l w : Nat} (h : w ≤ l) : dLow ts w ≤ dSwi ts l w := sum_le fun t ht => by
  unfold dmS; split
  · exact dmd_low (ho t ht) w true
  · exact dmd_mono t false h
/-- A response at the switch is no shorter than those in both modes. -/
theorem swi_longest {ts : List Tk} {k v : Nat} (h : rSwi ts k = some v) : ∃ l r, rLow ts k = some l ∧ rHigh ts k = some r ∧ l ≤ v ∧ r ≤ v := by
  obtain ⟨hs, t, l, ht, hc, hl, hf⟩ := rSwi_some h
  obtain ⟨x1, x2, x3, x4⟩ := swi_fix hf
  obtain ⟨_, t', ht', hr⟩ := rLow_some hl
  obtain rfl : t = t' := by rw [ht] at ht'; exact Option.some.inj ht'
  obtain ⟨y1, y2, y3, y4⟩ := resp_fix hr
  have o := ok_parts (set_ok hs (get_mem ht))
  have hh : ∃ r, rHigh ts k = some r ∧ r ≤ v := by
    rw [rHigh_is hs ht hc]
    have hd := dCrit_le (ts.take k) l v
    cases hx : respOf (critL (ts.take k)) t.hi.toNat t.du.toNat with
    | none =>
      have := least_none.1 hx v x2 x3
      omega
    | some r =>
      refine ⟨r, rfl, ?_⟩
      obtain ⟨z1, z2, z3, z4⟩ := resp_fix hx
      rcases Nat.lt_or_ge v r with hlt | hge
      · have := z4 v x2 hlt
        omega
      · exact hge
  obtain ⟨r, hr1, hr2⟩ := hh
  refine ⟨l, r, hl, hr1, ?_, hr2⟩
  rcases Nat.lt_or_ge v l with hlt | hge
  · have h1 := y4 v (by omega) hlt
    have h2 := dLow_le_swi (fun u hu => set_ok (set_take hs k) hu) (Nat.le_of_lt hlt) (l := l) (w := v)
    omega
  · exact hge

/-- The first task responds in what it needs. -/
theorem first_low {ts : List Tk} {t : Tk} (hs : setB ts = true) (h : ts[0]? = some t) : rLow ts 0 = some t.lo.toNat := by
  have o := ok_parts (set_ok hs (get_mem h))
  rw [rLow_at hs h]
  exact least_hit (none_start _ _) (by omega) (by simp [dLow])
theorem first_swi {ts : List Tk} {t : Tk} (hs : setB ts = true) (h : ts[0]? = some t) (hc : t.cr = true) : rSwi ts 0 = some t.hi.toNat := by
  have o := ok_parts (set_ok hs (get_mem h))
  rw [rSwi_at (first_low hs h) h hc]
  exact least_hit (none_start _ _) (by omega) (by simp [dSwi])
theorem first_both {ts : List Tk} {t : Tk} (hs : setB ts = true) (h : ts[0]? = some t) : bothAt ts 0 = true := by
  cases hc : t.cr
  · rw [both_no h hc, first_low hs h]; rfl
  · rw [both_cr h hc, first_swi hs h hc]; rfl
theorem one_good {t : Tk} (h : t.ok = true) : fBad [t] = none := by
  have hs : setB [t] = true := set_of (by simp) fun u hu => by simp at hu; rw [hu]; exact h
  refine fBad_none hs fun j hj => ?_
  obtain rfl : j = 0 := by simp at hj; exact hj
  exact first_both hs rfl

/-- What comes behind does not matter. -/
theorem take_get {ts : List Tk} {m j : Nat} (h : j < m) : (ts.take m)[j]? = ts[j]? := by rw [List.getElem?_take, if_pos h]
theorem take_take' {ts : List Tk} {m j : Nat} (h : j < m) : (ts.take m).take j = ts.take j := by rw [List.take_take, Nat.min_eq_left (Nat.le_of_lt h)]
theorem rLow_pre {ts : List Tk} {m j : Nat} (hs : setB ts = true) (h : j < m) : rLow (ts.take m) j = rLow ts j := by
  cases ht : ts[j]? with
  | none => rw [rLow_past ht, rLow_past (by rw [take_get h]; exact ht)]
  | some t => rw [rLow_at hs ht, rLow_at (set_take hs m) (by rw [take_get h]; exact ht), take_take' h]
theorem rSwi_pre {ts : List Tk} {m j : Nat} (hs : setB ts = true) (h : j < m) : rSwi (ts.take m) j = rSwi ts j := by
  cases hl : rLow ts j with
  | none => rw [rSwi_none hl, rSwi_none (by rw [rLow_pre hs h]; exact hl)]
  | some l =>
    obtain ⟨_, t, ht, _⟩ := rLow_some hl
    cases hc : t.cr
    · rw [rSwi_not ht hc, rSwi_not (by rw [take_get h]; exact ht) hc]
    · rw [rSwi_at hl ht hc, rSwi_at (by rw [rLow_pre hs h]; exact hl) (by rw [take_get h]; exact ht) hc, take_take' h]
theorem both_pre {ts : List Tk} {m j : Nat} (hs : setB ts = true) (h : j < m) : bothAt (ts.take m) j = bothAt ts j := by
  unfold bothAt
  rw [take_get h, rSwi_pre hs h, rLow_pre hs h]
theorem hBoth_pre {ts : List Tk} (h : hBoth ts = true) (m : Nat) : hBoth (ts.take m) = true := by
  obtain ⟨h1, h2⟩ := hBoth_iff.1 h
  refine hBoth_iff.2 ⟨set_take h1 m, fun k hk => ?_⟩
  rw [List.length_take] at hk
  rw [both_pre h1 (by omega)]
  exact h2 k (by omega)
theorem bad_pre {ts : List Tk} {k : Nat} (h : fBad ts = some k) : k < ts.length ∧ hBoth (ts.take k) = true ∧ hBoth (ts.take (k + 1)) = false := by
  obtain ⟨hs, hk, hb, ha⟩ := fBad_at h
  refine ⟨hk, hBoth_iff.2 ⟨set_take hs k, fun j hj => ?_⟩, ?_⟩
  · rw [List.length_take] at hj
    rw [both_pre hs (by omega)]
    exact ha j (by omega)
  · refine hBoth_no (k := k) (by rw [List.length_take]; omega) ?_
    rw [both_pre hs (by omega)]
    exact hb
theorem hBoth_low {ts : List Tk} (h : hBoth ts = true) : hLow ts = true := by
  obtain ⟨h1, h2⟩ := hBoth_iff.1 h
  exact hLow_iff.2 ⟨h1, fun k hk => both_low (h2 k hk)⟩

/-- Where a critical task comes from. -/
theorem crit_from : ∀ {ts : List Tk} {i : Nat}, i < (critL ts).length → ∃ k t, ts[k]? = some t ∧ t.cr = true ∧ (critL (ts.take k)).length = i
  | [], i, h => by simp [critL] at h
  | t :: ts, i, h => by
    have hc : critL (t :: ts) = critL [t] ++ critL ts := crit_app [t] ts
    cases hcr : t.cr
    · have h1 : critL [t] = [] := by simp [critL, hcr]
      rw [hc, h1, List.nil_append] at h
      obtain ⟨k, u, h2, h3, h4⟩ := crit_from h
      refine ⟨k + 1, u, by simpa using h2, h3, ?_⟩
      rw [List.take_succ_cons, show t :: ts.take k = [t] ++ ts.take k from rfl, crit_app, h1, List.nil_append]
      exact h4
    · have h1 : (critL [t]).length = 1 := by simp [critL, hcr]
      rcases Nat.eq_zero_or_pos i with rfl | hi
      · exact ⟨0, t, rfl, hcr, by simp [critL]⟩
      · rw [hc, List.length_append, h1] at h
        obtain ⟨k, u, h2, h3, h4⟩ := crit_from (ts := ts) (i := i - 1) (by omega)
        refine ⟨k + 1, u, by simpa using h2, h3, ?_⟩
        rw [List.take_succ_cons, show t :: ts.take k = [t] ++ ts.take k from rfl, crit_app, List.length_append, h1, h4]
        omega
theorem crit_mem' {ts : List Tk} {t : Tk} (h : t ∈ critL ts) : t.cr = true ∧ t.lo = t.hi := by
  rw [critL_eq, List.mem_map] at h
  obtain ⟨u, hu, rfl⟩ := h
  exact ⟨(List.mem_filter.1 hu).2, rfl⟩
/-- Tasks that are critical and need no more in the high mode need the same around a switch. -/
theorem swi_same {xs : List Tk} (h : ∀ t ∈ xs, t.cr = true ∧ t.lo = t.hi) (l w : Nat) : dSwi xs l w = dLow xs w := by
  unfold dSwi dLow
  congr 1
  refine List.map_congr_left fun t ht => ?_
  obtain ⟨h1, h2⟩ := h t ht
  unfold dmS dmd
  rw [h1, ← h2]; rfl
theorem crit_both {ts : List Tk} (hs : setB ts = true) {i : Nat} (h : (rLow (critL ts) i).isSome = true) : bothAt (critL ts) i = true := by
  obtain ⟨l, hl⟩ := some_of h
  obtain ⟨_, t, ht, hf⟩ := rLow_some hl
  obtain ⟨h1, h2⟩ := crit_mem' (get_mem ht)
  rw [both_cr ht h1, rSwi_at hl ht h1]
  have he : swiOf ((critL ts).take i) l t.hi.toNat t.du.toNat = respOf ((critL ts).take i) t.lo.toNat t.du.toNat := by
    unfold swiOf respOf
    congr 1
    · funext w
      rw [swi_same (fun u hu => crit_mem' ((List.take_sublist i _).subset hu)), h2]
    · rw [h2]
  rw [he, hf]; rfl
theorem crit_holds {ts : List Tk} (h : hBoth ts = true) : hLow (critL ts) = true ∧ hBoth (critL ts) = true := by
  obtain ⟨h1, h2⟩ := hBoth_iff.1 h
  have key : ∀ i, i < (critL ts).length → (rLow (critL ts) i).isSome = true := by
    intro i hi
    obtain ⟨k, t, ht, hc, hk⟩ := crit_from hi
    have hb := h2 k (List.getElem?_eq_some_iff.1 ht).1
    rw [both_cr ht hc] at hb
    obtain ⟨v, hv⟩ := some_of hb
    obtain ⟨l, r, _, hr, _, _⟩ := swi_longest hv
    rw [rHigh_at h1 ht hc, hk] at hr
    rw [hr]; rfl
  exact ⟨hLow_iff.2 ⟨set_crit h1, key⟩, hBoth_iff.2 ⟨set_crit h1, fun i hi => crit_both h1 (key i hi)⟩⟩
end

section
/- Contracts of ResponseSwitch, in the program and in the reference, and of what the program's calls. Nothing that was there is written. -/
open Go.RowKit
set_option linter.unusedVariables false

set_option maxHeartbeats 1000000 in
theorem iDemSwi_is (w : World) (A : Option Addr) (n c : Nat) (ts : List Tk) (h : Tks w w.heap.size A n ts) (hs : setB ts = true) (l x m : Nat) (hl : l ≤ 10000000) (hx : x ≤ 10000000) (hm : dSwi ts l x = m) :
    Calls Try.prog 114 #[.slice A n c, .int .i64 (l : Int), .int .i64 (x : Int)] w (NumIs m w) := by
  have H := Lib.hid h
  have HL := Lib.hid h.len
  have HS := Lib.hid hs
  have HM := Lib.hid hm
  have h5 : n ≤ 5 := by have := setB_len hs; rw [HL.out] at this; exact this
  clear h hs hm
  go_enter Try.func114, Try.ntmps114
  go_wp2
  go_loopw [7, 12] (fun s i wr => ∃ k : Nat, k ≤ n ∧ i = .int .i64 k ∧ s = .int .i64 (dSwi (ts.take k) l x : Nat) ∧ Below w.heap.size w wr) (fun _ i _ => n - (intOf i).toNat)
  case atStart => exact ⟨0, Nat.zero_le _, rfl, rfl, Below.refl _ _⟩
  case round =>
    obtain ⟨k, hk, rfl, rfl, hb⟩ := hrel
    have HB := Lib.hid hb
    clear hb
    by_cases hlt : k < n
    · obtain ⟨t, ht⟩ := get_at HL.out hlt
      obtain ⟨b, o, rfl, hbl, c0, c1, c2, c3, c4⟩ := (H.out.below HB.out).at_ k t ht
      have HT := Lib.hid (dSwi_take ht l x)
      have HV := Lib.hid (set_ok HS.out (get_mem ht))
      have hb1 := dSwi_bound (set_take HS.out k) l x
      have hb2 := dmS_bound HV.out l x
      have hsz := HB.out.size
      obtain ⟨d, hd⟩ : ∃ d, dmS l x t = d := ⟨_, rfl⟩
      rw [hd] at hb2
      have HT' : Hid (dSwi (ts.take (k + 1)) l x = dSwi (ts.take k) l x + d) := by have := HT.out; rw [hd] at this; exact this
      generalize dSwi (ts.take k) l x = s at *
      cases hc : t.cr
      · have HD : Hid (dmd t l false = d) := by show _ = _; rw [← hd]; unfold dmS; rw [hc]; rfl
        clear ht hd HT
        obtain ⟨lo, hi, du, ev, cr⟩ := t
        dsimp only at c0 c1 c2 c3 c4 hc
        subst hc
        go_wp2_with (go_at_call 115; refine (iDemand_is _ lo hi du ev false l false d HV.out (by omega) HD.out).mono ?_; rintro e w2 ⟨rfl, rfl⟩)
        go_roundw
        case rel => exact ⟨k + 1, by omega, by go_num, by rw [HT'.out]; go_num, by repeat (first | with_reducible exact HB.out | refine bl_alloc ?_ _ | refine bl_set ?_ (by simp; omega) _)⟩
        case measure => simp [intOf]; omega
      · have HD : Hid (dmd t x true = d) := by show _ = _; rw [← hd]; unfold dmS; rw [hc]; rfl
        clear ht hd HT
        obtain ⟨lo, hi, du, ev, cr⟩ := t
        dsimp only at c0 c1 c2 c3 c4 hc
        subst hc
        go_wp2_with (go_at_call 115; refine (iDemand_is _ lo hi du ev true x true d HV.out (by omega) HD.out).mono ?_; rintro e w2 ⟨rfl, rfl⟩)
        go_roundw
        case rel => exact ⟨k + 1, by omega, by go_num, by rw [HT'.out]; go_num, by repeat (first | with_reducible exact HB.out | refine bl_alloc ?_ _ | refine bl_set ?_ (by simp; omega) _)⟩
        case measure => simp [intOf]; omega
    · obtain rfl : k = n := by omega
      have HE : Hid (dSwi (ts.take k) l x = m) := by show _ = _; rw [take_all (by rw [HL.out]; omega)]; exact HM.out
      go_wp2
      go_ret
      exact ⟨by rw [HE.out]; rfl, HB.out⟩

set_option maxHeartbeats 1000000 in
theorem iCloSwi_is (w : World) (Bt Bs Bl : Nat) (A : Option Addr) (k c : Nat) (us : List Tk) (hi l : Nat) (hT : w.cell? ⟨Bt, 1, none⟩ = some (.int .i64 (hi : Int))) (hS : w.cell? ⟨Bs, 0, none⟩ = some (.slice A k c)) (hL : w.cell? ⟨Bl, 0, none⟩ = some (.int .i64 (l : Int))) (hTs : Tks w w.heap.size A k us) (hs : setB us = true) (hhi : hi ≤ 20) (x m : Nat) (hl : l ≤ 10000000) (hx : x ≤ 10000000) (hm : hi + dSwi us l x = m) (hbt : Bt < w.heap.size) (hbs : Bs < w.heap.size) (hbl : Bl < w.heap.size) :
    Calls Try.prog 113 #[.int .i64 (x : Int), .pointer (some ⟨Bt, 0, none⟩), .pointer (some ⟨Bs, 0, none⟩), .pointer (some ⟨Bl, 0, none⟩)] w (NumIs m w) := by
  have H := Lib.hid hTs
  have HS := Lib.hid hs
  obtain ⟨d, hd⟩ : ∃ d, dSwi us l x = d := ⟨_, rfl⟩
  have hdb := dSwi_bound hs l x
  rw [hd] at hm hdb
  subst hm
  have HD := Lib.hid hd
  have kw : IntKind.i64.wrap ((hi : Int) + (d : Int)) = (hi : Int) + (d : Int) := IntWalk.i64_in _ (by omega)
  have hS0 : w.cell? ⟨Bt, 1, none⟩ = some (.int .i64 (hi : Int)) ∧ w.cell? ⟨Bs, 0, none⟩ = some (.slice A k c) ∧ w.cell? ⟨Bl, 0, none⟩ = some (.int .i64 (l : Int)) := ⟨hT, hS, hL⟩
  clear hTs hs hd
  go_enter Try.func113, Try.ntmps113
  go_wp2_with fail
  go_region_held3 (fun W => W.cell? ⟨Bt, 1, none⟩ = some (.int .i64 (hi : Int)) ∧ W.cell? ⟨Bs, 0, none⟩ = some (.slice A k c) ∧ W.cell? ⟨Bl, 0, none⟩ = some (.int .i64 (l : Int))) (first | exact hS0 | exact hS2)
    ((first
      | (go_at_call 114; refine (iDemSwi_is _ A k c us ?_ HS.out l x d hl hx HD.out).mono ?_; exact H.out.below (by repeat (first | with_reducible exact Below.refl w.heap.size w | with_reducible refine Below.drew ?_ | with_reducible refine bl_drewN ?_ _)); rintro e w2 ⟨rfl, hb⟩; have HB2 := Lib.hid (show Below w.heap.size w w2 from bl_trans (by repeat (first | with_reducible exact Below.refl w.heap.size w | with_reducible refine bl_drewN ?_ _ | with_reducible refine Below.drew ?_)) hb); have hS2 : w2.cell? ⟨Bt, 1, none⟩ = some (.int .i64 (hi : Int)) ∧ w2.cell? ⟨Bs, 0, none⟩ = some (.slice A k c) ∧ w2.cell? ⟨Bl, 0, none⟩ = some (.int .i64 (l : Int)) := ⟨(HB2.out.cell (p := ⟨Bt, 1, none⟩) hbt).trans hT, (HB2.out.cell (p := ⟨Bs, 0, none⟩) hbs).trans hS, (HB2.out.cell (p := ⟨Bl, 0, none⟩) hbl).trans hL⟩; clear hb)))
  go_wp2
  go_ret
  exact ⟨by first | rfl | go_num, HB2.out⟩
theorem cloSwi_next (w : World) (Bt Bs Bl : Nat) (A : Option Addr) (k c : Nat) (us : List Tk) (hi lo up l : Nat) (h1 h2 h3 h4 : Value) (hT : Blk w Bt 36 #[h1, .int .i64 (hi : Int), h2, h3, h4]) (hS : Blk w Bs 23 #[.slice A k c]) (hL : Blk w Bl 3 #[.int .i64 (l : Int)]) (hTs : Tks w w.heap.size A k us) (hs : setB us = true) (hhi : hi ≤ 20) (hl : l ≤ 10000000) (hup : up ≤ 10000000) :
    NextIs 113 #[.pointer (some ⟨Bt, 0, none⟩), .pointer (some ⟨Bs, 0, none⟩), .pointer (some ⟨Bl, 0, none⟩)] (fun x => hi + dSwi us l x) lo up w := fun W x h1 h2 hb =>
  iCloSwi_is W Bt Bs Bl A k c us hi l ((hb.cell (p := ⟨Bt, 1, none⟩) hT.lt).trans (hT.cell 1)) ((hb.cell (p := ⟨Bs, 0, none⟩) hS.lt).trans (hS.cell 0)) ((hb.cell (p := ⟨Bl, 0, none⟩) hL.lt).trans (hL.cell 0)) ((hTs.below hb).more hb.size) hs hhi x _ hl (by omega) rfl (Nat.lt_of_lt_of_le hT.lt hb.size) (Nat.lt_of_lt_of_le hS.lt hb.size) (Nat.lt_of_lt_of_le hL.lt hb.size)
theorem blk_third (w : World) (o o' : Obj) (t : TypeId) (cs : Array Value) : Blk (((w.alloc o).alloc o').alloc (.cells cs t)) (w.heap.size + 1 + 1) t cs := by
  have h := Blk.new ((w.alloc o).alloc o') t cs
  simp only [World.size_alloc] at h
  exact h
theorem swi_none {ts : List Tk} {a : Int} (h : atI (rLow ts) a = none) : atI (rSwi ts) a = none := by
  unfold atI at h ⊢
  split
  · rename_i h0
    rw [if_pos h0] at h
    exact rSwi_none h
  · rfl

set_option maxRecDepth 100000 in
set_option maxHeartbeats 2000000 in
theorem iRSwi_is (w : World) (A : Option Addr) (n c : Nat) (ts : List Tk) (a : Int) (h : Tks w w.heap.size A n ts) (hn : n ≤ 1048576) (hnc : n ≤ c) (v : Nat) (b : Bool) (hv : resN (atI (rSwi ts) a) = (v, b)) :
    Calls Try.prog 103 #[.slice A n c, .int .i64 a] w (NbRes v b w) := by
  have H := Lib.hid h
  have HL := Lib.hid h.len
  clear h
  obtain ⟨l, b0, h0⟩ : ∃ l b0, resN (atI (rLow ts) a) = (l, b0) := ⟨_, _, rfl⟩
  have H0 := Lib.hid h0
  cases b0
  · obtain ⟨hno, rfl⟩ := res_false h0
    rw [swi_none hno] at hv
    obtain ⟨rfl, rfl⟩ := Prod.mk.inj hv
    clear hv hno h0
    go_enter Try.func103, Try.ntmps103
    go_wp2_with (go_at_call 102; refine (iRLow_is _ A n c ts a H.out hn hnc 0 false H0.out).mono ?_; rintro e w1 ⟨rfl, hb⟩)
    go_ret2
    exact ⟨rfl, bl_alloc hb _⟩
  obtain ⟨k, rfl, hr⟩ := at_some (res_true h0)
  obtain ⟨hset, t, ht, hf⟩ := rLow_some hr
  obtain ⟨_, _, x3, _⟩ := resp_fix hf
  have hk : k < n := by have := (List.getElem?_eq_some_iff.1 ht).1; rw [HL.out] at this; exact this
  obtain ⟨bb, o, rfl, hbl, _⟩ := H.out.at_ k _ ht
  have hok := ok_parts (set_ok hset (get_mem ht))
  have HT := Lib.hid ht
  have HS := Lib.hid (set_take hset k)
  rw [at_nat] at hv
  have i1 : (k : Int) < (n : Int) := by omega
  have i2 : (k : Int) ≤ (c : Int) := by omega
  have i3 : ¬ (c : Int) < (k : Int) := by omega
  cases hc : t.cr
  · rw [rSwi_not ht hc] at hv
    obtain ⟨rfl, rfl⟩ := Prod.mk.inj hv
    clear hv hf hr h0 ht hset
    go_enter Try.func103, Try.ntmps103
    go_wp2_with fail
    refine (iRLow_is _ _ n c ts (k : Int) H.out hn hnc l true H0.out).mono ?_
    rintro e w1 ⟨rfl, hb⟩
    have HB1 := Lib.hid hb
    have hsz := hb.size
    have C1 := (Tks.get (H.out.below hb) HT.out).2.c4
    rw [hc] at C1
    have hbl1 : bb < w1.heap.size := by omega
    clear hb
    go_wp2
    go_ret2
    exact ⟨rfl, bl_alloc HB1.out _⟩
  rw [rSwi_at hr ht hc] at hv
  have HV := Lib.hid hv
  clear hv hf hr h0 ht hset
  obtain ⟨lo, hi, du, ev, cr⟩ := t
  dsimp only at hok HV hc x3
  subst hc
  obtain ⟨p1, p2, p3, p4, p5, _⟩ := hok
  obtain ⟨hi, rfl⟩ := Int.eq_ofNat_of_zero_le (show 0 ≤ hi by omega)
  obtain ⟨du, rfl⟩ := Int.eq_ofNat_of_zero_le (show 0 ≤ du by omega)
  have hl20 : l ≤ 20 := by omega
  go_enter Try.func103, Try.ntmps103
  go_wp2_with fail
  refine (iRLow_is _ _ n c ts (k : Int) H.out hn hnc l true H0.out).mono ?_
  rintro e w1 ⟨rfl, hb⟩
  have HB1 := Lib.hid hb
  have hsz := hb.size
  obtain ⟨c0, c1, c2, c3, c4⟩ := (Tks.get (H.out.below hb) HT.out).2
  dsimp only at c0 c1 c2 c3 c4
  have HTk := Lib.hid (Tks.take ((H.out.below hb).more hb.size) (show k ≤ n by omega))
  clear hb
  have hbl1 : bb < w1.heap.size := by omega
  have hbl2 : bb < w1.heap.size + 1 := by omega
  have hbl3 : bb < w1.heap.size + 1 + 1 := by omega
  go_wp2
  go_region
  all_goals go_wp2_with fail
  · refine (iLeast_is _ hi du 113 _ (fun x => hi + dSwi (ts.take k) l x) v b HV.out (swi_mono _ l hi) (fun x _ => Nat.le_add_right _ _) (fun x hx => by have := dSwi_bound HS.out l x; omega) (by omega) (by omega) (fun _ _ => rfl) (cloSwi_next _ _ _ _ (some ⟨bb, o, none⟩) k c (ts.take k) hi hi du l _ _ _ _ ((((blk_second w1 _ _ _).alloc _)).drewN 1) ((blk_third w1 _ _ _ _).drewN 1) ((((Blk.new w1 _ _).alloc _).alloc _).drewN 1) ((HTk.out.below (bl_drewN (bl_alloc (bl_alloc (bl_alloc (Below.refl w1.heap.size w1) _) _) _) 1)).more (bl_drewN (bl_alloc (bl_alloc (bl_alloc (Below.refl w1.heap.size w1) _) _) _) 1).size) HS.out (by omega) (by omega) (by omega))).mono ?_
    rintro e w2 ⟨rfl, hb2⟩
    go_wp2
    go_ret2
    exact ⟨rfl, bl_trans (bl_drewN (bl_alloc (bl_alloc (bl_alloc HB1.out _) _) _) 1) hb2⟩
  · refine (iLeast_is _ hi du 113 _ (fun x => hi + dSwi (ts.take k) l x) v b HV.out (swi_mono _ l hi) (fun x _ => Nat.le_add_right _ _) (fun x hx => by have := dSwi_bound HS.out l x; omega) (by omega) (by omega) (fun _ _ => rfl) (cloSwi_next _ _ _ _ (some ⟨bb, o, none⟩) k c (ts.take k) hi hi du l _ _ _ _ ((blk_third w1 _ _ _ _).drewN 1) ((((blk_second w1 _ _ _).alloc _)).drewN 1) ((((Blk.new w1 _ _).alloc _).alloc _).drewN 1) ((HTk.out.below (bl_drewN (bl_alloc (bl_alloc (bl_alloc (Below.refl w1.heap.size w1) _) _) _) 1)).more (bl_drewN (bl_alloc (bl_alloc (bl_alloc (Below.refl w1.heap.size w1) _) _) _) 1).size) HS.out (by omega) (by omega) (by omega))).mono ?_
    rintro e w2 ⟨rfl, hb2⟩
    go_wp2
    go_ret2
    exact ⟨rfl, bl_trans (bl_drewN (bl_alloc (bl_alloc (bl_alloc HB1.out _) _) _) 1) hb2⟩
end

section
/- Contracts of the reference's ResponseSwitch. Nothing that was there is written. -/
open Go.RowKit
set_option linter.unusedVariables false

set_option maxRecDepth 100000 in
set_option maxHeartbeats 4000000 in
theorem sRSwi_is (w : World) (A : Option Addr) (n c : Nat) (ts : List Tk) (a : Int) (h : Tks w w.heap.size A n ts) (hn : n ≤ 1048576) (v : Nat) (b : Bool) (hv : resN (atI (rSwi ts) a) = (v, b)) :
    Calls Try.prog 99 #[.slice A n c, .int .i64 a] w (NbRes v b w) := by
  have H := Lib.hid h
  have HL := Lib.hid h.len
  clear h
  obtain ⟨l, b0, h0⟩ : ∃ l b0, resN (atI (rLow ts) a) = (l, b0) := ⟨_, _, rfl⟩
  have H0 := Lib.hid h0
  cases b0
  · obtain ⟨hno, rfl⟩ := res_false h0
    rw [swi_none hno] at hv
    obtain ⟨rfl, rfl⟩ := Prod.mk.inj hv
    clear hv hno h0
    go_enter Try.func99, Try.ntmps99
    go_wp2_with (go_at_call 105; refine (sRLow_is _ A n c ts a H.out hn 0 false H0.out).mono ?_; rintro e w1 ⟨rfl, hb⟩)
    go_ret2
    exact ⟨rfl, hb⟩
  obtain ⟨k, rfl, hr⟩ := at_some (res_true h0)
  obtain ⟨hset, t, ht, hf⟩ := rLow_some hr
  obtain ⟨_, _, x3, _⟩ := resp_fix hf
  have hk : k < n := by have := (List.getElem?_eq_some_iff.1 ht).1; rw [HL.out] at this; exact this
  obtain ⟨bb, o, rfl, hbl, _⟩ := H.out.at_ k _ ht
  have hok := ok_parts (set_ok hset (get_mem ht))
  have HT := Lib.hid ht
  have HSS := Lib.hid hset
  have HS := Lib.hid (set_take hset k)
  rw [at_nat] at hv
  have i1 : (k : Int) < (n : Int) := by omega
  cases hc : t.cr
  · rw [rSwi_not ht hc] at hv
    obtain ⟨rfl, rfl⟩ := Prod.mk.inj hv
    clear hv hf hr h0 ht hset
    go_enter Try.func99, Try.ntmps99
    go_wp2_with fail
    refine (sRLow_is _ _ n c ts (k : Int) H.out hn l true H0.out).mono ?_
    rintro e w1 ⟨rfl, hb⟩
    have HB1 := Lib.hid hb
    have hsz := hb.size
    have C1 := (Tks.get (H.out.below hb) HT.out).2.c4
    rw [hc] at C1
    clear hb
    go_wp2
    go_ret2
    exact ⟨rfl, HB1.out⟩
  rw [rSwi_at hr ht hc] at hv
  have HV := Lib.hid hv
  clear hv hf hr h0 ht hset
  obtain ⟨lo, hi, du, ev, cr⟩ := t
  dsimp only at hok HV hc x3
  subst hc
  obtain ⟨p1, p2, p3, p4, p5, _⟩ := hok
  obtain ⟨hi, rfl⟩ := Int.eq_ofNat_of_zero_le (show 0 ≤ hi by omega)
  obtain ⟨du, rfl⟩ := Int.eq_ofNat_of_zero_le (show 0 ≤ du by omega)
  have hl20 : l ≤ 20 := by omega
  have HV' : Hid (resN (leastN (fun y => hi + dSwi (ts.take k) l y) hi du) = (v, b)) := HV.out
  go_enter Try.func99, Try.ntmps99
  go_wp2_with fail
  refine (sRLow_is _ _ n c ts (k : Int) H.out hn l true H0.out).mono ?_
  rintro e w1 ⟨rfl, hb⟩
  have HB1 := Lib.hid hb
  have hsz := hb.size
  obtain ⟨c0, c1, c2, c3, c4⟩ := (Tks.get (H.out.below hb) HT.out).2
  dsimp only at c0 c1 c2 c3 c4
  clear hb
  go_wp2
  go_loopw [8] (fun i wr => ∃ x : Nat, i = .int .i64 x ∧ x ≤ 1000000 ∧ Hid (NoneBelow (fun y => hi + dSwi (ts.take k) l y) hi x) ∧ Below w.heap.size w wr) (fun i _ => du + 1 - (intOf i).toNat)
  case atStart => exact ⟨hi, rfl, by omega, none_start _ hi, HB1.out⟩
  case round =>
    obtain ⟨x, rfl, hx, HN, hb⟩ := hrel
    have HB := Lib.hid hb
    have hsz2 := hb.size
    have C2 := (Tks.get (H.out.below hb) HT.out).2
    have d1 := C2.c1
    have d2 := C2.c2
    dsimp only at d1 d2
    clear C2 hb
    by_cases hxd : x ≤ du
    · have hxd' : (x : Int) ≤ (du : Int) := by omega
      go_wp2
      go_loopw [9, 10] (fun s i wr => ∃ j m : Nat, j ≤ k ∧ i = .int .i64 j ∧ s = .int .i64 (m : Int) ∧ Hid (m = hi + dSwi (ts.take j) l x) ∧ Below w.heap.size w wr) (fun _ i _ => k - (intOf i).toNat)
      case atStart => exact ⟨0, hi, Nat.zero_le _, rfl, rfl, (show hi = _ by simp [dSwi]), HB.out⟩
      case round =>
        obtain ⟨j, m, hj, rfl, rfl, HM, hb3⟩ := hrel
        have HB3 := Lib.hid hb3
        have hsz3 := hb3.size
        clear hb3
        by_cases hjk : j < k
        · obtain ⟨u, hu⟩ := get_at HL.out (show j < n by omega)
          have C3 := (Tks.get (H.out.below HB3.out) hu).2
          have HVu := Lib.hid (set_ok HSS.out (get_mem hu))
          have HTu := Lib.hid (dSwi_take hu l x)
          have hb1 := dSwi_bound (set_take HSS.out j) l x
          have hb2 := dmS_bound HVu.out l x
          obtain ⟨d, hd⟩ : ∃ d, dmS l x u = d := ⟨_, rfl⟩
          rw [hd] at hb2
          have hm1 : m ≤ hi + 100 * (l + x + 20) := by rw [HM.out]; omega
          have HM' : Hid (m + d = hi + dSwi (ts.take (j + 1)) l x) := by show _ = _; rw [HTu.out, hd, HM.out]; omega
          have i2 : (j : Int) < (n : Int) := by omega
          cases hcu : u.cr
          · have HD : Hid (dmd u l false = d) := by show _ = _; rw [← hd]; unfold dmS; rw [hcu]; rfl
            clear hd hu HTu hb1
            obtain ⟨lo', hi', du', ev', cr'⟩ := u
            obtain ⟨g0, g1, g2, g3, g4⟩ := C3
            dsimp only at g0 g1 g2 g3 g4 hcu
            subst hcu
            go_wp2_with (go_at_call 106; refine (sDemand_is _ lo' hi' du' ev' false l false d HVu.out (by omega) HD.out).mono ?_; rintro e w2 ⟨rfl, rfl⟩)
            go_roundw
            case rel => exact ⟨j + 1, m + d, by omega, by go_num, by go_num, HM', bl_alloc HB3.out _⟩
            case measure => simp [intOf]; omega
          · have HD : Hid (dmd u x true = d) := by show _ = _; rw [← hd]; unfold dmS; rw [hcu]; rfl
            clear hd hu HTu hb1
            obtain ⟨lo', hi', du', ev', cr'⟩ := u
            obtain ⟨g0, g1, g2, g3, g4⟩ := C3
            dsimp only at g0 g1 g2 g3 g4 hcu
            subst hcu
            go_wp2_with (go_at_call 106; refine (sDemand_is _ lo' hi' du' ev' true x true d HVu.out (by omega) HD.out).mono ?_; rintro e w2 ⟨rfl, rfl⟩)
            go_roundw
            case rel => exact ⟨j + 1, m + d, by omega, by go_num, by go_num, HM', bl_alloc HB3.out _⟩
            case measure => simp [intOf]; omega
        · obtain rfl : j = k := by omega
          have hmb : m ≤ hi + 100 * (l + x + 20) := by have := dSwi_bound HS.out l x; rw [HM.out]; omega
          by_cases he : m = x
          · have hei : (m : Int) = (x : Int) := by omega
            obtain ⟨rfl, rfl⟩ : x = v ∧ true = b := Prod.mk.inj (by rw [← HV'.out, least_hit HN.out hxd (HM.out.symm.trans he)]; rfl)
            go_wp2
            go_ret2
            exact ⟨rfl, HB3.out⟩
          · have hei : ¬ (m : Int) = (x : Int) := by omega
            have hnx := none_step (swi_mono (ts.take j) l hi) (fun y _ => Nat.le_add_right hi (dSwi (ts.take j) l y)) HN.out
            have hlt := none_le (swi_mono (ts.take j) l hi) (fun y _ => Nat.le_add_right hi (dSwi (ts.take j) l y)) HN.out
            have hnm : Hid (NoneBelow (fun y => hi + dSwi (ts.take j) l y) hi m) := by show NoneBelow _ _ _; rw [HM.out]; exact hnx
            have hlm : x ≤ m := by rw [HM.out]; exact hlt
            clear hnx hlt
            go_wp2
            go_roundw
            case rel => exact ⟨m, rfl, by omega, hnm, HB3.out⟩
            case measure => simp [intOf]; omega
    · have hxd' : ¬ (x : Int) ≤ (du : Int) := by omega
      obtain ⟨rfl, rfl⟩ : 0 = v ∧ false = b := Prod.mk.inj (by rw [← HV'.out, least_past HN.out (by omega)]; rfl)
      go_wp2
      go_ret2
      exact ⟨rfl, HB.out⟩
end

section
/- Contracts of what tells whether tasks hold, in the program and in the reference. Nothing that was there is written. -/
open Go.RowKit
set_option linter.unusedVariables false

def BoRes (b : Bool) (w : World) (e : Ending) (w' : World) : Prop := e = .returned (.bool b) ∧ Below w.heap.size w w'
theorem res_some (o : Option Nat) : resN o = (o.getD 0, o.isSome) := rfl

set_option maxHeartbeats 1000000 in
theorem iHoldsAt_is (w : World) (A : Option Addr) (n c : Nat) (ts : List Tk) (k : Nat) (h : Tks w w.heap.size A n ts) (hn : n ≤ 1048576) (hnc : n ≤ c) (hk : k < n) (b : Bool) (hv : bothAt ts k = b) :
    Calls Try.prog 87 #[.slice A n c, .int .i64 (k : Int)] w (BoRes b w) := by
  have H := Lib.hid h
  obtain ⟨t, ht⟩ := get_at h.len hk
  obtain ⟨bb, o, rfl, hbl, _⟩ := h.at_ k _ ht
  have C1 := (Tks.get h ht).2.c4
  clear h
  have i1 : (k : Int) < (n : Int) := by omega
  cases hc : t.cr
  · rw [both_no ht hc] at hv
    rw [hc] at C1
    obtain ⟨v, hvv⟩ : ∃ v, resN (atI (rLow ts) (k : Int)) = (v, b) := ⟨_, by rw [at_nat, res_some, hv]⟩
    have HV := Lib.hid hvv
    clear hv hvv ht
    go_enter Try.func87, Try.ntmps87
    go_wp2_with (go_at_call 102; refine (iRLow_is _ _ n c ts (k : Int) H.out hn hnc v b HV.out).mono ?_; rintro e w1 ⟨rfl, hb⟩)
    go_ret
    exact ⟨rfl, hb⟩
  · rw [both_cr ht hc] at hv
    rw [hc] at C1
    obtain ⟨v, hvv⟩ : ∃ v, resN (atI (rSwi ts) (k : Int)) = (v, b) := ⟨_, by rw [at_nat, res_some, hv]⟩
    have HV := Lib.hid hvv
    clear hv hvv ht
    go_enter Try.func87, Try.ntmps87
    go_wp2_with (go_at_call 103; refine (iRSwi_is _ _ n c ts (k : Int) H.out hn hnc v b HV.out).mono ?_; rintro e w1 ⟨rfl, hb⟩)
    go_ret
    exact ⟨rfl, hb⟩

set_option maxHeartbeats 1000000 in
theorem sLowAt_is (w : World) (A : Option Addr) (n c : Nat) (ts : List Tk) (k : Nat) (h : Tks w w.heap.size A n ts) (hn : n ≤ 1048576) (b : Bool) (hv : (rLow ts k).isSome = b) :
    Calls Try.prog 98 #[.slice A n c, .int .i64 (k : Int)] w (BoRes b w) := by
  have H := Lib.hid h
  clear h
  obtain ⟨v, hvv⟩ : ∃ v, resN (atI (rLow ts) (k : Int)) = (v, b) := ⟨_, by rw [at_nat, res_some, hv]⟩
  have HV := Lib.hid hvv
  clear hv hvv
  go_enter Try.func98, Try.ntmps98
  go_wp2_with (go_at_call 105; refine (sRLow_is _ A n c ts (k : Int) H.out hn v b HV.out).mono ?_; rintro e w1 ⟨rfl, hb⟩)
  go_ret
  exact ⟨rfl, hb⟩

set_option maxHeartbeats 1000000 in
theorem sBothAt_is (w : World) (A : Option Addr) (n c : Nat) (ts : List Tk) (k : Nat) (h : Tks w w.heap.size A n ts) (hn : n ≤ 1048576) (hk : k < n) (b : Bool) (hv : bothAt ts k = b) :
    Calls Try.prog 84 #[.slice A n c, .int .i64 (k : Int)] w (BoRes b w) := by
  have H := Lib.hid h
  obtain ⟨t, ht⟩ := get_at h.len hk
  obtain ⟨bb, o, rfl, hbl, _⟩ := h.at_ k _ ht
  have C1 := (Tks.get h ht).2.c4
  clear h
  have i1 : (k : Int) < (n : Int) := by omega
  cases hc : t.cr
  · rw [both_no ht hc] at hv
    rw [hc] at C1
    have HV := Lib.hid hv
    clear hv ht
    go_enter Try.func84, Try.ntmps84
    go_wp2_with (go_at_call 98; refine (sLowAt_is _ _ n c ts k H.out hn b HV.out).mono ?_; rintro e w1 ⟨rfl, hb⟩)
    go_ret
    exact ⟨rfl, hb⟩
  · rw [both_cr ht hc] at hv
    rw [hc] at C1
    obtain ⟨v, hvv⟩ : ∃ v, resN (atI (rSwi ts) (k : Int)) = (v, b) := ⟨_, by rw [at_nat, res_some, hv]⟩
    have HV := Lib.hid hvv
    clear hv hvv ht
    go_enter Try.func84, Try.ntmps84
    go_wp2_with (go_at_call 99; refine (sRSwi_is _ _ n c ts (k : Int) H.out hn v b HV.out).mono ?_; rintro e w1 ⟨rfl, hb⟩)
    go_ret
    exact ⟨rfl, hb⟩

set_option maxHeartbeats 2000000 in
theorem iFBad_is (w : World) (A : Option Addr) (n c : Nat) (ts : List Tk) (h : Tks w w.heap.size A n ts) (hn : n ≤ 1048576) (hnc : n ≤ c) (v : Nat) (b : Bool) (hv : resN (fBad ts) = (v, b)) :
    Calls Try.prog 61 #[.slice A n c] w (NbRes v b w) := by
  have H := Lib.hid h
  have HL := Lib.hid h.len
  clear h
  cases hs : setB ts
  · obtain ⟨rfl, rfl⟩ : 0 = v ∧ false = b := Prod.mk.inj (by rw [← hv, fBad_bad hs]; rfl)
    clear hv
    go_enter Try.func61, Try.ntmps61
    go_wp2_with (go_at_call 30; refine (iSetValid_any _ A n c ts H.out hn).mono ?_; rintro e w1 ⟨rfl, hb⟩)
    go_ret2
    exact ⟨rfl, hb⟩
  have HS := Lib.hid hs
  have HV := Lib.hid hv
  clear hs hv
  go_enter Try.func61, Try.ntmps61
  go_wp2_with fail
  refine (iSetValid_any _ A n c ts H.out hn).mono ?_
  rintro e w1 ⟨rfl, hb⟩
  rw [HS.out]
  have HB1 := Lib.hid hb
  clear hb
  go_wp2
  go_loopw [10] (fun i wr => ∃ k : Nat, k ≤ n ∧ i = .int .i64 k ∧ Hid (∀ j, j < k → bothAt ts j = true) ∧ Below w.heap.size w wr) (fun i _ => n - (intOf i).toNat)
  case atStart => exact ⟨0, Nat.zero_le _, rfl, (show ∀ j, j < 0 → _ from fun j hj => absurd hj (Nat.not_lt_zero _)), HB1.out⟩
  case round =>
    obtain ⟨k, hk, rfl, HA, hb⟩ := hrel
    have HB := Lib.hid hb
    clear hb
    by_cases hlt : k < n
    · have hlti : (k : Int) < (n : Int) := by omega
      have hkl : k < ts.length := by rw [HL.out]; exact hlt
      obtain ⟨p, hp⟩ : ∃ p, bothAt ts k = p := ⟨_, rfl⟩
      have HP := Lib.hid hp
      clear hp
      go_wp2_with fail
      refine (iHoldsAt_is _ A n c ts k ((H.out.below HB.out).more HB.out.size) hn hnc hlt p HP.out).mono ?_
      rintro e w3 ⟨rfl, hb⟩
      have HB3 := Lib.hid (bl_trans HB.out hb)
      clear hb
      cases p
      · obtain ⟨rfl, rfl⟩ : k = v ∧ true = b := Prod.mk.inj (by rw [← HV.out, fBad_some HS.out hkl HP.out HA.out]; rfl)
        go_wp2
        go_ret2
        exact ⟨rfl, HB3.out⟩
      · have HA' : Hid (∀ j, j < k + 1 → bothAt ts j = true) := by
          show ∀ j, j < k + 1 → _
          intro j hj
          rcases Nat.lt_or_ge j k with h | h
          · exact HA.out j h
          · obtain rfl : j = k := by omega
            exact HP.out
        go_wp2
        go_roundw
        case rel => exact ⟨k + 1, by omega, by go_num, HA', HB3.out⟩
        case measure => simp [intOf]; omega
    · obtain rfl : k = n := by omega
      obtain ⟨rfl, rfl⟩ : 0 = v ∧ false = b := Prod.mk.inj (by rw [← HV.out, fBad_none HS.out (fun j hj => HA.out j (by rw [← HL.out]; exact hj))]; rfl)
      go_wp2
      go_ret2
      exact ⟨rfl, HB.out⟩

set_option maxHeartbeats 2000000 in
theorem sHBoth_is (w : World) (A : Option Addr) (n c : Nat) (ts : List Tk) (h : Tks w w.heap.size A n ts) (hn : n ≤ 1048576) (b : Bool) (hv : hBoth ts = b) :
    Calls Try.prog 63 #[.slice A n c] w (BoRes b w) := by
  have H := Lib.hid h
  have HL := Lib.hid h.len
  clear h
  cases hs : setB ts
  · obtain rfl : false = b := by rw [← hv]; exact (hBoth_bad hs).symm
    clear hv
    by_cases hn0 : n = 0
    · subst hn0
      obtain rfl : ts = [] := List.eq_nil_of_length_eq_zero HL.out
      cases hs
    have hni : (0 : Int) < (n : Int) := by omega
    go_enter Try.func63, Try.ntmps63
    go_wp2
    refine wp_loop_rounds 1 ?_
    rw [rounds_succ]
    go_wp2_with fail
    refine (sSetValid_any _ A n c ts H.out hn).mono ?_
    rintro e w1 ⟨rfl, hb⟩
    rw [hs]
    have HB1 := Lib.hid hb
    clear hb
    go_wp2_with fail
    refine (sSetValid_any _ A n c ts ((H.out.below HB1.out).more HB1.out.size) hn).mono ?_
    rintro e w2 ⟨rfl, hb⟩
    rw [hs]
    have HB2 := Lib.hid (bl_trans HB1.out hb)
    clear hb
    go_wp2
    go_ret
    exact ⟨rfl, HB2.out⟩
  have HS := Lib.hid hs
  have HV := Lib.hid hv
  clear hs hv
  go_enter Try.func63, Try.ntmps63
  go_wp2
  go_loopw [3] (fun i wr => ∃ k : Nat, k ≤ n ∧ i = .int .i64 k ∧ Hid (∀ j, j < k → bothAt ts j = true) ∧ Below w.heap.size w wr) (fun i _ => n - (intOf i).toNat)
  case atStart => exact ⟨0, Nat.zero_le _, rfl, (show ∀ j, j < 0 → _ from fun j hj => absurd hj (Nat.not_lt_zero _)), Below.refl _ _⟩
  case round =>
    obtain ⟨k, hk, rfl, HA, hb⟩ := hrel
    have HB := Lib.hid hb
    clear hb
    by_cases hlt : k < n
    · have hlti : (k : Int) < (n : Int) := by omega
      have hkl : k < ts.length := by rw [HL.out]; exact hlt
      go_wp2_with fail
      refine (sSetValid_any _ A n c ts ((H.out.below HB.out).more HB.out.size) hn).mono ?_
      rintro e w2 ⟨rfl, hb⟩
      rw [HS.out]
      have HB2 := Lib.hid (bl_trans HB.out hb)
      clear hb
      obtain ⟨p, hp⟩ : ∃ p, bothAt ts k = p := ⟨_, rfl⟩
      have HP := Lib.hid hp
      clear hp
      go_wp2_with fail
      refine (sBothAt_is _ A n c ts k ((H.out.below HB2.out).more HB2.out.size) hn hlt p HP.out).mono ?_
      rintro e w3 ⟨rfl, hb⟩
      have HB3 := Lib.hid (bl_trans HB2.out hb)
      clear hb
      cases p
      · obtain rfl : false = b := by rw [← HV.out]; exact (hBoth_no hkl HP.out).symm
        go_wp2
        go_ret
        exact ⟨rfl, HB3.out⟩
      · have HA' : Hid (∀ j, j < k + 1 → bothAt ts j = true) := by
          show ∀ j, j < k + 1 → _
          intro j hj
          rcases Nat.lt_or_ge j k with h | h
          · exact HA.out j h
          · obtain rfl : j = k := by omega
            exact HP.out
        go_wp2
        go_roundw
        case rel => exact ⟨k + 1, by omega, by go_num, HA', HB3.out⟩
        case measure => simp [intOf]; omega
    · obtain rfl : k = n := by omega
      obtain rfl : true = b := by rw [← HV.out]; exact (hBoth_iff.2 ⟨HS.out, fun j hj => HA.out j (by rw [← HL.out]; exact hj)⟩).symm
      go_wp2_with fail
      refine (sSetValid_any _ A k c ts ((H.out.below HB.out).more HB.out.size) hn).mono ?_
      rintro e w2 ⟨rfl, hb⟩
      rw [HS.out]
      have HB2 := Lib.hid (bl_trans HB.out hb)
      clear hb
      go_wp2
      go_ret
      exact ⟨rfl, HB2.out⟩

set_option maxHeartbeats 1000000 in
theorem iHBoth_is (w : World) (A : Option Addr) (n c : Nat) (ts : List Tk) (h : Tks w w.heap.size A n ts) (hn : n ≤ 1048576) (hnc : n ≤ c) (b : Bool) (hv : hBoth ts = b) :
    Calls Try.prog 24 #[.slice A n c] w (BoRes b w) := by
  have H := Lib.hid h
  clear h
  obtain ⟨v, bad, hx⟩ : ∃ v bad, resN (fBad ts) = (v, bad) := ⟨_, _, rfl⟩
  have HX := Lib.hid hx
  have hbx : b = (setB ts && !bad) := by
    rw [← hv]
    cases hs : setB ts
    · rw [hBoth_bad hs]; rfl
    · rw [hBoth_fBad hs, ← (Prod.mk.inj hx).2]
      cases fBad ts <;> rfl
  clear hv hx
  go_enter Try.func24, Try.ntmps24
  go_wp2_with fail
  refine (iFBad_is _ A n c ts H.out hn hnc v bad HX.out).mono ?_
  rintro e w1 ⟨rfl, hb⟩
  have HB1 := Lib.hid hb
  have HBX := Lib.hid hbx
  clear hb hbx
  go_wp2_with fail
  refine (iSetValid_any _ A n c ts ((H.out.below HB1.out).more HB1.out.size) hn).mono ?_
  rintro e w2 ⟨rfl, hb⟩
  have HB2 := Lib.hid (bl_trans HB1.out hb)
  clear hb
  cases hs : setB ts
  · obtain rfl : b = false := by rw [HBX.out, hs]; rfl
    go_wp2
    go_ret
    exact ⟨rfl, HB2.out⟩
  · cases bad
    · obtain rfl : b = true := by rw [HBX.out, hs]; rfl
      go_wp2
      go_ret
      exact ⟨rfl, HB2.out⟩
    · obtain rfl : b = false := by rw [HBX.out, hs]; rfl
      go_wp2
      go_ret
      exact ⟨rfl, HB2.out⟩
end

section
/- Contract of slices.Insert at a list of tasks with room for one more: the task comes at its place, the row stays where it is. -/
open Go.RowKit

/-- copy at elements of k cells, into a row that is known whole. -/
theorem run_copy_k {P : Program} (w : World) (dT sT ty elem : TypeId) (k g o dLen dCap : Nat) (a : Addr) (sLen sCap m : Nat) (cur : Array Value) (t : TypeId) (cs : List Value)
    (hu : P.underlying dT = some (.slice elem)) (hs : (P.info? elem).map (·.size) = some k)
    (hg : w.heap[g]? = some (.cells cur t (0, 0))) (hm : m = Nat.min sLen dLen) (hn : cs.length = m * k)
    (hsrc : ∀ j v, cs[j]? = some v → w.cell? (a.add j) = some v) (hfit : o + cs.length ≤ cur.size) (h1 : ∀ v ∈ cs, v.oneCell' = true) :
    (Builtin.copy_ #[dT, sT] ty #[.slice (some ⟨g, o, none⟩) dLen dCap, .slice (some a) sLen sCap]).run P w =
      .ok (goInt m) (w.setRow g (cur.toList.take o ++ cs ++ cur.toList.drop (o + cs.length)).toArray) := by
  have hl := run_loadCells_list (P := P) w a cs hsrc
  have hst := run_storeCells_at P g o t cs 0 cur w hg (by simpa using hfit) h1
  cases hq : P.info? elem with
  | none => simp [hq] at hs
  | some i =>
    have hi : i.size = k := by simpa [hq] using hs
    rw [hn] at hl
    simp [Builtin.copy_, run_underlying hu, Builtin.lenOf, Builtin.firstCells, sizeOf, typeInfo, hq, hi, ← hm, hl, hst]

theorem wpList_copy_run {P : Program} (w : World) {ops : Array Oper} {rest : List Oper} {o : Oper} {a : Act} {Q : Exit → Act → World → Prop} (hgd : o.guard = none) (d s : Operand) (t t' : TypeId)
    (ho : o.op = .call { callee := .builtin .copy, args := #[d, s], argTypes := #[t, t'] }) (v u : Value) (hd : a.eval d = v) (hs : a.eval s = u) {v' : Value} {w' : World}
    (hr : (Builtin.copy_ #[t, t'] o.type #[v, u]).run P w = .ok v' w') (h : wpList P ops Q rest (a.put o.dst v') w') : wpList P ops Q (o :: rest) a w :=
  wpList_plain hgd fun _ hK => by
    unfold Oper.wp execOp
    simp only [ho, resolve, invoke, builtin, Sem.run_bind, Sem.run_pure, Result.andThen_ok, List.map_toArray, List.map_cons, List.map_nil, hd, hs, hr]
    exact hK _ _ h

theorem step_copy_run {P : Program} {ops : Array Oper} {o : Oper} {a : Act} {w : World} {K : Act → World → Prop} {Q : Exit → Act → World → Prop} {E : Prop}
    (hg : o.guard = none) (d x : Operand) (dT sT : TypeId) (hop : o.op = Op.call { callee := Callee.builtin Builtin.copy, args := #[d, x], argTypes := #[dT, sT] })
    (v u : Value) (hd : a.eval d = v) (hx : a.eval x = u) {v' : Value} {w' : World} (hr : (Builtin.copy_ #[dT, sT] o.type #[v, u]).run P w = .ok v' w') (hK : K (a.put o.dst v') w') :
    if Region.wanted o (yielded ops a.tmps) = true then Oper.wp P o a w K Q else E := by
  have hw : Region.wanted o (yielded ops a.tmps) = true := by simp [Region.wanted, hg]
  rw [if_pos hw]
  unfold Oper.wp
  simp [execOp, hop, resolve, invoke, builtin, hd, hx, hr, Result.andThen]
  exact hK

def InsRes (g N B : Nat) (us : List Tk) (w : World) (e : Ending) (w' : World) : Prop :=
  e = .returned (.slice (some ⟨g, 0, none⟩) us.length N) ∧ Own w' B (.slice (some ⟨g, 0, none⟩) us.length N) us ∧ w.grownBy w' (some g)

theorem own_block {w : World} {B g n N : Nat} {ts : List Tk} (h : Own w B (.slice (some ⟨g, 0, none⟩) n N) ts) :
    n = ts.length ∧ B ≤ g ∧ ∃ cur, w.heap[g]? = some (.cells cur 36 (0, 0)) ∧ n ≤ N ∧ N ≤ maxLen ∧ cur.size = N * 5 ∧ cur.toList.take (n * 5) = ts.flatMap Tk.cells := by
  have hn := h.reads.1
  rcases h.2 with ⟨e, h0⟩ | ⟨g', cap, cur, e, hb, hg, h1, h2, h3, h4⟩
  · cases e
  · injection e with e1 e2 e3
    injection e1 with e1
    injection e1 with e1
    subst e1 e3
    exact ⟨hn, hb, cur, hg, by omega, h2, h3, by rw [hn]; exact h4⟩

theorem own_of_block {w : World} {B g N : Nat} {ts : List Tk} {cur : Array Value} (hb : B ≤ g) (hg : w.heap[g]? = some (.cells cur 36 (0, 0))) (hn : ts.length ≤ N) (hN : N ≤ maxLen) (hs : cur.size = N * 5)
    (ht : cur.toList.take (ts.length * 5) = ts.flatMap Tk.cells) : Own w B (.slice (some ⟨g, 0, none⟩) ts.length N) ts :=
  ⟨cells_length ts, .inr ⟨g, N, cur, rfl, hb, hg, hn, hN, hs, ht⟩⟩

theorem gb_setRow (w : World) (g : Nat) (cs : Array Value) : w.grownBy (w.setRow g cs) (some g) :=
  ⟨rfl, rfl, rfl, by simp, fun k _ hne => setRow_other w g k cs (fun e => hne (by rw [e]))⟩

theorem drop_cells (ts : List Tk) : ∀ i, (ts.flatMap Tk.cells).drop (i * 5) = (ts.drop i).flatMap Tk.cells := by
  induction ts with
  | nil => intro i; simp
  | cons t ts ih =>
    intro i
    cases i with
    | zero => simp
    | succ i =>
      have e : (i + 1) * 5 = t.cells.length + i * 5 := by simp [Tk.cells]; omega
      rw [List.flatMap_cons, e, List.drop_append, List.drop_succ_cons]
      simp [ih]
theorem take_cells (ts : List Tk) : ∀ i, (ts.flatMap Tk.cells).take (i * 5) = (ts.take i).flatMap Tk.cells := by
  induction ts with
  | nil => intro i; simp
  | cons t ts ih =>
    intro i
    cases i with
    | zero => simp
    | succ i =>
      have e : (i + 1) * 5 = t.cells.length + i * 5 := by simp [Tk.cells]; omega
      rw [List.flatMap_cons, e, List.take_append, List.take_succ_cons]
      simp [ih]
      exact List.take_of_length_le (by omega)

/-- The row behind the two copies. -/
theorem ins_row {L X Y : List Value} {a b n : Nat} (hX : L.take n = X) (hn : n ≤ L.length) (ha : a ≤ n) (hY : Y.length = b) (hfit : n + b ≤ L.length) :
    ((((L.take (a + b) ++ X.drop a ++ L.drop (a + b + (X.drop a).length)).take a) ++ Y ++ ((L.take (a + b) ++ X.drop a ++ L.drop (a + b + (X.drop a).length)).drop (a + Y.length))).take (n + b)) = X.take a ++ Y ++ X.drop a := by
  have hXl : X.length = n := by rw [← hX, List.length_take]; omega
  have hdl : (X.drop a).length = n - a := by rw [List.length_drop, hXl]
  have e1 : (L.take (a + b) ++ X.drop a ++ L.drop (a + b + (X.drop a).length)).take a = X.take a := by
    rw [List.append_assoc, List.take_append_of_le_length (by rw [List.length_take]; omega), List.take_take, ← hX, List.take_take]
    congr 1
    omega
  have e2 : (L.take (a + b) ++ X.drop a ++ L.drop (a + b + (X.drop a).length)).drop (a + Y.length) = X.drop a ++ L.drop (a + b + (X.drop a).length) := by
    rw [hY, List.append_assoc, List.drop_append_of_le_length (by rw [List.length_take]; omega), List.drop_eq_nil_of_le (by rw [List.length_take]; omega), List.nil_append]
  rw [e1, e2, ← List.append_assoc, List.take_append_of_le_length (by simp only [List.length_append, List.length_take, hdl, hXl]; omega), List.take_of_length_le (by simp only [List.length_append, List.length_take, hdl, hXl]; omega)]

theorem info_size : (Try.prog.info? 36).map (·.size) = some 5 := by kernel_rfl
theorem sizeOf_task (w : World) : (Go.sizeOf 36).run Try.prog w = .ok 5 w := by
  obtain ⟨i0, hi, hz0, hz1, hz2⟩ := info_parts info_task
  simp [Go.sizeOf, typeInfo, hi, hz1]

theorem own_row {w : World} {B n : Nat} {v : Value} {ts : List Tk} (h : Own w B v ts) (hn : n = ts.length) : w.ownsRow B 36 5 v n (ts.flatMap Tk.cells) := by subst hn; exact h
end

section
/- Contracts of SortDue, in the program and in the reference: both return the tasks sorted by insertion from behind, in memory of their own. -/
open Go.RowKit

/-- Whether one task goes before another one. -/
def beforeB (du ev du' ev' : Int) : Bool := if du = du' then decide (ev < ev') else decide (du < du')
def Tk.bef (t u : Tk) : Bool := beforeB t.du t.ev u.du u.ev

/-- The place of t in a list, looked for from place p downwards. -/
def posB (t : Tk) (out : List Tk) : Nat → Nat
  | 0 => 0
  | p + 1 => match out[p]? with
    | some u => if t.bef u then posB t out p else p + 1
    | none => p + 1
theorem posB_le (t : Tk) (out : List Tk) : ∀ p, posB t out p ≤ p
  | 0 => Nat.le_refl _
  | p + 1 => by
    unfold posB
    split
    · split
      · exact Nat.le_succ_of_le (posB_le t out p)
      · exact Nat.le_refl _
    · exact Nat.le_refl _
def insB (t : Tk) (out : List Tk) : List Tk := out.take (posB t out out.length) ++ t :: out.drop (posB t out out.length)
def sortL (ts : List Tk) : List Tk := ts.foldl (fun out t => insB t out) []
def sortOf (ts : List Tk) : List Tk := if setB ts then sortL ts else []
theorem insB_len (t : Tk) (out : List Tk) : (insB t out).length = out.length + 1 := by
  have := posB_le t out out.length
  simp [insB]; omega
theorem sortL_take {ts : List Tk} {k : Nat} {t : Tk} (h : ts[k]? = some t) : sortL (ts.take (k + 1)) = insB t (sortL (ts.take k)) := by
  obtain ⟨hk, rfl⟩ := List.getElem?_eq_some_iff.1 h
  rw [List.take_succ_eq_append_getElem hk]
  simp only [sortL, List.foldl_append, List.foldl_cons, List.foldl_nil]
theorem sortL_len (ts : List Tk) : (sortL ts).length = ts.length := by
  have : ∀ (ts out : List Tk), (ts.foldl (fun out t => insB t out) out).length = out.length + ts.length := by
    intro ts
    induction ts with
    | nil => intro out; rfl
    | cons t ts ih => intro out; rw [List.foldl_cons, ih, insB_len, List.length_cons]; omega
  have := this ts []
  simpa [sortL] using this

theorem ret_slice {A : Option Addr} {a b c : Nat} (h : a = b) : Ending.returned (.slice A a c) = .returned (.slice A b c) := by rw [h]

theorem gb_of_below {a w : World} (h : Below a.heap.size a w) (row : Option Nat) : a.grownBy w row := ⟨h.os, h.tape, h.output, h.size, fun i hi _ => h.block i hi⟩

theorem posB_yes {t u : Tk} {out : List Tk} {q : Nat} (h : out[q]? = some u) (hb : t.bef u = true) : posB t out (q + 1) = posB t out q := by
  show (match out[q]? with | some u => if t.bef u then posB t out q else q + 1 | none => q + 1) = _
  rw [h]; simp [hb]
theorem posB_no {t u : Tk} {out : List Tk} {q : Nat} (h : out[q]? = some u) (hb : t.bef u = false) : posB t out (q + 1) = q + 1 := by
  show (match out[q]? with | some u => if t.bef u then posB t out q else q + 1 | none => q + 1) = _
  rw [h]; simp [hb]
end

section
/- Contracts of SortDue, in the program and in the reference: both return the tasks sorted by insertion from behind, in memory of their own. -/
open Go.RowKit

theorem Own.kept_dn {w w' : World} {B M : Nat} {v : Value} {ts : List Tk} {row : Option Nat} (h : Own w B v ts) (hg : w.grownBy w' row) (hv : ∀ k, v.ownBlock = some k → k < M) (hr : ∀ k, row = some k → M ≤ k) : Own w' B v ts := by
  refine World.ownsRow.kept h hg ?_
  rcases he : v.ownBlock with _ | k
  · exact .inl rfl
  · right
    intro e
    have := hv k he
    have := hr k e.symm
    omega
theorem own_first {w : World} {B q : Nat} {v : Value} {us : List Tk} (hl : us.length = 0 + q) (h : w.ownsRow B 36 5 v (0 + q) ([] ++ us.flatMap Tk.cells)) : Own w B v us := by
  show w.ownsRow _ _ _ _ _ _
  rw [hl]
  simpa using h
theorem tk_at {w : World} {B b o n i : Nat} {ts : List Tk} {t : Tk} (h : Tks w B (some ⟨b, o, none⟩) n ts) (ht : ts[i]? = some t) :
    w.cell? ⟨b, o + i * 5, none⟩ = some (.int .i64 t.lo) ∧ w.cell? ⟨b, o + i * 5 + 1, none⟩ = some (.int .i64 t.hi) ∧ w.cell? ⟨b, o + i * 5 + 2, none⟩ = some (.int .i64 t.du) ∧ w.cell? ⟨b, o + i * 5 + 3, none⟩ = some (.int .i64 t.ev) ∧ w.cell? ⟨b, o + i * 5 + 4, none⟩ = some (.bool t.cr) := by
  obtain ⟨b', o', e, _, c0, c1, c2, c3, c4⟩ := h.at_ i t ht
  injection e with e
  injection e with e1 e2
  subst e1 e2
  exact ⟨c0, c1, c2, c3, c4⟩
theorem drop_at {w : World} {B g k cc q : Nat} {out : List Tk} (ho : Own w B (.slice (some ⟨g, 0, none⟩) k cc) out) (hl : k = out.length) (ad : Addr) (had : cc = q ∨ ad = ⟨g, q * 5, none⟩) (hkc : k ≤ cc) :
    ∀ (j : Nat) (u : Value), ((out.drop q).flatMap Tk.cells)[j]? = some u → w.cell? (ad.add j) = some u := fun j u hu => by
  have hj := (List.getElem?_eq_some_iff.1 hu).1
  rw [cells_length, List.length_drop, ← hl] at hj
  rcases had with h1 | h1
  · omega
  · subst h1 hl
    rw [← drop_cells, List.getElem?_drop] at hu
    have := World.ownsRow.cells ho (g := g) rfl (q * 5 + j) u hu
    have e1 : (⟨g, 0, none⟩ : Addr).add (q * 5 + j) = ⟨g, q * 5 + j, none⟩ := by unfold Addr.add; split <;> simp_all
    have e2 : (⟨g, q * 5, none⟩ : Addr).add j = ⟨g, q * 5 + j, none⟩ := by unfold Addr.add; split <;> simp_all
    rw [e2]; rw [e1] at this; exact this
theorem own_last {w : World} {B B' q k : Nat} {v : Value} {out : List Tk} {t : Tk} (hl : k = out.length) (hq : posB t out out.length = q) (hB : B' ≤ B)
    (h : w.ownsRow B 36 5 v ((out.take q ++ [t]).length + (k - q)) ((out.take q ++ [t]).flatMap Tk.cells ++ (out.drop q).flatMap Tk.cells)) : Own w B' v (insB t out) := by
  refine own_more (B := B) ?_ hB
  unfold insB
  rw [hq]
  show w.ownsRow _ _ _ _ _ _
  have e : (out.take q ++ t :: out.drop q).length = (out.take q ++ [t]).length + (k - q) := by simp [hl] <;> omega
  have e2 : (out.take q ++ t :: out.drop q).flatMap Tk.cells = (out.take q ++ [t]).flatMap Tk.cells ++ (out.drop q).flatMap Tk.cells := by simp [List.flatMap_append, List.flatMap_cons]
  rw [e, e2]
  exact h

/-- The tasks of a list that is not nil lie in a block. -/
theorem own_form {w : World} {B : Nat} {v : Value} {ts : List Tk} (h : Own w B v ts) (hv : v ≠ .slice none 0 0) : ∃ g c, v = .slice (some ⟨g, 0, none⟩) ts.length c := by
  rcases h.2 with ⟨e, _⟩ | ⟨g, cap, cur, e, _⟩
  · exact absurd e hv
  · exact ⟨g, cap, e⟩
end

section
/- Contracts of what the reference draws as arguments of chapter 3's functions; nothing that was there is written. -/
open Go.RowKit
set_option linter.unusedVariables false

def DrewLI (m : Nat) (w : World) (e : Ending) (w' : World) : Prop :=
  ∃ (A : Option Addr) (c : Nat) (ts : List Tk) (z : Int), e = .returned (.tuple #[.slice A ts.length c, .int .i64 z]) ∧ ts.length ≤ m ∧ -1 ≤ z ∧ z ≤ 5 ∧ Own w' w.heap.size (.slice A ts.length c) ts ∧ Below w.heap.size w w'
theorem sortOf_le (ts : List Tk) : (sortOf ts).length ≤ ts.length := by
  unfold sortOf
  split
  · rw [sortL_len]; exact Nat.le_refl _
  · simp
def DrewL1 (m : Nat) (w : World) (e : Ending) (w' : World) : Prop :=
  ∃ (A : Option Addr) (c : Nat) (ts : List Tk), e = .returned (.slice A ts.length c) ∧ ts.length ≤ m ∧ Own w' w.heap.size (.slice A ts.length c) ts ∧ Below w.heap.size w w'
end

end Go.Proofs.Ytgoblabcggbfjaa
