import Derived.WalkKit
import Derived.WalkSpells
import Derived.WalkLawsBesides
import Derived.Lib.Hide
import Derived.Deep.QuietTactic
import Derived.Deep.Draws
import Derived.BigQuiet
import Derived.IntWalk
import Derived.Maps.AppendAt
import Derived.Deep.AppendLies
import Derived.Deep.RegionHeld3
import Derived.Deep.RegionLaw
import Derived.LoopTactic
import Derived.Laws.CopyRow
import Derived.Laws.Externs
import Derived.Lib.Overlaps
import Derived.Laws.AppendOwnNone
import Derived.Test.YtgponahmkjohiabGreatDoorProg
namespace Go.Proofs.YtgponahmkjohiabGreatDoor
section
open Go.RowKit
/-- Block g is a reader over n bytes f 0, f 1, .. at p. -/
structure Rd (w : World) (B g : Nat) (A : Option Addr) (n c : Nat) (f : Nat → Int) (p : Nat) : Prop where
  blk : w.heap[g]? = some (.cells #[.slice A n c, .int .i64 p] 118 (0, 0))
  ge : B ≤ g
  len : n ≤ 2000
  at_ : ∀ i, i < n → ∃ b o, A = some ⟨b, o, none⟩ ∧ b < B ∧ w.cell? ⟨b, o + i, none⟩ = some (.int .u8 (f i))
  byte : ∀ i, 0 ≤ f i ∧ f i < 256
end
section
open Go.RowKit
/-- Block g is just the cells cs of element type t, none frozen. -/
def Blk (w : World) (g : Nat) (t : TypeId) (cs : Array Value) : Prop := w.heap[g]? = some (.cells cs t (0, 0))
section
variable {w w' : World} {g : Nat} {t : TypeId} {cs : Array Value}
theorem Blk.lt (h : Blk w g t cs) : g < w.heap.size := by
  rcases Nat.lt_or_ge g w.heap.size with hlt | hge
  · exact hlt
  · unfold Blk at h; rw [Array.getElem?_eq_none hge] at h; cases h
theorem Blk.cell (h : Blk w g t cs) (i : Nat) : w.cell? ⟨g, i, none⟩ = cs[i]? := cell_of_row w g i cs t (0, 0) h
theorem Blk.frozen (h : Blk w g t cs) (i : Nat) : w.frozen? ⟨g, i, none⟩ = false := by
  unfold Blk at h
  simp [World.frozen?, h]
theorem Blk.new (w : World) (t : TypeId) (cs : Array Value) : Blk (w.alloc (.cells cs t)) w.heap.size t cs := heap_alloc_new w _
theorem Blk.drewN (h : Blk w g t cs) (n : Nat) : Blk (w.drewN n) g t cs := h
theorem Blk.alloc (h : Blk w g t cs) (o : Obj) : Blk (w.alloc o) g t cs := (Below.heap_alloc w o g h.lt).trans h
theorem Blk.set_ (h : Blk w g t cs) (i : Nat) (u : Value) : Blk (w.setCell ⟨g, i, none⟩ u) g t (cs.setIfInBounds i u) := by
  unfold Blk at h ⊢
  simp [World.setCell, Array.getElem?_modify, h]
theorem Blk.far (h : Blk w g t cs) {p : Addr} (hp : g ≠ p.block) (u : Value) : Blk (w.setCell p u) g t cs := (Below.heap_setCell w p u g hp).trans h
theorem Blk.below {B : Nat} (h : Blk w g t cs) (hb : Below B w w') (hg : g < B) : Blk w' g t cs := (hb.block g hg).trans h
theorem Blk.grown {row : Option Nat} (h : Blk w g t cs) (hb : w.grownBy w' row) (hg : some g ≠ row) : Blk w' g t cs := (hb.block g h.lt hg).trans h
end
theorem Rd.lt {w : World} {B g : Nat} {A : Option Addr} {n c : Nat} {f : Nat → Int} {p : Nat} (h : Rd w B g A n c f p) : g < w.heap.size := Blk.lt h.blk
theorem Rd.alloc {w : World} {B g : Nat} {A : Option Addr} {n c : Nat} {f : Nat → Int} {p : Nat} (h : Rd w B g A n c f p) (o : Obj) : Rd (w.alloc o) B g A n c f p :=
  ⟨Blk.alloc h.blk o, h.ge, h.len, fun i hi => by
    obtain ⟨b, of, e, hb, hc⟩ := h.at_ i hi
    exact ⟨b, of, e, hb, by rw [World.cell?_alloc_lt w o _ (by have := h.ge; have := h.lt; show b < _; omega)]; exact hc⟩, h.byte⟩
theorem Rd.set {w : World} {B g : Nat} {A : Option Addr} {n c : Nat} {f : Nat → Int} {p : Nat} (h : Rd w B g A n c f p) {q : Addr} (hq : B ≤ q.block) (hg : q.block ≠ g) (u : Value) : Rd (w.setCell q u) B g A n c f p :=
  ⟨Blk.far h.blk (fun e => hg e.symm) u, h.ge, h.len, fun i hi => by
    obtain ⟨b, of, e, hb, hc⟩ := h.at_ i hi
    exact ⟨b, of, e, hb, by rw [World.cell?_setCell_other w _ _ _ (fun e => by subst e; simp at hq; omega)]; exact hc⟩, h.byte⟩
theorem Rd.drewN {w : World} {B g : Nat} {A : Option Addr} {n c : Nat} {f : Nat → Int} {p : Nat} (h : Rd w B g A n c f p) (k : Nat) : Rd (w.drewN k) B g A n c f p :=
  ⟨h.blk, h.ge, h.len, h.at_, h.byte⟩
theorem Rd.grown {w w' : World} {B g : Nat} {A : Option Addr} {n c : Nat} {f : Nat → Int} {p : Nat} (h : Rd w B g A n c f p) {row : Option Nat} (hb : w.grownBy w' row) (hr : ∀ k, row = some k → B ≤ k ∧ k ≠ g) : Rd w' B g A n c f p :=
  ⟨Blk.grown h.blk hb (fun e => (hr g e.symm).2 rfl), h.ge, h.len, fun i hi => by
    obtain ⟨b, of, e, hbb, hc⟩ := h.at_ i hi
    exact ⟨b, of, e, hbb, (World.cell?_of_block (hb.block b (by have := h.ge; have := h.lt; omega) (fun e => by have := (hr b e.symm).1; omega))).trans hc⟩, h.byte⟩
theorem gb_set {a w : World} {g : Nat} (h : a.grownBy w (some g)) {p : Addr} (hp : p.block = g ∨ a.heap.size ≤ p.block) (u : Value) : a.grownBy (w.setCell p u) (some g) :=
  ⟨h.os, h.tape, h.output, by simpa [World.setCell] using h.size, fun i hi hne => (Below.heap_setCell w p u i (by
    rintro rfl
    rcases hp with hp | hp
    · exact hne (by rw [hp])
    · omega)).trans (h.block i hi hne)⟩
theorem bl_alloc {w w' : World} (h : Below w.heap.size w w') (o : Obj) : Below w.heap.size w (w'.alloc o) := h.alloc h.size o
theorem bl_set {w w' : World} (h : Below w.heap.size w w') {p : Addr} (hp : w.heap.size ≤ p.block) (u : Value) : Below w.heap.size w (w'.setCell p u) := h.setCell hp u
theorem bl_drewN {w w' : World} (h : Below w.heap.size w w') (n : Nat) : Below w.heap.size w (w'.drewN n) := ⟨h.os, h.tape, h.output, h.size, h.block⟩
theorem bl_trans {w w' w'' : World} (h : Below w.heap.size w w') (k : Below w'.heap.size w' w'') : Below w.heap.size w w'' := h.trans (k.mono h.size)
end
section
open Go.RowKit
/-- Whether the bounds of a task hold. -/
def validB (lo hi du ev : Int) (c : Bool) : Bool :=
  decide (1 ≤ lo) && (decide (lo ≤ hi) && (decide (hi ≤ du) && (decide (du ≤ ev) && (decide (ev ≤ 20) && (c || lo == hi)))))
set_option maxHeartbeats 400000 in
theorem iTaskValid_any (lo hi du ev : Int) (c : Bool) (w : World) :
    Calls Tryz.prog 105 #[.agg #[.int .i64 lo, .int .i64 hi, .int .i64 du, .int .i64 ev, .bool c]] w fun e w' =>
      e = .returned (.bool (validB lo hi du ev c)) ∧ w.alloc (.cells #[.int .i64 lo, .int .i64 hi, .int .i64 du, .int .i64 ev, .bool c] 43) = w' := by
  go_enter Tryz.func105, Tryz.ntmps105
  go_wp2
  all_goals go_ret
  all_goals exact ⟨by simp [validB, *] <;> (intros; exfalso; omega), by simp [*]⟩
set_option maxHeartbeats 400000 in
theorem sTaskValid_any (lo hi du ev : Int) (c : Bool) (w : World) :
    Calls Tryz.prog 142 #[.agg #[.int .i64 lo, .int .i64 hi, .int .i64 du, .int .i64 ev, .bool c]] w fun e w' =>
      e = .returned (.bool (validB lo hi du ev c)) ∧ w.alloc (.cells #[.int .i64 lo, .int .i64 hi, .int .i64 du, .int .i64 ev, .bool c] 43) = w' := by
  go_enter Tryz.func142, Tryz.ntmps142
  go_wp2
  all_goals go_ret
  all_goals exact ⟨by simp [validB, *] <;> (intros; exfalso; omega), by simp [*]⟩
end
section
open Go.RowKit
/-- The numbers of a task are small. -/
def smallT (lo hi du ev : Int) (_ : Bool) : Prop := (-1 ≤ lo ∧ lo ≤ 21) ∧ (-1 ≤ hi ∧ hi ≤ 21) ∧ (-1 ≤ du ∧ du ≤ 21) ∧ (-1 ≤ ev ∧ ev ≤ 21)
end
section
open Go.RowKit
def goodT (lo hi du ev : Int) (cr : Bool) : Prop := 1 ≤ lo ∧ lo ≤ hi ∧ hi ≤ du ∧ du ≤ ev ∧ ev ≤ 20 ∧ (cr = false → lo = hi)
theorem goodT.small {lo hi du ev : Int} {cr : Bool} (h : goodT lo hi du ev cr) : smallT lo hi du ev cr := by
  obtain ⟨h1, h2, h3, h4, h5, _⟩ := h; exact ⟨⟨by omega, by omega⟩, ⟨by omega, by omega⟩, ⟨by omega, by omega⟩, ⟨by omega, by omega⟩⟩
theorem goodT.valid {lo hi du ev : Int} {cr : Bool} (h : goodT lo hi du ev cr) : validB lo hi du ev cr = true := by
  obtain ⟨h1, h2, h3, h4, h5, h6⟩ := h
  cases cr
  · obtain rfl := h6 rfl
    simp [validB]; omega
  · simp [validB]; omega
end
section
open Go.RowKit
/-- A slice of n bytes f 0, f 1, .. below block B. -/
structure Code (w : World) (B : Nat) (A : Option Addr) (n c : Nat) (f : Nat → Int) : Prop where
  le : n ≤ c
  max : c ≤ maxLen
  at_ : ∀ i, i < n → ∃ b o, A = some ⟨b, o, none⟩ ∧ b < B ∧ w.cell? ⟨b, o + i, none⟩ = some (.int .u8 (f i))
  byte : ∀ i, 0 ≤ f i ∧ f i < 256
theorem Code.alloc {w : World} {A : Option Addr} {n c : Nat} {f : Nat → Int} (h : Code w w.heap.size A n c f) (o : Obj) : Code (w.alloc o) (w.alloc o).heap.size A n c f :=
  ⟨h.le, h.max, fun i hi => by
    obtain ⟨b, of, e, hb, hc⟩ := h.at_ i hi
    exact ⟨b, of, e, by simp; omega, by rw [World.cell?_alloc_lt w o _ hb]; exact hc⟩, h.byte⟩
end
section
open Go.RowKit
/-- A task as plain data. -/
structure Tk where
  lo : Int
  hi : Int
  du : Int
  ev : Int
  cr : Bool
def Tk.ok (t : Tk) : Bool := validB t.lo t.hi t.du t.ev t.cr
def Tk.cells (t : Tk) : List Value := [.int .i64 t.lo, .int .i64 t.hi, .int .i64 t.du, .int .i64 t.ev, .bool t.cr]
def Tk.val (t : Tk) : Value := .agg #[.int .i64 t.lo, .int .i64 t.hi, .int .i64 t.du, .int .i64 t.ev, .bool t.cr]
/-- At (b, o) lies the task t. -/
structure TkAt (w : World) (b o : Nat) (t : Tk) : Prop where
  c0 : w.cell? ⟨b, o, none⟩ = some (.int .i64 t.lo)
  c1 : w.cell? ⟨b, o + 1, none⟩ = some (.int .i64 t.hi)
  c2 : w.cell? ⟨b, o + 2, none⟩ = some (.int .i64 t.du)
  c3 : w.cell? ⟨b, o + 3, none⟩ = some (.int .i64 t.ev)
  c4 : w.cell? ⟨b, o + 4, none⟩ = some (.bool t.cr)
/-- The slice (A, n) reads as the tasks ts; it lies below block B. -/
structure Tks (w : World) (B : Nat) (A : Option Addr) (n : Nat) (ts : List Tk) : Prop where
  len : ts.length = n
  at_ : ∀ i t, ts[i]? = some t → ∃ b o, A = some ⟨b, o, none⟩ ∧ b < B ∧ TkAt w b (o + i * 5) t
theorem TkAt.keep {w w' : World} {b o : Nat} {t : Tk} (h : TkAt w b o t) (hk : ∀ i, w'.cell? ⟨b, i, none⟩ = w.cell? ⟨b, i, none⟩) : TkAt w' b o t :=
  ⟨(hk _).trans h.c0, (hk _).trans h.c1, (hk _).trans h.c2, (hk _).trans h.c3, (hk _).trans h.c4⟩
theorem Tks.keep {w w' : World} {B : Nat} {A : Option Addr} {n : Nat} {ts : List Tk} (h : Tks w B A n ts) (hk : ∀ b i, b < B → w'.cell? ⟨b, i, none⟩ = w.cell? ⟨b, i, none⟩) : Tks w' B A n ts :=
  ⟨h.len, fun i t ht => by
    obtain ⟨b, o, e, hb, hc⟩ := h.at_ i t ht
    exact ⟨b, o, e, hb, hc.keep fun i => hk b i hb⟩⟩
theorem Tks.below {w w' : World} {B : Nat} {A : Option Addr} {n : Nat} {ts : List Tk} (h : Tks w B A n ts) (hb : Below B w w') : Tks w' B A n ts :=
  h.keep fun b i hbB => hb.cell (p := ⟨b, i, none⟩) hbB
theorem Tks.more {w : World} {B B' : Nat} {A : Option Addr} {n : Nat} {ts : List Tk} (h : Tks w B A n ts) (hB : B ≤ B') : Tks w B' A n ts :=
  ⟨h.len, fun i t ht => by
    obtain ⟨b, o, e, hb, hc⟩ := h.at_ i t ht
    exact ⟨b, o, e, by omega, hc⟩⟩
def setB (ts : List Tk) : Bool := decide (ts.length ≤ 5) && ts.all Tk.ok
theorem setB_take_false {ts : List Tk} {k : Nat} {t : Tk} (h : ts[k]? = some t) (hv : t.ok = false) : setB ts = false := by
  unfold setB
  have : ts.all Tk.ok = false := by
    rw [List.all_eq_false]
    exact ⟨t, List.mem_of_getElem? h, by simp [hv]⟩
  simp [this]
theorem all_take_succ {ts : List Tk} {k : Nat} {t : Tk} (h : ts[k]? = some t) (hv : t.ok = true) (ha : (ts.take k).all Tk.ok = true) : (ts.take (k + 1)).all Tk.ok = true := by
  obtain ⟨hk, rfl⟩ := List.getElem?_eq_some_iff.1 h
  rw [List.take_succ_eq_append_getElem hk, List.all_append, ha]
  simp [hv]
theorem ret_bool {a b : Bool} (h : a = b) : Ending.returned (.bool a) = .returned (.bool b) := by rw [h]
def SetRes (ts : List Tk) (w : World) (e : Ending) (w' : World) : Prop := e = .returned (.bool (setB ts)) ∧ Below w.heap.size w w'
set_option maxHeartbeats 1000000 in
theorem iSetValid_any (w : World) (A : Option Addr) (n c : Nat) (ts : List Tk) (h : Tks w w.heap.size A n ts) (hn : n ≤ 1048576) :
    Calls Tryz.prog 53 #[.slice A n c] w (SetRes ts w) := by
  have H := Lib.hid h
  have hlen := h.len
  clear h
  by_cases h5 : 5 < n
  · have hs : Hid (setB ts = false) := by show setB ts = false; unfold setB; simp; omega
    clear hlen
    go_enter Tryz.func53, Tryz.ntmps53
    go_wp2
    go_ret
    exact ⟨by rw [hs.out]; rfl, Below.refl _ _⟩
  have HL := Lib.hid hlen
  clear hlen
  go_enter Tryz.func53, Tryz.ntmps53
  go_wp2
  go_loopw [10] (fun i wr => ∃ k : Nat, k ≤ n ∧ i = .int .i64 k ∧ Hid ((ts.take k).all Tk.ok = true) ∧ Below w.heap.size w wr) (fun i _ => n - (intOf i).toNat)
  case atStart => exact ⟨0, Nat.zero_le _, rfl, by show _ = _; rfl, Below.refl _ _⟩
  case round =>
    obtain ⟨k, hk, rfl, hall, hb⟩ := hrel
    by_cases hlt : k < n
    · obtain ⟨t, ht⟩ : ∃ t, ts[k]? = some t := ⟨ts[k]'(by rw [HL.out]; exact hlt), List.getElem?_eq_getElem _⟩
      obtain ⟨b, o, rfl, hbl, c0, c1, c2, c3, c4⟩ := (H.out.below hb).at_ k t ht
      have hsz := hb.size
      have HB := Lib.hid hb
      have HT := Lib.hid ht
      clear hb ht
      cases hv : t.ok
      · have hv' : validB t.lo t.hi t.du t.ev t.cr = false := hv
        have hs : Hid (setB ts = false) := setB_take_false HT.out hv
        clear hv
        go_wp2_with (go_at_call 105; refine (iTaskValid_any _ _ _ _ _ _).mono ?_; rintro e w' ⟨rfl, rfl⟩)
        go_ret
        exact ⟨by rw [hs.out]; rfl, bl_alloc (bl_alloc HB.out _) _⟩
      · have hv' : validB t.lo t.hi t.du t.ev t.cr = true := hv
        have ha : Hid ((ts.take (k + 1)).all Tk.ok = true) := all_take_succ HT.out hv hall.out
        clear hv
        go_wp2_with (go_at_call 105; refine (iTaskValid_any _ _ _ _ _ _).mono ?_; rintro e w' ⟨rfl, rfl⟩)
        go_roundw
        case rel => exact ⟨k + 1, by omega, by go_num, ha, bl_alloc (bl_alloc HB.out _) _⟩
        case measure => simp [intOf]; omega
    · obtain rfl : k = n := by omega
      have hs : Hid (setB ts = true) := by
        show setB ts = true
        unfold setB
        have h := hall.out
        rw [List.take_of_length_le (by rw [HL.out]; omega)] at h
        rw [h]; simp [HL.out]; omega
      have HB := Lib.hid hb
      clear hb
      go_wp2
      go_ret
      exact ⟨by rw [hs.out]; rfl, HB.out⟩
set_option maxHeartbeats 1000000 in
theorem sSetValid_any (w : World) (A : Option Addr) (n c : Nat) (ts : List Tk) (h : Tks w w.heap.size A n ts) (hn : n ≤ 1048576) :
    Calls Tryz.prog 99 #[.slice A n c] w (SetRes ts w) := by
  have H := Lib.hid h
  have HL := Lib.hid h.len
  clear h
  go_enter Tryz.func99, Tryz.ntmps99
  go_wp2
  go_loopw [3] (fun i wr => ∃ k : Nat, k ≤ n ∧ k ≤ 6 ∧ i = .int .i64 k ∧ Hid ((ts.take k).all Tk.ok = true) ∧ Below w.heap.size w wr) (fun i _ => n - (intOf i).toNat)
  case atStart => exact ⟨0, Nat.zero_le _, Nat.zero_le _, rfl, by show _ = _; rfl, Below.refl _ _⟩
  case round =>
    obtain ⟨k, hk, hk6, rfl, hall, hb⟩ := hrel
    by_cases hlt : k < n
    · by_cases h5 : k ≤ 5
      · obtain ⟨t, ht⟩ : ∃ t, ts[k]? = some t := ⟨ts[k]'(by rw [HL.out]; exact hlt), List.getElem?_eq_getElem _⟩
        obtain ⟨b, o, rfl, hbl, c0, c1, c2, c3, c4⟩ := (H.out.below hb).at_ k t ht
        have hsz := hb.size
        have HB := Lib.hid hb
        have HT := Lib.hid ht
        clear hb ht
        cases hv : t.ok
        · have hv' : validB t.lo t.hi t.du t.ev t.cr = false := hv
          have hs : Hid (setB ts = false) := setB_take_false HT.out hv
          clear hv
          go_wp2_with (go_at_call 142; refine (sTaskValid_any _ _ _ _ _ _).mono ?_; rintro e w' ⟨rfl, rfl⟩)
          go_ret
          exact ⟨by rw [hs.out]; rfl, bl_alloc HB.out _⟩
        · have hv' : validB t.lo t.hi t.du t.ev t.cr = true := hv
          have ha : Hid ((ts.take (k + 1)).all Tk.ok = true) := all_take_succ HT.out hv hall.out
          clear hv
          go_wp2_with (go_at_call 142; refine (sTaskValid_any _ _ _ _ _ _).mono ?_; rintro e w' ⟨rfl, rfl⟩)
          go_roundw
          case rel => exact ⟨k + 1, by omega, by omega, by go_num, ha, bl_alloc HB.out _⟩
          case measure => simp [intOf]; omega
      · have hs : Hid (setB ts = false) := by show setB ts = false; unfold setB; simp [HL.out]; omega
        have HB := Lib.hid hb
        clear hb
        go_wp2
        go_ret
        exact ⟨ret_bool (a := decide ((n : Int) ≤ 5)) (by rw [hs.out]; exact decide_eq_false (by omega)), HB.out⟩
    · obtain rfl : k = n := by omega
      have h := hall.out
      rw [List.take_of_length_le (by rw [HL.out]; omega)] at h
      have hs : Hid (setB ts = decide (k ≤ 5)) := by
        show setB ts = _
        unfold setB
        rw [h]; simp [HL.out]
      clear h
      have HB := Lib.hid hb
      clear hb
      by_cases h5 : k ≤ 5
      · go_wp2
        go_ret
        exact ⟨ret_bool (a := decide ((k : Int) ≤ 5)) (by rw [hs.out, decide_eq_true h5]; exact decide_eq_true (by omega)), HB.out⟩
      · go_wp2
        go_ret
        exact ⟨ret_bool (a := decide ((k : Int) ≤ 5)) (by rw [hs.out, decide_eq_false h5]; exact decide_eq_false (by omega)), HB.out⟩
end
section
open Go.RowKit
theorem info_task : (Tryz.prog.info? 43).map (fun i => (i.zero, i.size, i.bytes)) = some (some (.agg #[.int .i64 0, .int .i64 0, .int .i64 0, .int .i64 0, .bool false]), 5, 40) := by kernel_rfl
/-- The slice value v is the call's own (a block from B on) and holds the tasks ts. -/
def Own (w : World) (B : Nat) (v : Value) (ts : List Tk) : Prop := w.ownsRow B 43 5 v ts.length (ts.flatMap Tk.cells)
theorem cells_one (ts : List Tk) : ∀ u ∈ ts.flatMap Tk.cells, u.oneCell' = true := by
  intro u hu
  simp only [List.mem_flatMap, Tk.cells] at hu
  obtain ⟨t, _, h⟩ := hu
  simp at h
  rcases h with rfl | rfl | rfl | rfl | rfl <;> rfl
theorem cells_get (ts : List Tk) : ∀ (i : Nat) (t : Tk), ts[i]? = some t → ∀ (j : Nat), j < 5 → (ts.flatMap Tk.cells)[i * 5 + j]? = t.cells[j]? := by
  induction ts with
  | nil => intro i t h; simp at h
  | cons a ts ih =>
    intro i t h j hj
    cases i with
    | zero =>
      simp at h
      subst h
      rw [List.flatMap_cons, List.getElem?_append_left (by simp [Tk.cells]; omega)]
      simp
    | succ i =>
      rw [List.flatMap_cons, List.getElem?_append_right (by simp [Tk.cells]; omega)]
      have e : (i + 1) * 5 + j - a.cells.length = i * 5 + j := by simp [Tk.cells]; omega
      rw [e]
      exact ih i t (by simpa using h) j hj
/-- An owned row reads as its tasks. -/
theorem Own.reads {w : World} {B : Nat} {A : Option Addr} {n c : Nat} {ts : List Tk} (h : Own w B (.slice A n c) ts) : n = ts.length ∧ Tks w w.heap.size A n ts := by
  have hn : n = ts.length := by
    rcases h.2 with ⟨e, h0⟩ | ⟨g, cap, cur, e, _⟩
    · injection e; omega
    · injection e
  refine ⟨hn, hn.symm, fun i t ht => ?_⟩
  have hi : i < ts.length := (List.getElem?_eq_some_iff.1 ht).1
  rcases h.2 with ⟨e, h0⟩ | ⟨g, cap, cur, e, _, hg, _⟩
  · omega
  · injection e with e1 e2 e3
    subst e1
    have hlt : g < w.heap.size := by
      rcases Nat.lt_or_ge g w.heap.size with hlt | hge
      · exact hlt
      · rw [Array.getElem?_eq_none hge] at hg; cases hg
    have hc := h.cells (g := g) rfl
    have at_ : ∀ j u, j < 5 → t.cells[j]? = some u → w.cell? ⟨g, i * 5 + j, none⟩ = some u := by
      intro j u hj hu
      have := hc (i * 5 + j) u (by rw [cells_get ts i t ht j hj]; exact hu)
      have ea : (⟨g, 0, none⟩ : Addr).add (i * 5 + j) = ⟨g, i * 5 + j, none⟩ := by unfold Addr.add; split <;> simp_all
      rwa [ea] at this
    refine ⟨g, 0, rfl, hlt, ?_⟩
    rw [Nat.zero_add]
    exact ⟨at_ 0 _ (by omega) rfl, at_ 1 _ (by omega) rfl, at_ 2 _ (by omega) rfl, at_ 3 _ (by omega) rfl, at_ 4 _ (by omega) rfl⟩
theorem Own.kept {w w' : World} {B : Nat} {v : Value} {ts : List Tk} {row : Option Nat} (h : Own w B v ts) (hg : w.grownBy w' row) (hr : ∀ k, row = some k → k < B) : Own w' B v ts := by
  refine World.ownsRow.kept h hg ?_
  rcases he : v.ownBlock with _ | k
  · exact .inl rfl
  · right
    intro e
    have := (World.ownsRow.lt h k he).1
    have := hr k e.symm
    omega
theorem Own.alloc {w : World} {B : Nat} {v : Value} {ts : List Tk} (h : Own w B v ts) (o : Obj) : Own (w.alloc o) B v ts := World.ownsRow.alloc h o
theorem Own.form {w : World} {B : Nat} {v : Value} {ts : List Tk} (h : Own w B v ts) : ∃ A c, v = .slice A ts.length c := by
  rcases h.2 with ⟨e, h0⟩ | ⟨g, cap, cur, e, _⟩
  · exact ⟨none, 0, by rw [e, h0]⟩
  · exact ⟨_, cap, e⟩
theorem cell_new5 (w : World) (t : Tk) (ty : TypeId) : ∀ j u, t.cells[j]? = some u → (w.alloc (.cells #[.int .i64 t.lo, .int .i64 t.hi, .int .i64 t.du, .int .i64 t.ev, .bool t.cr] ty)).cell? ((⟨w.heap.size, 0, none⟩ : Addr).add j) = some u := by
  intro j u hj
  have ea : (⟨w.heap.size, 0, none⟩ : Addr).add j = ⟨w.heap.size, j, none⟩ := by unfold Addr.add; split <;> simp_all
  rw [ea, (Blk.new w ty _).cell j, ← hj]
  simp [Tk.cells]
theorem cell_new5_at (w : World) (t : Tk) (ty : TypeId) (g : Nat) (hg : g = w.heap.size) : ∀ j u, t.cells[j]? = some u → (w.alloc (.cells #[.int .i64 t.lo, .int .i64 t.hi, .int .i64 t.du, .int .i64 t.ev, .bool t.cr] ty)).cell? ((⟨g, 0, none⟩ : Addr).add j) = some u := by
  subst hg; exact cell_new5 w t ty
theorem Own.snoc {w : World} {B : Nat} {v : Value} {ts : List Tk} {t : Tk} (h : w.ownsRow B 43 5 v (ts.length + 1) (ts.flatMap Tk.cells ++ t.cells)) : Own w B v (ts ++ [t]) := by
  unfold Own
  rw [List.flatMap_append, List.length_append]
  simpa using h
end
section
open Go.RowKit
theorem set_cells (ts : List Tk) : ∀ (k : Nat) (t : Tk), k < ts.length →
    (((((ts.flatMap Tk.cells).set (k * 5) (.int .i64 t.lo)).set (k * 5 + 1) (.int .i64 t.hi)).set (k * 5 + 2) (.int .i64 t.du)).set (k * 5 + 3) (.int .i64 t.ev)).set (k * 5 + 4) (.bool t.cr) = (ts.set k t).flatMap Tk.cells := by
  induction ts with
  | nil => intro k t h; simp at h
  | cons a ts ih =>
    intro k t h
    cases k with
    | zero => simp [List.flatMap_cons, Tk.cells]
    | succ k =>
      have e0 : (k + 1) * 5 = k * 5 + 5 := by omega
      simp only [List.flatMap_cons, Tk.cells, List.set_cons_succ, e0, List.cons_append, List.nil_append]
      rw [← ih k t (by simpa using h)]
theorem Own.put {w : World} {B h n c : Nat} {ts : List Tk} (ho : Own w B (.slice (some ⟨h, 0, none⟩) n c) ts) (k : Nat) (t : Tk) (hk : k < ts.length) :
    Own (((((w.setCell ⟨h, k * 5, none⟩ (.int .i64 t.lo)).setCell ⟨h, k * 5 + 1, none⟩ (.int .i64 t.hi)).setCell ⟨h, k * 5 + 2, none⟩ (.int .i64 t.du)).setCell ⟨h, k * 5 + 3, none⟩ (.int .i64 t.ev)).setCell ⟨h, k * 5 + 4, none⟩ (.bool t.cr)) B (.slice (some ⟨h, 0, none⟩) n c) (ts.set k t) := by
  have hn := ho.reads.1
  subst hn
  have h5 := (((((World.ownsRow.stored ho (k * 5) (.int .i64 t.lo)).1.stored (k * 5 + 1) (.int .i64 t.hi)).1.stored (k * 5 + 2) (.int .i64 t.du)).1.stored (k * 5 + 3) (.int .i64 t.ev)).1.stored (k * 5 + 4) (.bool t.cr)).1
  unfold Own
  rw [List.length_set, ← set_cells ts k t hk]
  exact h5
end
section
open Go.RowKit
theorem setB_len {ts : List Tk} (h : setB ts = true) : ts.length ≤ 5 := by
  unfold setB at h; simp at h; exact h.1
/-- A list of tasks as the result: in memory of its own; nothing that was there is written. -/
def LsRes (ts : List Tk) (w : World) (e : Ending) (w' : World) : Prop :=
  ∃ (A : Option Addr) (c : Nat), e = .returned (.slice A ts.length c) ∧ Own w' w.heap.size (.slice A ts.length c) ts ∧ Below w.heap.size w w'
theorem Own.nil_ (w : World) (B : Nat) : Own w B (.slice none 0 0) [] := ⟨rfl, .inl ⟨rfl, rfl⟩⟩
theorem lsRes_of {w w' : World} {v : Value} {ts ts' : List Tk} (ho : Own w' w.heap.size v ts) (hb : Below w.heap.size w w') (he : ts = ts') : LsRes ts' w (.returned v) w' := by
  subst he
  obtain ⟨A, c, rfl⟩ := ho.form
  exact ⟨A, c, rfl, ho, hb⟩
theorem Own.empty (w : World) : Own (w.alloc (.cells #[] 43)) w.heap.size (.slice (some ⟨w.heap.size, 0, none⟩) 0 0) [] :=
  ⟨rfl, .inr ⟨w.heap.size, 0, #[], rfl, Nat.le_refl _, heap_alloc_new w _, Nat.le_refl _, Nat.zero_le _, rfl, rfl⟩⟩
theorem Own.below {w w' : World} {B : Nat} {v : Value} {ts : List Tk} (h : Own w B v ts) (hb : Below w.heap.size w w') : Own w' B v ts :=
  h.kept (row := none) ⟨hb.os, hb.tape, hb.output, hb.size, fun k hk _ => hb.block k hk⟩ (fun k e => by cases e)
end
section
open Go.RowKit
def critL (ts : List Tk) : List Tk := (ts.filter Tk.cr).map fun t => ⟨t.hi, t.hi, t.du, t.ev, t.cr⟩
def critOf (ts : List Tk) : List Tk := if setB ts then critL ts else []
theorem critL_yes {ts : List Tk} {k : Nat} {t : Tk} (h : ts[k]? = some t) (hc : t.cr = true) : critL (ts.take (k + 1)) = critL (ts.take k) ++ [⟨t.hi, t.hi, t.du, t.ev, t.cr⟩] := by
  obtain ⟨hk, rfl⟩ := List.getElem?_eq_some_iff.1 h
  rw [List.take_succ_eq_append_getElem hk]
  simp only [critL, List.filter_append, List.map_append, List.filter_cons, hc, if_true, List.filter_nil, List.map_cons, List.map_nil]
theorem critL_no {ts : List Tk} {k : Nat} {t : Tk} (h : ts[k]? = some t) (hc : t.cr = false) : critL (ts.take (k + 1)) = critL (ts.take k) := by
  obtain ⟨hk, rfl⟩ := List.getElem?_eq_some_iff.1 h
  rw [List.take_succ_eq_append_getElem hk]
  simp only [critL, List.filter_append, List.filter_cons, hc, Bool.false_eq_true, if_false, List.filter_nil, List.append_nil]
theorem critL_len (ts : List Tk) : (critL ts).length ≤ ts.length := by
  unfold critL; rw [List.length_map]; exact List.length_filter_le _ _
set_option maxHeartbeats 1000000 in
theorem iCriticalOf_any (w : World) (A : Option Addr) (n c : Nat) (ts : List Tk) (h : Tks w w.heap.size A n ts) (hn : n ≤ 1048576) :
    Calls Tryz.prog 148 #[.slice A n c] w (LsRes (critOf ts) w) := by
  obtain ⟨i0, hi, hz0, hz1, hz2⟩ := info_parts info_task
  have H := Lib.hid h
  have HL := Lib.hid h.len
  clear h
  cases hs : setB ts
  · go_enter Tryz.func148, Tryz.ntmps148
    go_wp2_with (go_at_call 53; refine (iSetValid_any _ _ _ _ ts H.out hn).mono ?_; rintro e w1 ⟨rfl, hb⟩)
    go_ret
    exact lsRes_of (Own.nil_ _ _) hb (by simp [critOf, hs])
  have h5 : n ≤ 5 := by have := setB_len hs; rw [HL.out] at this; exact this
  go_enter Tryz.func148, Tryz.ntmps148
  go_wp2_with fail
  refine (iSetValid_any _ _ _ _ ts H.out hn).mono ?_
  rintro e w1 ⟨rfl, hb⟩
  have HB1 := Lib.hid hb
  have hsz1 : w.heap.size ≤ w1.heap.size := hb.size
  have HS := Lib.hid hs
  clear hb
  go_wp2_with (at_make; refine wpList_make_own _ rfl _ _ 23 rfl w.heap.size 43 i0 _ 5 Tryz.underlying23 hi hz0 hz1 .i64 .i64 _ n rfl rfl rfl (by rw [hz2]; omega) (by unfold maxLen; omega) hsz1 ?_; intro w2 hown0 hgrow0)
  have HO0 := Lib.hid (show Own w2 w.heap.size _ [] from hown0)
  have HB2 := Lib.hid (HB1.out.grown hgrow0 hsz1 (fun k e => by cases e))
  clear hown0 hgrow0 hs
  go_loopw [3, 14] (fun v i wr => ∃ k : Nat, k ≤ n ∧ i = .int .i64 k ∧ Own wr w.heap.size v (critL (ts.take k)) ∧ Below w.heap.size w wr) (fun _ i _ => n - (intOf i).toNat)
  case atStart => exact ⟨0, Nat.zero_le _, rfl, HO0.out, HB2.out⟩
  case round =>
    obtain ⟨k, hk, rfl, ho, hb⟩ := hrel
    have HO := Lib.hid ho
    have HB := Lib.hid hb
    have hsz : w.heap.size ≤ wr.heap.size := hb.size
    clear ho hb
    by_cases hlt : k < n
    · obtain ⟨t, ht⟩ : ∃ t, ts[k]? = some t := ⟨ts[k]'(by rw [HL.out]; exact hlt), List.getElem?_eq_getElem _⟩
      obtain ⟨b, o, rfl, hbl, c0, c1, c2, c3, c4⟩ := (H.out.below HB.out).at_ k t ht
      obtain ⟨lo, hi', du, ev, cr⟩ := t
      dsimp only at c0 c1 c2 c3 c4
      have HT := Lib.hid ht
      clear ht
      cases cr
      · go_wp2
        go_roundw
        case rel => exact ⟨k + 1, by omega, by go_num, by rw [critL_no HT.out rfl]; exact HO.out.alloc _, bl_alloc HB.out _⟩
        case measure => simp [intOf]; omega
      · have hlen : (critL (ts.take k)).length ≤ 5 := Nat.le_trans (critL_len _) (by rw [List.length_take]; omega)
        have b1 : (critL (ts.take k)).length + 1 ≤ maxLen := by unfold maxLen; omega
        have b2 : ((critL (ts.take k)).length + 1) * 40 ≤ 140737488355328 := by omega
        go_wp2_with (at_builtin; refine wpList_append_own _ rfl (.tmp 23) (.tmp 25) 23 rfl w.heap.size 43 i0 _ 5 40 Tryz.underlying23 hi hz0 hz1 hz2 rfl (by decide) _ (critL (ts.take k)).length ((critL (ts.take k)).flatMap Tk.cells) rfl ((HO.out.alloc _).alloc _) ⟨wr.heap.size + 1, 0, none⟩ 1 1 (Tk.cells ⟨hi', hi', du, ev, true⟩) rfl rfl (cell_new5_at _ ⟨hi', hi', du, ev, true⟩ _ _ (by simp)) (by intro u hu; exact cells_one [⟨hi', hi', du, ev, true⟩] u (by simpa using hu)) b1 b2 (by simp; omega) ?_; intro v' w4 hown' hgrow _)
        have HO4 := Lib.hid (Own.snoc hown')
        have HB4 := Lib.hid ((bl_alloc (bl_alloc HB.out _) _).grown hgrow (by simp; omega) (fun k e => (World.ownsRow.lt HO.out k e).1))
        clear hown' hgrow hlen b1 b2
        go_wp2
        go_roundw
        case rel => exact ⟨k + 1, by omega, by go_num, by rw [critL_yes HT.out rfl]; exact HO4.out, HB4.out⟩
        case measure => simp [intOf]; omega
    · obtain rfl : k = n := by omega
      go_wp2
      go_ret
      exact lsRes_of HO.out HB.out (by rw [List.take_of_length_le (by rw [HL.out]; omega)]; simp [critOf, HS.out])
set_option maxHeartbeats 1000000 in
theorem sCriticalOf_any (w : World) (A : Option Addr) (n c : Nat) (ts : List Tk) (h : Tks w w.heap.size A n ts) (hn : n ≤ 1048576) :
    Calls Tryz.prog 151 #[.slice A n c] w (LsRes (critOf ts) w) := by
  obtain ⟨i0, hi, hz0, hz1, hz2⟩ := info_parts info_task
  have H := Lib.hid h
  have HL := Lib.hid h.len
  clear h
  cases hs : setB ts
  · have hn0 : 0 < n := by
      rcases Nat.eq_zero_or_pos n with h0 | h0
      · have : ts = [] := List.eq_nil_of_length_eq_zero (by rw [HL.out, h0])
        rw [this] at hs; cases hs
      · exact h0
    go_enter Tryz.func151, Tryz.ntmps151
    go_wp2
    go_loopw [3, 4] (fun v i wr => i = .int .i64 0 ∧ Own wr w.heap.size v [] ∧ Below w.heap.size w wr) (fun _ _ _ => 0)
    case atStart => exact ⟨rfl, Own.empty w, bl_alloc (Below.refl _ _) _⟩
    case round =>
      obtain ⟨rfl, ho, hb⟩ := hrel
      have HO := Lib.hid ho
      have HB := Lib.hid hb
      have hsz : w.heap.size ≤ wr.heap.size := hb.size
      clear ho hb
      go_wp2_with fail
      refine (sSetValid_any _ _ _ _ ts ((H.out.below HB.out).more hsz) hn).mono ?_
      rintro e w2 ⟨rfl, hb2⟩
      have HB2 := Lib.hid (bl_trans HB.out hb2)
      have HO2 := Lib.hid (HO.out.below hb2)
      clear hb2
      go_wp2
      go_ret
      exact lsRes_of HO2.out HB2.out (by simp [critOf, hs])
  have h5 : n ≤ 5 := by have := setB_len hs; rw [HL.out] at this; exact this
  have HS := Lib.hid hs
  go_enter Tryz.func151, Tryz.ntmps151
  go_wp2
  go_loopw [3, 4] (fun v i wr => ∃ k : Nat, k ≤ n ∧ i = .int .i64 k ∧ Own wr w.heap.size v (critL (ts.take k)) ∧ Below w.heap.size w wr) (fun _ i _ => n - (intOf i).toNat)
  case atStart => exact ⟨0, Nat.zero_le _, rfl, Own.empty w, bl_alloc (Below.refl _ _) _⟩
  case round =>
    obtain ⟨k, hk, rfl, ho, hb⟩ := hrel
    have HO0 := Lib.hid ho
    have HB0 := Lib.hid hb
    have hsz0 : w.heap.size ≤ wr.heap.size := hb.size
    clear ho hb
    by_cases hlt : k < n
    · go_wp2_with fail
      refine (sSetValid_any _ _ _ _ ts ((H.out.below HB0.out).more hsz0) (by omega)).mono ?_
      rintro e w2 ⟨rfl, hb2⟩
      have HB := Lib.hid (bl_trans HB0.out hb2)
      have HO := Lib.hid (HO0.out.below hb2)
      have hsz : w.heap.size ≤ w2.heap.size := HB.out.size
      clear hb2
      obtain ⟨t, ht⟩ : ∃ t, ts[k]? = some t := ⟨ts[k]'(by rw [HL.out]; exact hlt), List.getElem?_eq_getElem _⟩
      obtain ⟨b, o, rfl, hbl, c0, c1, c2, c3, c4⟩ := (H.out.below HB.out).at_ k t ht
      obtain ⟨lo, hi', du, ev, cr⟩ := t
      dsimp only at c0 c1 c2 c3 c4
      have HT := Lib.hid ht
      clear ht
      cases cr
      · go_wp2
        go_roundw
        case rel => exact ⟨k + 1, by omega, by go_num, by rw [critL_no HT.out rfl]; exact HO.out.alloc _, bl_alloc HB.out _⟩
        case measure => simp [intOf]; omega
      · have hlen : (critL (ts.take k)).length ≤ 5 := Nat.le_trans (critL_len _) (by rw [List.length_take]; omega)
        have b1 : (critL (ts.take k)).length + 1 ≤ maxLen := by unfold maxLen; omega
        have b2 : ((critL (ts.take k)).length + 1) * 40 ≤ 140737488355328 := by omega
        go_wp2_with (at_builtin; refine wpList_append_own _ rfl (.tmp 26) (.tmp 28) 23 rfl w.heap.size 43 i0 _ 5 40 Tryz.underlying23 hi hz0 hz1 hz2 rfl (by decide) _ (critL (ts.take k)).length ((critL (ts.take k)).flatMap Tk.cells) rfl ((HO.out.alloc _).alloc _) ⟨w2.heap.size + 1, 0, none⟩ 1 1 (Tk.cells ⟨hi', hi', du, ev, true⟩) rfl rfl (cell_new5_at _ ⟨hi', hi', du, ev, true⟩ _ _ (by simp)) (by intro u hu; exact cells_one [⟨hi', hi', du, ev, true⟩] u (by simpa using hu)) b1 b2 (by simp; omega) ?_; intro v' w4 hown' hgrow _)
        have HO4 := Lib.hid (Own.snoc hown')
        have HB4 := Lib.hid ((bl_alloc (bl_alloc HB.out _) _).grown hgrow (by simp; omega) (fun k e => (World.ownsRow.lt HO.out k e).1))
        clear hown' hgrow hlen b1 b2
        go_wp2
        go_roundw
        case rel => exact ⟨k + 1, by omega, by go_num, by rw [critL_yes HT.out rfl]; exact HO4.out, HB4.out⟩
        case measure => simp [intOf]; omega
    · obtain rfl : k = n := by omega
      go_wp2
      go_ret
      exact lsRes_of HO0.out HB0.out (by rw [List.take_of_length_le (by rw [HL.out]; omega)]; simp [critOf, HS.out])
end
section
open Go.RowKit
def Same (w : World) (e : Ending) (w' : World) : Prop := e = .returned (.bool true) ∧ Below w.heap.size w w'
end
section
open Go.RowKit
theorem iCriticalOf_is (w : World) (A : Option Addr) (n c : Nat) (ts us : List Tk) (hu : us = critOf ts) (h : Tks w w.heap.size A n ts) (hn : n ≤ 1048576) :
    Calls Tryz.prog 148 #[.slice A n c] w (LsRes us w) := by subst hu; exact iCriticalOf_any w A n c ts h hn
theorem sCriticalOf_is (w : World) (A : Option Addr) (n c : Nat) (ts us : List Tk) (hu : us = critOf ts) (h : Tks w w.heap.size A n ts) (hn : n ≤ 1048576) :
    Calls Tryz.prog 151 #[.slice A n c] w (LsRes us w) := by subst hu; exact sCriticalOf_any w A n c ts h hn
theorem critOf_len (ts : List Tk) : (critOf ts).length ≤ ts.length := by
  unfold critOf; split
  · exact critL_len ts
  · simp
theorem ok_crit {t : Tk} (h : t.ok = true) : Tk.ok ⟨t.hi, t.hi, t.du, t.ev, t.cr⟩ = true := by
  unfold Tk.ok validB at *
  simp at h ⊢
  omega
theorem critL_mem {ts : List Tk} {t : Tk} (h : t ∈ critL ts) : ∃ u ∈ ts, u.cr = true ∧ t = ⟨u.hi, u.hi, u.du, u.ev, u.cr⟩ := by
  unfold critL at h
  rw [List.mem_map] at h
  obtain ⟨u, hu, rfl⟩ := h
  rw [List.mem_filter] at hu
  exact ⟨u, hu.1, hu.2, rfl⟩
theorem crit_facts {ts us : List Tk} (hs : setB ts = true) (hu : us = critOf ts) : setB us = true ∧ critOf us = us ∧ us.length ≤ ts.length ∧ ∀ t ∈ us, t.cr = true ∧ t.lo = t.hi := by
  have e : us = critL ts := by rw [hu]; simp [critOf, hs]
  have hall : ∀ t ∈ us, t.cr = true ∧ t.lo = t.hi := fun t ht => by
    rw [e] at ht
    obtain ⟨u, _, h2, rfl⟩ := critL_mem ht
    exact ⟨h2, rfl⟩
  have hsu : setB us = true := by
    unfold setB at hs ⊢
    simp at hs ⊢
    refine ⟨by rw [e]; exact Nat.le_trans (critL_len ts) hs.1, fun t ht => ?_⟩
    rw [e] at ht
    obtain ⟨u, hu, _, rfl⟩ := critL_mem ht
    exact ok_crit (hs.2 u hu)
  refine ⟨hsu, ?_, by rw [e]; exact critL_len ts, hall⟩
  have e1 : critOf us = critL us := by simp [critOf, hsu]
  rw [e1]
  clear e e1 hsu hu hs
  induction us with
  | nil => rfl
  | cons t us ih =>
    obtain ⟨a, b⟩ := hall t (by simp)
    have := ih (fun t ht => hall t (by simp [ht]))
    unfold critL at this ⊢
    rw [List.filter_cons, a]
    simp only [if_true, List.map_cons, this]
    obtain ⟨lo, hi, du, ev, cr⟩ := t
    simp at a b
    subst b
    rfl
end
section
open Go.RowKit
theorem Own.kept_dn {w w' : World} {B M : Nat} {v : Value} {ts : List Tk} {row : Option Nat} (h : Own w B v ts) (hg : w.grownBy w' row) (hv : ∀ k, v.ownBlock = some k → k < M) (hr : ∀ k, row = some k → M ≤ k) : Own w' B v ts := by
  refine World.ownsRow.kept h hg ?_
  rcases he : v.ownBlock with _ | k
  · exact .inl rfl
  · right
    intro e
    have := hv k he
    have := hr k e.symm
    omega
end
section
open Go.RowKit
/-- A slice that reads as the integers zs. -/
structure Ints (w : World) (B : Nat) (A : Option Addr) (n : Nat) (zs : List Nat) : Prop where
  len : zs.length = n
  at_ : ∀ (i z : Nat), zs[i]? = some z → ∃ b o, A = some ⟨b, o, none⟩ ∧ b < B ∧ w.cell? ⟨b, o + i, none⟩ = some (.int .i64 (z : Int))
theorem Ints.below {w w' : World} {B : Nat} {A : Option Addr} {n : Nat} {zs : List Nat} (h : Ints w B A n zs) (hb : Below B w w') : Ints w' B A n zs :=
  ⟨h.len, fun i z hz => by
    obtain ⟨b, o, e, hbB, hc⟩ := h.at_ i z hz
    exact ⟨b, o, e, hbB, (hb.cell (p := ⟨b, o + i, none⟩) hbB).trans hc⟩⟩
theorem info_int : (Tryz.prog.info? 3).map (fun i => (i.zero, i.size, i.bytes)) = some (some (.int .i64 0), 1, 8) := by kernel_rfl
def OwnI (w : World) (B : Nat) (v : Value) (zs : List Nat) : Prop := w.ownsRow B 3 1 v zs.length (zs.map fun z : Nat => Value.int .i64 (z : Int))
theorem OwnI.form {w : World} {B : Nat} {v : Value} {zs : List Nat} (h : OwnI w B v zs) : ∃ A c, v = .slice A zs.length c := by
  rcases h.2 with ⟨e, h0⟩ | ⟨g, cap, cur, e, _⟩
  · exact ⟨none, 0, by rw [e, h0]⟩
  · exact ⟨_, cap, e⟩
theorem OwnI.reads {w : World} {B : Nat} {A : Option Addr} {c : Nat} {zs : List Nat} (h : OwnI w B (.slice A zs.length c) zs) : Ints w w.heap.size A zs.length zs := by
  refine ⟨rfl, fun i z hz => ?_⟩
  have hi : i < zs.length := (List.getElem?_eq_some_iff.1 hz).1
  rcases h.2 with ⟨e, h0⟩ | ⟨g, cap, cur, e, _, hg, _⟩
  · omega
  · injection e with e1 e2 e3
    subst e1
    have hlt : g < w.heap.size := by
      rcases Nat.lt_or_ge g w.heap.size with hlt | hge
      · exact hlt
      · rw [Array.getElem?_eq_none hge] at hg; cases hg
    have := h.cells (g := g) rfl i (.int .i64 (z : Int)) (by rw [List.getElem?_map, hz]; rfl)
    have ea : (⟨g, 0, none⟩ : Addr).add i = ⟨g, i, none⟩ := by unfold Addr.add; split <;> simp_all
    rw [ea] at this
    exact ⟨g, 0, rfl, hlt, by rw [Nat.zero_add]; exact this⟩
theorem OwnI.snoc {w : World} {B : Nat} {v : Value} {zs : List Nat} {z : Nat} (h : w.ownsRow B 3 1 v (zs.length + 1) (zs.map (fun z : Nat => Value.int .i64 (z : Int)) ++ [.int .i64 (z : Int)])) : OwnI w B v (zs ++ [z]) := by
  unfold OwnI
  rw [List.map_append, List.length_append]
  simpa using h
end
section
open Go.RowKit
theorem Tks.take {w : World} {B : Nat} {A : Option Addr} {n k : Nat} {ts : List Tk} (h : Tks w B A n ts) (hk : k ≤ n) : Tks w B A k (ts.take k) :=
  ⟨by rw [List.length_take, h.len]; omega, fun i t ht => h.at_ i t (by
    rw [List.getElem?_take] at ht
    split at ht
    · exact ht
    · cases ht)⟩
theorem Tks.drop {w : World} {B b o : Nat} {n k m : Nat} {ts : List Tk} (h : Tks w B (some ⟨b, o, none⟩) n ts) (hm : m = o + k * 5) : Tks w B (some ⟨b, m, none⟩) (n - k) (ts.drop k) :=
  ⟨by rw [List.length_drop, h.len], fun i t ht => by
    rw [List.getElem?_drop] at ht
    obtain ⟨b', o', e, hb, hc⟩ := h.at_ _ _ ht
    injection e with e
    injection e with e1 e2
    subst e1 e2 hm
    refine ⟨b, _, rfl, hb, ?_⟩
    rw [show o + k * 5 + i * 5 = o + (k + i) * 5 by omega]
    exact hc⟩
end
section
open Go.RowKit
set_option linter.unusedVariables false
/-- The slice (A, n) reads as the numbers zs; it lies below block B. -/
structure Zs (w : World) (B : Nat) (A : Option Addr) (n : Nat) (zs : List Int) : Prop where
  len : zs.length = n
  at_ : ∀ i z, zs[i]? = some z → ∃ b o, A = some ⟨b, o, none⟩ ∧ b < B ∧ w.cell? ⟨b, o + i, none⟩ = some (.int .i64 z)
theorem Zs.below {w w' : World} {B : Nat} {A : Option Addr} {n : Nat} {zs : List Int} (h : Zs w B A n zs) (hb : Below B w w') : Zs w' B A n zs :=
  ⟨h.len, fun i z hz => by
    obtain ⟨b, o, e, hbB, hc⟩ := h.at_ i z hz
    exact ⟨b, o, e, hbB, (hb.cell (p := ⟨b, o + i, none⟩) hbB).trans hc⟩⟩
theorem Zs.more {w : World} {B B' : Nat} {A : Option Addr} {n : Nat} {zs : List Int} (h : Zs w B A n zs) (hB : B ≤ B') : Zs w B' A n zs :=
  ⟨h.len, fun i z hz => by
    obtain ⟨b, o, e, hbB, hc⟩ := h.at_ i z hz
    exact ⟨b, o, e, by omega, hc⟩⟩
theorem Zs.get {w : World} {B b o n : Nat} {zs : List Int} (h : Zs w B (some ⟨b, o, none⟩) n zs) {i : Nat} {z : Int} (hz : zs[i]? = some z) : b < B ∧ w.cell? ⟨b, o + i, none⟩ = some (.int .i64 z) := by
  obtain ⟨b', o', e, hb, hc⟩ := h.at_ i z hz
  injection e with e
  injection e with e1 e2
  subst e1 e2
  exact ⟨hb, hc⟩
theorem Zs.take {w : World} {B : Nat} {A : Option Addr} {n k : Nat} {zs : List Int} (h : Zs w B A n zs) (hk : k ≤ n) : Zs w B A k (zs.take k) :=
  ⟨by rw [List.length_take, h.len]; omega, fun i t ht => h.at_ i t (by
    rw [List.getElem?_take] at ht
    split at ht
    · exact ht
    · cases ht)⟩
theorem Zs.drop {w : World} {B b o : Nat} {n k m : Nat} {zs : List Int} (h : Zs w B (some ⟨b, o, none⟩) n zs) (hm : m = o + k) : Zs w B (some ⟨b, m, none⟩) (n - k) (zs.drop k) :=
  ⟨by rw [List.length_drop, h.len], fun i t ht => by
    rw [List.getElem?_drop] at ht
    obtain ⟨hb, hc⟩ := h.get ht
    subst hm
    exact ⟨b, _, rfl, hb, by rw [Nat.add_assoc]; exact hc⟩⟩
/-- The slice value v is the call's own and holds the numbers zs. -/
def OwnZ (w : World) (B : Nat) (v : Value) (zs : List Int) : Prop := w.ownsRow B 3 1 v zs.length (zs.map (Value.int .i64))
theorem OwnZ.form {w : World} {B : Nat} {v : Value} {zs : List Int} (h : OwnZ w B v zs) : ∃ A c, v = .slice A zs.length c := by
  rcases h.2 with ⟨e, h0⟩ | ⟨g, cap, cur, e, _⟩
  · exact ⟨none, 0, by rw [e, h0]⟩
  · exact ⟨_, cap, e⟩
theorem OwnZ.reads {w : World} {B : Nat} {A : Option Addr} {c : Nat} {zs : List Int} (h : OwnZ w B (.slice A zs.length c) zs) : Zs w w.heap.size A zs.length zs := by
  refine ⟨rfl, fun i z hz => ?_⟩
  have hi : i < zs.length := (List.getElem?_eq_some_iff.1 hz).1
  rcases h.2 with ⟨e, h0⟩ | ⟨g, cap, cur, e, _, hg, _⟩
  · omega
  · injection e with e1 e2 e3
    subst e1
    have hlt : g < w.heap.size := by
      rcases Nat.lt_or_ge g w.heap.size with hlt | hge
      · exact hlt
      · rw [Array.getElem?_eq_none hge] at hg; cases hg
    have := h.cells (g := g) rfl i (.int .i64 z) (by rw [List.getElem?_map, hz]; rfl)
    have ea : (⟨g, 0, none⟩ : Addr).add i = ⟨g, i, none⟩ := by unfold Addr.add; split <;> simp_all
    rw [ea] at this
    exact ⟨g, 0, rfl, hlt, by rw [Nat.zero_add]; exact this⟩
theorem OwnZ.le {w : World} {B c : Nat} {A : Option Addr} {zs : List Int} (h : OwnZ w B (.slice A zs.length c) zs) : zs.length ≤ c := by
  rcases h.2 with ⟨e, h0⟩ | ⟨g, cap, cur, e, _, _, h1, h2, _⟩
  · omega
  · injection e with e1 e2 e3
    subst e3
    exact h1
theorem OwnZ.snoc {w : World} {B : Nat} {v : Value} {zs : List Int} {z : Int} (h : w.ownsRow B 3 1 v (zs.length + 1) (zs.map (Value.int .i64) ++ [.int .i64 z])) : OwnZ w B v (zs ++ [z]) := by
  unfold OwnZ
  rw [List.map_append, List.length_append]
  simpa using h
theorem OwnZ.empty (w : World) : OwnZ (w.alloc (.cells #[] 3)) w.heap.size (.slice (some ⟨w.heap.size, 0, none⟩) 0 0) [] :=
  ⟨rfl, .inr ⟨w.heap.size, 0, #[], rfl, Nat.le_refl _, heap_alloc_new w _, Nat.le_refl _, Nat.zero_le _, rfl, rfl⟩⟩
theorem OwnZ.alloc {w : World} {B : Nat} {v : Value} {zs : List Int} (h : OwnZ w B v zs) (o : Obj) : OwnZ (w.alloc o) B v zs := World.ownsRow.alloc h o
theorem OwnZ.below {w w' : World} {B : Nat} {v : Value} {zs : List Int} (h : OwnZ w B v zs) (hb : Below w.heap.size w w') : OwnZ w' B v zs := by
  refine ⟨h.1, ?_⟩
  rcases h.2 with hn | ⟨g, cap, cur, e, h1, hg, h3⟩
  · exact .inl hn
  · refine .inr ⟨g, cap, cur, e, h1, ?_, h3⟩
    have hlt : g < w.heap.size := by
      rcases Nat.lt_or_ge g w.heap.size with hlt | hge
      · exact hlt
      · rw [Array.getElem?_eq_none hge] at hg; cases hg
    exact (hb.block g hlt).trans hg
theorem OwnZ.less {w : World} {B B' : Nat} {v : Value} {zs : List Int} (h : OwnZ w B v zs) (hB : B' ≤ B) : OwnZ w B' v zs := by
  refine ⟨h.1, ?_⟩
  rcases h.2 with hn | ⟨g, cap, cur, e, h1, h3⟩
  · exact .inl hn
  · exact .inr ⟨g, cap, cur, e, by omega, h3⟩
theorem OwnZ.kept {w w' : World} {B : Nat} {v : Value} {zs : List Int} {row : Option Nat} (h : OwnZ w B v zs) (hg : w.grownBy w' row) (hr : ∀ k, row = some k → k < B) : OwnZ w' B v zs := by
  refine World.ownsRow.kept h hg ?_
  rcases he : v.ownBlock with _ | k
  · exact .inl rfl
  · right
    intro e
    have := (World.ownsRow.lt h k he).1
    have := hr k e.symm
    omega
end
section
open Go.RowKit
set_option maxHeartbeats 1000000 in
theorem toTask_any (lo hi du ev : Int) (c : Bool) (w : World) :
    Calls Tryz.prog 76 #[.agg #[.int .i64 lo, .int .i64 hi, .int .i64 du, .int .i64 ev, .bool c]] w fun e w' =>
      e = .returned (.agg #[.int .i64 lo, .int .i64 hi, .int .i64 du, .int .i64 ev, .bool c]) ∧ Below w.heap.size w w' := by
  go_enter Tryz.func76, Tryz.ntmps76
  go_wp2
  refine bodyPost_ret (v := .agg #[.int .i64 lo, .int .i64 hi, .int .i64 du, .int .i64 ev, .bool c]) (by simp [results, Tryz.results76, go_sem]) rfl ⟨rfl, ?_⟩
  repeat (first | exact Below.refl _ _ | refine bl_alloc ?_ _ | refine bl_set ?_ (by dsimp only; omega) _)
end
section
open Go.RowKit
set_option maxHeartbeats 400000 in
theorem sz_any (w : World) (A : Option Addr) (n c : Nat) (hn : n ≤ 9223372036854775807) :
    Calls Tryz.prog 30 #[.slice A n c, .int .i64 1048576] w fun e w' => e = .returned (.int .i64 (if 1048576 < (n : Int) then -1 else 1048576 - (n : Int))) ∧ w = w' := by
  by_cases h : 1048576 < n
  · go_enter Tryz.func30, Tryz.ntmps30
    go_wp2
    go_ret
    exact ⟨rfl, rfl⟩
  · go_enter Tryz.func30, Tryz.ntmps30
    go_wp2
    go_ret
    exact ⟨rfl, rfl⟩
theorem Own.frozen {w : World} {B g n c : Nat} {ts : List Tk} (h : Own w B (.slice (some ⟨g, 0, none⟩) n c) ts) : ∀ i, w.frozen? ⟨g, i, none⟩ = false := by
  have hn := h.reads.1
  subst hn
  exact World.ownsRow.frozenAt h
def zeroTk : Tk := ⟨0, 0, 0, 0, false⟩
theorem zero_cells (n : Nat) : (madeCells (Value.agg #[.int .i64 0, .int .i64 0, .int .i64 0, .int .i64 0, .bool false]).cells (n * 5)).toList = (List.replicate n zeroTk).flatMap Tk.cells := by
  have hl : ∀ m : Nat, (List.replicate m zeroTk).flatMap Tk.cells = (List.range (m * 5)).map fun j => if j % 5 = 4 then Value.bool false else .int .i64 0 := by
    intro m
    induction m with
    | zero => rfl
    | succ m ih =>
      rw [List.replicate_succ', List.flatMap_append, ih]
      have e : (m + 1) * 5 = m * 5 + 1 + 1 + 1 + 1 + 1 := by omega
      rw [e, List.range_succ, List.range_succ, List.range_succ, List.range_succ, List.range_succ]
      have q0 : ¬ (m * 5) % 5 = 4 := by omega
      have q1 : ¬ (m * 5 + 1) % 5 = 4 := by omega
      have q2 : ¬ (m * 5 + 1 + 1) % 5 = 4 := by omega
      have q3 : ¬ (m * 5 + 1 + 1 + 1) % 5 = 4 := by omega
      have q4 : (m * 5 + 1 + 1 + 1 + 1) % 5 = 4 := by omega
      simp only [List.map_append, List.map_cons, List.map_nil, q0, q1, q2, q3, q4, if_true, if_false, List.append_assoc, List.flatMap_cons, List.flatMap_nil, List.append_nil]
      rfl
  rw [hl]
  have hz : (Value.agg #[.int .i64 0, .int .i64 0, .int .i64 0, .int .i64 0, .bool false]).cells = #[.int .i64 0, .int .i64 0, .int .i64 0, .int .i64 0, .bool false] := rfl
  unfold madeCells
  rw [hz, Array.toList_map, Array.toList_range]
  refine List.map_congr_left fun j _ => ?_
  show (#[Value.int .i64 0, .int .i64 0, .int .i64 0, .int .i64 0, .bool false])[j % 5]! = _
  rcases (by omega : j % 5 = 0 ∨ j % 5 = 1 ∨ j % 5 = 2 ∨ j % 5 = 3 ∨ j % 5 = 4) with h | h | h | h | h <;> rw [h] <;> rfl
/-- The list of the laws' own tasks reads as the tasks ts (of another type of the same fields). -/
theorem take_put {ts : List Tk} {k : Nat} {t : Tk} (h : ts[k]? = some t) : (ts.take k ++ List.replicate (ts.length - k) zeroTk).set k t = ts.take (k + 1) ++ List.replicate (ts.length - (k + 1)) zeroTk := by
  obtain ⟨hk, rfl⟩ := List.getElem?_eq_some_iff.1 h
  rw [List.take_succ_eq_append_getElem hk]
  have e : ts.length - k = (ts.length - (k + 1)) + 1 := by omega
  rw [e, List.replicate_succ, List.set_append_right _ _ (by rw [List.length_take]; omega)]
  have e2 : k - (ts.take k).length = 0 := by rw [List.length_take]; omega
  rw [e2, List.set_cons_zero, List.append_assoc]
  rfl
set_option maxHeartbeats 1000000 in
theorem toTaskS_any (w : World) (A : Option Addr) (n c : Nat) (ts : List Tk) (h : Tks w w.heap.size A n ts) (hn : n ≤ 1048576) :
    Calls Tryz.prog 32 #[.slice A n c] w (LsRes ts w) := by
  obtain ⟨i0, hi, hz0, hz1, hz2⟩ := info_parts info_task
  have H := Lib.hid h
  have HL := Lib.hid h.len
  clear h
  go_enter Tryz.func32, Tryz.ntmps32
  go_wp2_with (at_make; refine wpList_make_full _ rfl _ _ 23 rfl w.heap.size 43 i0 _ 5 Tryz.underlying23 hi hz0 hz1 .i64 .i64 _ _ n rfl rfl rfl rfl (by rw [hz2]; omega) (by unfold maxLen; omega) (Nat.le_refl _) ?_; intro w2 hown0 hgrow0)
  have HO0 : Hid (Own w2 w.heap.size (.slice (some ⟨w.heap.size, 0, none⟩) n n) (List.replicate n zeroTk)) := by
    show w2.ownsRow _ _ _ _ _ _
    rw [← zero_cells, List.length_replicate]
    exact hown0
  have HB2 := Lib.hid ((Below.refl _ w).grown hgrow0 (Nat.le_refl _) (fun k e => by cases e))
  clear hown0 hgrow0
  go_loopw [4] (fun i wr => ∃ k : Nat, k ≤ n ∧ i = .int .i64 k ∧ Own wr w.heap.size (.slice (some ⟨w.heap.size, 0, none⟩) n n) (ts.take k ++ List.replicate (ts.length - k) zeroTk) ∧ Below w.heap.size w wr) (fun i _ => n - (intOf i).toNat)
  case atStart => exact ⟨0, Nat.zero_le _, rfl, by rw [HL.out]; exact HO0.out, HB2.out⟩
  case round =>
    obtain ⟨k, hk, rfl, ho, hb⟩ := hrel
    have HO := Lib.hid ho
    have HB := Lib.hid hb
    clear ho hb
    by_cases hlt : k < n
    · obtain ⟨t, ht⟩ : ∃ t, ts[k]? = some t := ⟨ts[k]'(by rw [HL.out]; exact hlt), List.getElem?_eq_getElem _⟩
      obtain ⟨b, o, rfl, hbl, c0, c1, c2, c3, c4⟩ := (H.out.below HB.out).at_ k t ht
      have HP := Lib.hid (take_put ht)
      obtain ⟨lo, hi', du, ev, cr⟩ := t
      dsimp only at c0 c1 c2 c3 c4
      clear ht
      go_wp2_with fail
      refine (toTask_any lo hi' du ev cr wr).mono ?_
      rintro e w3 ⟨rfl, hb3⟩
      clear c0 c1 c2 c3 c4
      have HB3 := Lib.hid (bl_trans HB.out hb3)
      have HO3 := Lib.hid (HO.out.below hb3)
      clear hb3
      have hlen : (ts.take k ++ List.replicate (ts.length - k) zeroTk).length = n := by simp [HL.out]; omega
      obtain ⟨t', ht'⟩ : ∃ t', (ts.take k ++ List.replicate (ts.length - k) zeroTk)[k]? = some t' := ⟨_, List.getElem?_eq_getElem (by omega)⟩
      have hfz := Own.frozen HO3.out
      obtain ⟨b', o', eA, hbl', c0, c1, c2, c3, c4⟩ := HO3.out.reads.2.at_ k t' ht'
      injection eA with eA
      injection eA with eA1 eA2
      subst eA1 eA2
      simp only [Nat.zero_add] at c0 c1 c2 c3 c4
      have HLN := Lib.hid hlen
      clear ht' hlen
      go_wp2
      go_roundw
      case rel => exact ⟨k + 1, by omega, by go_num, by rw [← HP.out]; exact HO3.out.put k ⟨lo, hi', du, ev, cr⟩ (by rw [HLN.out]; exact hlt), by repeat (first | exact HB3.out | refine bl_set ?_ (by dsimp only; omega) _)⟩
      case measure => simp [intOf]; omega
    · obtain rfl : k = n := by omega
      go_wp2
      go_ret
      exact lsRes_of HO.out HB.out (by rw [HL.out, List.take_of_length_le (by rw [HL.out]; omega)]; simp)
end
section
open Go.RowKit
set_option maxHeartbeats 1000000 in
theorem eqTask_any (w : World) (lo hi du ev : Int) (cr : Bool) :
    Calls Tryz.prog 79 #[.agg #[.int .i64 lo, .int .i64 hi, .int .i64 du, .int .i64 ev, .bool cr], .agg #[.int .i64 lo, .int .i64 hi, .int .i64 du, .int .i64 ev, .bool cr]] w fun e w' =>
      e = .returned (.bool true) ∧ Below w.heap.size w w' := by
  go_enter Tryz.func79, Tryz.ntmps79
  go_wp2
  go_ret
  exact ⟨rfl, bl_alloc (bl_alloc (Below.refl _ _) _) _⟩
set_option maxHeartbeats 2000000 in
theorem eqTaskS_any (w : World) (A A' : Option Addr) (n c c' : Nat) (ts : List Tk) (h : Tks w w.heap.size A n ts) (h' : Tks w w.heap.size A' n ts) (hn : n ≤ 1048576) :
    Calls Tryz.prog 35 #[.slice A n c, .slice A' n c'] w (Same w) := by
  have H := Lib.hid h
  have H' := Lib.hid h'
  have HL := Lib.hid h.len
  clear h h'
  go_enter Tryz.func35, Tryz.ntmps35
  go_wp2
  go_loopw [5] (fun i wr => ∃ k : Nat, k ≤ n ∧ i = .int .i64 k ∧ Below w.heap.size w wr) (fun i _ => n - (intOf i).toNat)
  case atStart => exact ⟨0, Nat.zero_le _, rfl, Below.refl _ _⟩
  case round =>
    obtain ⟨k, hk, rfl, hb⟩ := hrel
    have HB := Lib.hid hb
    have hsz := hb.size
    clear hb
    by_cases hlt : k < n
    · obtain ⟨t, ht⟩ : ∃ t, ts[k]? = some t := ⟨ts[k]'(by rw [HL.out]; exact hlt), List.getElem?_eq_getElem _⟩
      obtain ⟨b, o, rfl, hbl, c0, c1, c2, c3, c4⟩ := (H.out.below HB.out).at_ k t ht
      obtain ⟨b', o', rfl, hbl', d0, d1, d2, d3, d4⟩ := (H'.out.below HB.out).at_ k t ht
      obtain ⟨lo, hi, du, ev, cr⟩ := t
      dsimp only at c0 c1 c2 c3 c4 d0 d1 d2 d3 d4
      clear ht
      have i1 : (0 : Int) ≤ (k : Int) := by omega
      have i2 : (k : Int) < (n : Int) := by omega
      go_wp2
      go_region_held3 (fun W => (W.cell? ⟨b, o + k * 5, none⟩ = some (.int .i64 lo) ∧ W.cell? ⟨b, o + k * 5 + 1, none⟩ = some (.int .i64 hi) ∧ W.cell? ⟨b, o + k * 5 + 2, none⟩ = some (.int .i64 du) ∧ W.cell? ⟨b, o + k * 5 + 3, none⟩ = some (.int .i64 ev) ∧ W.cell? ⟨b, o + k * 5 + 4, none⟩ = some (.bool cr)) ∧ W.cell? ⟨b', o' + k * 5, none⟩ = some (.int .i64 lo) ∧ W.cell? ⟨b', o' + k * 5 + 1, none⟩ = some (.int .i64 hi) ∧ W.cell? ⟨b', o' + k * 5 + 2, none⟩ = some (.int .i64 du) ∧ W.cell? ⟨b', o' + k * 5 + 3, none⟩ = some (.int .i64 ev) ∧ W.cell? ⟨b', o' + k * 5 + 4, none⟩ = some (.bool cr)) (first | assumption | (simp [go_sem, *]; done))
        ((go_at_call 79; refine (eqTask_any _ lo hi du ev cr).mono ?_; rintro e w' ⟨rfl, hb⟩; have c0' := (hb.cell (p := ⟨b, o + k * 5, none⟩) (Nat.lt_of_lt_of_le hbl hsz)).trans c0; have c1' := (hb.cell (p := ⟨b, o + k * 5 + 1, none⟩) (Nat.lt_of_lt_of_le hbl hsz)).trans c1; have c2' := (hb.cell (p := ⟨b, o + k * 5 + 2, none⟩) (Nat.lt_of_lt_of_le hbl hsz)).trans c2; have c3' := (hb.cell (p := ⟨b, o + k * 5 + 3, none⟩) (Nat.lt_of_lt_of_le hbl hsz)).trans c3; have c4' := (hb.cell (p := ⟨b, o + k * 5 + 4, none⟩) (Nat.lt_of_lt_of_le hbl hsz)).trans c4; have d0' := (hb.cell (p := ⟨b', o' + k * 5, none⟩) (Nat.lt_of_lt_of_le hbl' hsz)).trans d0; have d1' := (hb.cell (p := ⟨b', o' + k * 5 + 1, none⟩) (Nat.lt_of_lt_of_le hbl' hsz)).trans d1; have d2' := (hb.cell (p := ⟨b', o' + k * 5 + 2, none⟩) (Nat.lt_of_lt_of_le hbl' hsz)).trans d2; have d3' := (hb.cell (p := ⟨b', o' + k * 5 + 3, none⟩) (Nat.lt_of_lt_of_le hbl' hsz)).trans d3; have d4' := (hb.cell (p := ⟨b', o' + k * 5 + 4, none⟩) (Nat.lt_of_lt_of_le hbl' hsz)).trans d4; have HB3 : Hid (Below w.heap.size w w') := HB.out.trans ((show Below wr.heap.size wr w' from ⟨hb.os, hb.tape, hb.output, hb.size, hb.block⟩).mono hsz); clear hb))
      go_wp2
      go_roundw
      case rel => exact ⟨k + 1, by omega, by go_num, HB3.out⟩
      case measure => simp [intOf]; omega
    · obtain rfl : k = n := by omega
      go_wp2
      go_ret
      exact ⟨rfl, HB.out⟩
def markTk (k0 j : Nat) : Tk := ⟨(k0 + j * 5 : Nat), (k0 + j * 5 + 1 : Nat), (k0 + j * 5 + 2 : Nat), (k0 + j * 5 + 3 : Nat), ((k0 + j * 5 + 4 : Nat) : Int) % 3 == 0⟩
def marks (k0 n : Nat) : List Tk := (List.range n).map (markTk k0)
theorem marks_len (k0 n : Nat) : (marks k0 n).length = n := by simp [marks]
theorem marks_succ (k0 j : Nat) : marks k0 (j + 1) = marks k0 j ++ [markTk k0 j] := by
  unfold marks; rw [List.range_succ, List.map_append]; rfl
theorem marks_put {ts : List Tk} {k0 j : Nat} (h : j < ts.length) : (marks k0 j ++ ts.drop j).set j (markTk k0 j) = marks k0 (j + 1) ++ ts.drop (j + 1) := by
  rw [List.set_append_right _ _ (by rw [marks_len]; omega), marks_len, Nat.sub_self, List.drop_eq_getElem_cons h, List.set_cons_zero, marks_succ, List.append_assoc]
  rfl
def MarkRes (k0 n g : Nat) (B : Nat) (v : Value) (w : World) (e : Ending) (w' : World) : Prop :=
  e = .returned (.int .i64 ((k0 + n * 5 : Nat) : Int)) ∧ Own w' B v (marks k0 n) ∧ w.grownBy w' (some g)
set_option maxHeartbeats 2000000 in
theorem mark_any (w : World) (B g n c k0 : Nat) (ts : List Tk) (h : Own w B (.slice (some ⟨g, 0, none⟩) n c) ts) (hn : n ≤ 1048576) (hk0 : k0 ≤ 10) :
    Calls Tryz.prog 37 #[.slice (some ⟨g, 0, none⟩) n c, .int .i64 k0] w (MarkRes k0 n g B (.slice (some ⟨g, 0, none⟩) n c) w) := by
  have H := Lib.hid h
  have HL := Lib.hid h.reads.1
  clear h
  go_enter Tryz.func37, Tryz.ntmps37
  go_wp2
  go_loopw [1, 5] (fun q i wr => ∃ j : Nat, j ≤ n ∧ i = .int .i64 j ∧ q = .int .i64 ((k0 + j * 5 : Nat) : Int) ∧ Own wr B (.slice (some ⟨g, 0, none⟩) n c) (marks k0 j ++ ts.drop j) ∧ w.grownBy wr (some g)) (fun _ i _ => n - (intOf i).toNat)
  case atStart => exact ⟨0, Nat.zero_le _, rfl, rfl, H.out, World.grownBy.refl _ _⟩
  case round =>
    obtain ⟨j, hj, rfl, rfl, ho, hg⟩ := hrel
    have HO := Lib.hid ho
    have HG := Lib.hid hg
    clear ho hg
    by_cases hlt : j < n
    · have hjl : j < ts.length := by rw [← HL.out]; exact hlt
      have HP := Lib.hid (marks_put (k0 := k0) hjl)
      obtain ⟨t, ht⟩ : ∃ t, (marks k0 j ++ ts.drop j)[j]? = some t := ⟨_, List.getElem?_eq_getElem (by simp [marks_len]; omega)⟩
      have hlen : j < (marks k0 j ++ ts.drop j).length := by simp [marks_len]; omega
      obtain ⟨b, o, eA, hbl, c0, c1, c2, c3, c4⟩ := HO.out.reads.2.at_ j t ht
      injection eA with eA
      injection eA with eA1 eA2
      subst eA1 eA2
      simp only [Nat.zero_add] at c0 c1 c2 c3 c4
      have hfz := HO.out.frozen
      have HH := Lib.hid hlen
      clear ht hlen
      go_wp2
      go_roundw
      case rel =>
        refine ⟨j + 1, by omega, by go_num, by go_num, ?_, ?_⟩
        · rw [← HP.out]
          have hx := HO.out.put j (markTk k0 j) HH.out
          exact hx
        · repeat (first | exact HG.out | refine gb_set ?_ (.inl rfl) _)
      case measure => simp [intOf]; omega
    · obtain rfl : j = n := by omega
      go_wp2
      go_ret
      exact ⟨rfl, by have h := HO.out; rw [List.drop_eq_nil_of_le (by rw [← HL.out]; omega), List.append_nil] at h; exact h, HG.out⟩
end
section
open Go.RowKit
theorem mark_own (w : World) (B : Nat) (A : Option Addr) (n c k0 : Nat) (ts : List Tk) (h : Own w B (.slice A n c) ts) (hn : n ≤ 1048576) (hk0 : k0 ≤ 10) :
    Calls Tryz.prog 37 #[.slice A n c, .int .i64 k0] w fun e w' => e = .returned (.int .i64 ((k0 + n * 5 : Nat) : Int)) ∧ Own w' B (.slice A n c) (marks k0 n) ∧ w.grownBy w' (Value.slice A n c).ownBlock := by
  rcases h.2 with ⟨e, h0⟩ | ⟨g, cap, cur, e, _⟩
  · injection e with e1 e2 e3
    subst e1 e2 e3
    go_enter Tryz.func37, Tryz.ntmps37
    go_wp2
    go_loop [1, 5] (fun q i => q = .int .i64 k0 ∧ i = .int .i64 0) (fun _ _ => 0)
    case atStart => exact ⟨rfl, rfl⟩
    case round =>
      obtain ⟨rfl, rfl⟩ := hrel
      go_wp2
      go_ret
      exact ⟨rfl, Own.nil_ _ _, World.grownBy.refl _ _⟩
  · injection e with e1 e2 e3
    subst e1
    exact (mark_any w B g n c k0 ts h hn hk0).mono fun _ _ hh => hh
end
section
open Go.RowKit
theorem set_due (ts : List Tk) : ∀ (k : Nat) (t : Tk) (z : Int), ts[k]? = some t →
    (ts.flatMap Tk.cells).set (k * 5 + 2) (.int .i64 z) = (ts.set k { t with du := z }).flatMap Tk.cells := by
  induction ts with
  | nil => intro k t z h; simp at h
  | cons a ts ih =>
    intro k t z h
    cases k with
    | zero =>
      simp at h
      subst h
      simp [List.flatMap_cons, Tk.cells]
    | succ k =>
      have e0 : (k + 1) * 5 + 2 = k * 5 + 2 + 5 := by omega
      simp only [List.flatMap_cons, Tk.cells, List.set_cons_succ, e0, List.cons_append, List.nil_append]
      rw [← ih k t z (by simpa using h)]
theorem Own.due {w : World} {B h n c : Nat} {ts : List Tk} (ho : Own w B (.slice (some ⟨h, 0, none⟩) n c) ts) (k : Nat) (t : Tk) (z : Int) (ht : ts[k]? = some t) :
    Own (w.setCell ⟨h, k * 5 + 2, none⟩ (.int .i64 z)) B (.slice (some ⟨h, 0, none⟩) n c) (ts.set k { t with du := z }) := by
  have hn := ho.reads.1
  subst hn
  have h5 := (World.ownsRow.stored ho (k * 5 + 2) (.int .i64 z)).1
  unfold Own
  rw [List.length_set, ← set_due ts k t z ht]
  exact h5
end
section
open Go.RowKit
set_option linter.unusedVariables false
theorem zs_at {w : World} {B : Nat} {A : Option Addr} {n k : Nat} {zs : List Int} (h : Zs w B A n zs) (hk : k < n) : ∃ z, zs[k]? = some z := ⟨zs[k]'(by rw [h.len]; exact hk), List.getElem?_eq_getElem _⟩
theorem OwnZ.put {w : World} {B g n c : Nat} {zs : List Int} (h : OwnZ w B (.slice (some ⟨g, 0, none⟩) n c) zs) (k : Nat) (z : Int) : OwnZ (w.setCell ⟨g, k, none⟩ (.int .i64 z)) B (.slice (some ⟨g, 0, none⟩) n c) (zs.set k z) := by
  unfold OwnZ
  rw [List.length_set, List.map_set]
  refine ⟨by rw [List.length_set]; exact h.1, ?_⟩
  rcases h.2 with ⟨e, h0⟩ | ⟨g', cap, cur, e, hb, hg, h1, h2, h3, h4⟩
  · cases e
  · injection e with e1 e2 e3
    injection e1 with e1
    injection e1 with e1
    subst e1
    refine .inr ⟨g, cap, cur.setIfInBounds k (.int .i64 z), by rw [e2, e3], hb, ?_, h1, h2, by rw [Array.size_setIfInBounds]; exact h3, ?_⟩
    · simp [World.setCell, Array.getElem?_modify, hg]
    · rw [Array.toList_setIfInBounds, ← h4, List.take_set]
theorem OwnZ.frozen {w : World} {B g n c : Nat} {zs : List Int} (h : OwnZ w B (.slice (some ⟨g, 0, none⟩) n c) zs) : ∀ i, w.frozen? ⟨g, i, none⟩ = false := by
  have hn : n = zs.length := by
    rcases h.2 with ⟨e, h0⟩ | ⟨g', cap, cur, e, _⟩
    · cases e
    · injection e
  subst hn
  exact World.ownsRow.frozenAt h
theorem OwnZ.lt {w : World} {B g n c : Nat} {zs : List Int} (h : OwnZ w B (.slice (some ⟨g, 0, none⟩) n c) zs) : B ≤ g ∧ g < w.heap.size := World.ownsRow.lt h g rfl
end
section
open Go.RowKit
set_option linter.unusedVariables false
set_option maxHeartbeats 1000000 in
theorem eqIntS_any (w : World) (A A' : Option Addr) (n c c' : Nat) (zs : List Int) (h : Zs w w.heap.size A n zs) (h' : Zs w w.heap.size A' n zs) (hn : n ≤ 1048576) :
    Calls Tryz.prog 78 #[.slice A n c, .slice A' n c'] w fun e w' => e = .returned (.bool true) ∧ Below w.heap.size w w' := by
  have H := Lib.hid h
  have H' := Lib.hid h'
  clear h h'
  go_enter Tryz.func78, Tryz.ntmps78
  go_wp2
  go_loopw [5] (fun i wr => ∃ k : Nat, k ≤ n ∧ i = .int .i64 k ∧ Below w.heap.size w wr) (fun i _ => n - (intOf i).toNat)
  case atStart => exact ⟨0, Nat.zero_le _, rfl, Below.refl _ _⟩
  case round =>
    obtain ⟨k, hk, rfl, hb⟩ := hrel
    have HB := Lib.hid hb
    clear hb
    by_cases hlt : k < n
    · obtain ⟨z, hz⟩ := zs_at H.out hlt
      obtain ⟨b, o, rfl, hbl, c0⟩ := (H.out.below HB.out).at_ k z hz
      obtain ⟨b', o', rfl, hbl', d0⟩ := (H'.out.below HB.out).at_ k z hz
      clear hz
      have i1 : (0 : Int) ≤ (k : Int) := by omega
      have i2 : (k : Int) < (n : Int) := by omega
      go_wp2
      go_quiet (fail)
      go_wp2
      go_roundw
      case rel => exact ⟨k + 1, by omega, by go_num, bl_drewN HB.out _⟩
      case measure => simp [intOf]; omega
    · obtain rfl : k = n := by omega
      go_wp2
      go_ret
      exact ⟨rfl, HB.out⟩
end
section
open Go.RowKit
set_option linter.unusedVariables false
def marksZ (k0 n : Nat) : List Int := (List.range n).map fun j => ((k0 + j : Nat) : Int)
theorem marksZ_len (k0 n : Nat) : (marksZ k0 n).length = n := by simp [marksZ]
theorem marksZ_get {k0 n j : Nat} (h : j < n) : (marksZ k0 n)[j]? = some ((k0 + j : Nat) : Int) := by
  unfold marksZ; rw [List.getElem?_map, List.getElem?_range h]; rfl
theorem marksZ_succ (k0 j : Nat) : marksZ k0 (j + 1) = marksZ k0 j ++ [((k0 + j : Nat) : Int)] := by
  unfold marksZ; rw [List.range_succ, List.map_append]; rfl
theorem marksZ_put {zs : List Int} {k0 j : Nat} (h : j < zs.length) : (marksZ k0 j ++ zs.drop j).set j ((k0 + j : Nat) : Int) = marksZ k0 (j + 1) ++ zs.drop (j + 1) := by
  rw [List.set_append_right _ _ (by rw [marksZ_len]; omega), marksZ_len, Nat.sub_self, List.drop_eq_getElem_cons h, List.set_cons_zero, marksZ_succ, List.append_assoc]
  rfl
def MarkZRes (k0 n B : Nat) (v : Value) (w : World) (e : Ending) (w' : World) : Prop :=
  e = .returned (.int .i64 ((k0 + n : Nat) : Int)) ∧ OwnZ w' B v (marksZ k0 n) ∧ w.grownBy w' v.ownBlock
set_option maxHeartbeats 2000000 in
theorem markZ_own (w : World) (B : Nat) (A : Option Addr) (c k0 : Nat) (zs : List Int) (h : OwnZ w B (.slice A zs.length c) zs) (hn : zs.length ≤ 1048576) (hk0 : k0 ≤ 40000000) :
    Calls Tryz.prog 81 #[.slice A zs.length c, .int .i64 k0] w (MarkZRes k0 zs.length B (.slice A zs.length c) w) := by
  rcases h.2 with ⟨e, h0⟩ | ⟨g, cap, cur, e, _⟩
  · injection e with e1 e2 e3
    subst e1 e3
    have hnil : zs = [] := List.eq_nil_of_length_eq_zero e2
    subst hnil
    go_enter Tryz.func81, Tryz.ntmps81
    go_wp2
    go_loop [1, 5] (fun q i => q = .int .i64 k0 ∧ i = .int .i64 0) (fun _ _ => 0)
    case atStart => exact ⟨rfl, rfl⟩
    case round =>
      obtain ⟨rfl, rfl⟩ := hrel
      go_wp2
      go_ret
      exact ⟨rfl, h, World.grownBy.refl _ _⟩
  · injection e with e1 e2 e3
    subst e1
    obtain ⟨n, hnn⟩ : ∃ n, n = zs.length := ⟨_, rfl⟩
    have H := Lib.hid h
    have HL := Lib.hid hnn
    rw [← hnn] at hn ⊢
    rw [← hnn] at H
    clear h e2 hnn
    go_enter Tryz.func81, Tryz.ntmps81
    go_wp2
    go_loopw [1, 5] (fun q i wr => ∃ j : Nat, j ≤ n ∧ i = .int .i64 j ∧ q = .int .i64 ((k0 + j : Nat) : Int) ∧ OwnZ wr B (.slice (some ⟨g, 0, none⟩) n c) (marksZ k0 j ++ zs.drop j) ∧ w.grownBy wr (some g)) (fun _ i _ => n - (intOf i).toNat)
    case atStart => exact ⟨0, Nat.zero_le _, rfl, rfl, H.out, World.grownBy.refl _ _⟩
    case round =>
      obtain ⟨j, hj, rfl, rfl, ho, hg⟩ := hrel
      have HO := Lib.hid ho
      have HG := Lib.hid hg
      clear ho hg
      by_cases hlt : j < n
      · have hjl : j < zs.length := by rw [← HL.out]; exact hlt
        have HP := Lib.hid (marksZ_put (k0 := k0) hjl)
        have hll : Hid ((marksZ k0 j ++ zs.drop j).length = n) := by show _ = _; have := HL.out; simp [marksZ_len]; omega
        obtain ⟨z, hz⟩ : ∃ z, (marksZ k0 j ++ zs.drop j)[j]? = some z := ⟨_, List.getElem?_eq_getElem (by rw [hll.out]; exact hlt)⟩
        have hrd : Zs wr wr.heap.size (some ⟨g, 0, none⟩) (marksZ k0 j ++ zs.drop j).length (marksZ k0 j ++ zs.drop j) := OwnZ.reads (c := c) (by rw [hll.out]; exact HO.out)
        have c0 := (hrd.get hz).2
        rw [Nat.zero_add] at c0
        have hfz := HO.out.frozen
        have hji : (j : Int) < (n : Int) := by omega
        clear hz hrd hjl
        go_wp2
        go_roundw
        case rel =>
          refine ⟨j + 1, by omega, by go_num, by go_num, ?_, ?_⟩
          · rw [← HP.out]
            have hx := HO.out.put j ((k0 + j : Nat) : Int)
            exact hx
          · repeat (first | exact HG.out | refine gb_set ?_ (.inl rfl) _)
        case measure => simp [intOf]; omega
      · obtain rfl : j = n := by omega
        go_wp2
        go_ret
        exact ⟨rfl, by have h := HO.out; rw [List.drop_eq_nil_of_le (by rw [← HL.out]; omega), List.append_nil] at h; exact h, HG.out⟩
end
end Go.Proofs.YtgponahmkjohiabGreatDoor
