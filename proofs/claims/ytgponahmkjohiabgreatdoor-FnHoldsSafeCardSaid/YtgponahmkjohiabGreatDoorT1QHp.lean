import Derived.Deep.RegionLaw
import Derived.LoopTactic
import Derived.Outline
import Derived.Test.YtgponahmkjohiabGreatDoorT1Pk24
namespace Go.Proofs.YtgponahmkjohiabGreatDoor
open Go.RowKit
set_option linter.unusedVariables false
theorem blk_drew1 {w : World} {g : Nat} {t : TypeId} {cs : Array Value} (h : Blk w g t cs) : Blk w.drew g t cs := h
/-- What a call leaves that writes block hb and one row: all else that was there is as it was. -/
structure Gr2 (w w' : World) (hb : Nat) (row : Option Nat) : Prop where
  os : w'.os = w.os
  tape : w'.tape = w.tape
  output : w'.output = w.output
  size : w.heap.size ≤ w'.heap.size
  block : ∀ k, k < w.heap.size → k ≠ hb → some k ≠ row → w'.heap[k]? = w.heap[k]?
theorem Gr2.of_gb {w w' : World} {hb : Nat} {row : Option Nat} (h : w.grownBy w' row) : Gr2 w w' hb row := ⟨h.os, h.tape, h.output, h.size, fun k hk _ hr => h.block k hk hr⟩
theorem Gr2.of_below {w w' : World} {hb : Nat} {row : Option Nat} (h : Below w.heap.size w w') : Gr2 w w' hb row := .of_gb (gb_belowJ h row)
theorem Gr2.drew {w w' : World} {hb : Nat} {row : Option Nat} (h : Gr2 w w' hb row) : Gr2 w w'.drew hb row := ⟨h.os, h.tape, h.output, h.size, h.block⟩
theorem Gr2.drewN {w w' : World} {hb : Nat} {row : Option Nat} (h : Gr2 w w' hb row) (n : Nat) : Gr2 w (w'.drewN n) hb row := ⟨h.os, h.tape, h.output, h.size, h.block⟩
theorem Gr2.alloc {w w' : World} {hb : Nat} {row : Option Nat} (h : Gr2 w w' hb row) (o : Obj) : Gr2 w (w'.alloc o) hb row :=
  ⟨h.os, h.tape, h.output, by simp; have := h.size; omega, fun k hk h1 h2 => (Below.heap_alloc w' o k (Nat.lt_of_lt_of_le hk h.size)).trans (h.block k hk h1 h2)⟩
theorem Gr2.set {w w' : World} {hb : Nat} {row : Option Nat} (h : Gr2 w w' hb row) (i : Nat) (u : Value) : Gr2 w (w'.setCell ⟨hb, i, none⟩ u) hb row :=
  ⟨h.os, h.tape, h.output, by simp [World.setCell]; exact h.size, fun k hk h1 h2 => (Below.heap_setCell w' ⟨hb, i, none⟩ u k h1).trans (h.block k hk h1 h2)⟩
/-- Two such calls, one after another: the second one's row is the first one's or a new one. -/
theorem Gr2.trans {a b c : World} {hb : Nat} {row row2 : Option Nat} (h : Gr2 a b hb row) (k : Gr2 b c hb row2) (hr : ∀ x, row2 = some x → row = some x ∨ a.heap.size ≤ x) : Gr2 a c hb row :=
  ⟨k.os.trans h.os, k.tape.trans h.tape, k.output.trans h.output, Nat.le_trans h.size k.size, fun i hi h1 h2 =>
    (k.block i (Nat.lt_of_lt_of_le hi h.size) h1 (fun e => by rcases hr i e.symm with e2 | e2; exact h2 e2.symm; omega)).trans (h.block i hi h1 h2)⟩
theorem Gr2.below {B : Nat} {w0 a b : World} {hb : Nat} {row : Option Nat} (h0 : Below B w0 a) (h : Gr2 a b hb row) (hB : B ≤ a.heap.size) (h1 : B ≤ hb) (h2 : ∀ x, row = some x → B ≤ x) : Below B w0 b :=
  h0.trans (⟨h.os, h.tape, h.output, h.size, fun k hk => h.block k (Nat.lt_of_lt_of_le hk hB) (by omega) (fun e => by have := h2 k e.symm; omega)⟩ : Below B a b)
theorem Hp.len {w : World} {B hb og : Nat} {hs : List Jb} {g n c : Nat} (h : Hp w B hb og hs (.slice (some ⟨g, 0, none⟩) n c)) : n = hs.length ∧ B ≤ g ∧ g < w.heap.size ∧ hb ≠ g := by
  have h1 := World.ownsRow.lt h.own g rfl
  have h2 := h.lt
  exact ⟨h.own.reads.1, h1.1, h1.2, by omega⟩
/-- One more job in a heap. -/
def PushRes (B hb og : Nat) (hs : List Jb) (v : Value) (x : Jb) (w : World) (e : Ending) (w' : World) : Prop :=
  e = .returned (.tuple #[]) ∧ ∃ (g c : Nat) (hs' : List Jb), Hp w' B hb og hs' (.slice (some ⟨g, 0, none⟩) hs'.length c) ∧ heapP hs' ∧ hs'.Perm (hs ++ [x]) ∧ (v.ownBlock = some g ∨ w.heap.size ≤ g) ∧ Gr2 w w' hb v.ownBlock
set_option maxRecDepth 100000 in
set_option maxHeartbeats 8000000 in
theorem iPush_is (w : World) (B hb og : Nat) (hs : List Jb) (v : Value) (h : Hp w B hb og hs v) (hB : B ≤ w.heap.size) (hp : heapP hs) (hl : hs.length ≤ 60) (x : Jb) :
    Calls Tryz.prog 56 #[.pointer (some ⟨hb, 0, none⟩), x.val] w (PushRes B hb og hs v x w) := by
  obtain ⟨i0, hi, hz0, hz1, hz2⟩ := info_parts info_job
  obtain ⟨ta, tm, ne⟩ := x
  have HH := Lib.hid h
  have HE := Lib.hid h.own
  have hbB := h.lt
  have hogB := h.ogB
  have HPP := Lib.hid hp
  obtain ⟨A0, cp0, rfl⟩ := h.own.form
  have hblw : hb < w.heap.size := h.blk.lt
  have hnb : some hb ≠ (Value.slice A0 hs.length cp0).ownBlock := fun e => by have := (World.ownsRow.lt h.own hb e.symm).1; have := h.lt; omega
  have hno : some og ≠ (Value.slice A0 hs.length cp0).ownBlock := fun e => by have := (World.ownsRow.lt h.own og e.symm).1; have := h.ogB; omega
  have HNB := Lib.hid hnb
  have HNO := Lib.hid hno
  have BX := Lib.hid (Blk.new w 46 #[.int .i64 ta, .int .i64 tm, .int .i64 ne])
  have BH := Lib.hid (h.blk.alloc (.cells #[.int .i64 ta, .int .i64 tm, .int .i64 ne] 46))
  have x0 := BX.out.cell 0
  have x1 := BX.out.cell 1
  have x2 := BX.out.cell 2
  have k0 := BH.out.cell 0
  clear h hp hnb hno
  unfold Jb.val
  dsimp only
  go_enter Tryz.func56, Tryz.ntmps56
  go_wp2
  go_region_law (refine step_append_lies _ (by rfl) (.tmp 9) (.tmp 11) 24 (by rfl) B 46 i0 _ 3 24 Tryz.underlying24 hi hz0 hz1 hz2 rfl (by decide) (.slice A0 hs.length cp0) hs.length (hs.flatMap Jb.cells) (by rfl) (show OwnJ _ B _ hs from (by repeat (first | with_reducible exact HE.out | with_reducible refine OwnJ.drew ?_ | with_reducible refine OwnJ.drewN ?_ _ | with_reducible refine OwnJ.alloc ?_ _))) ⟨w.heap.size + 1, 0, none⟩ 1 1 (Jb.cells ⟨ta, tm, ne⟩) (by rfl) rfl (by intro j u hu; have h0 := cell_new3 (w.alloc (.cells #[.int .i64 ta, .int .i64 tm, .int .i64 ne] 46)) ⟨ta, tm, ne⟩ 46 j u hu; simpa using h0) (by intro u hu; exact jcells_one [⟨ta, tm, ne⟩] u (by simpa using hu)) (by omega) (by unfold maxLen; omega) (by omega) (by simp; omega) (w.heap.size + 1 + 1) (by simp) ?_; intro g cap w2 hown2 hgrow2 hat2 hlt2; have HO2 := Lib.hid hown2; have HG2 := Lib.hid hgrow2; have HAT := Lib.hid hat2; clear hown2 hgrow2 hat2; have BH2 := Lib.hid (show Blk w2 hb 98 #[.slice A0 hs.length cp0, (.func (.func 55) #[ordV og] #[])] from Blk.grown (by repeat (first | with_reducible exact BH.out | with_reducible refine blk_drew1 ?_ | with_reducible refine Blk.drewN ?_ _ | with_reducible refine Blk.alloc ?_ _)) HG2.out HNB.out); have k2 := BH2.out.cell 0; have f2 := BH2.out.frozen 0; clear k0 x0 x1 x2)
  all_goals
    have HROW : Hid (∀ k, (Value.slice A0 hs.length cp0).ownBlock = some k → k < w.heap.size) := Lib.hid (fun k e => (World.ownsRow.lt HE.out k e).2)
    have hV : (hs ++ [(⟨ta, tm, ne⟩ : Jb)]).length = hs.length + 1 := by simp
    have HO3 : Hid (OwnJ w2 B (.slice (some ⟨g, 0, none⟩) (hs.length + 1) cap) (hs ++ [⟨ta, tm, ne⟩])) := Lib.hid (OwnJ.snoc HO2.out)
    have hgB := (World.ownsRow.lt HO3.out g rfl).1
    have HG1 : Hid (Gr2 w w2 hb (Value.slice A0 hs.length cp0).ownBlock) := Lib.hid (Gr2.trans (Gr2.of_below (row := (Value.slice A0 hs.length cp0).ownBlock) (by repeat (first | with_reducible exact Below.refl _ _ | with_reducible refine Below.drew ?_ | with_reducible refine bl_drewN ?_ _ | with_reducible refine bl_alloc ?_ _))) (Gr2.of_gb HG2.out) (fun x e => .inl e))
    have HG3 := Lib.hid (HG1.out.set 0 (.slice (some ⟨g, 0, none⟩) (hs.length + 1) cap))
    have HORD2 : Hid (OrdAt w2 og) := Lib.hid (OrdAt.grown (by repeat (first | with_reducible exact HH.out.ord | with_reducible refine OrdAt.drew ?_ | with_reducible refine OrdAt.drewN ?_ _ | with_reducible refine OrdAt.alloc ?_ _)) HG2.out HNO.out)
    have HH3 : Hid (Hp (w2.setCell ⟨hb, 0, none⟩ (.slice (some ⟨g, 0, none⟩) (hs.length + 1) cap)) B hb og (hs ++ [⟨ta, tm, ne⟩]) (.slice (some ⟨g, 0, none⟩) (hs.length + 1) cap)) := Lib.hid ⟨BH2.out.set_ 0 _, HO3.out.setFar hbB _, hbB, HORD2.out.setFar HH.out.hog _, hogB, HH.out.hog⟩
    have BX2 : Hid (Blk w2 w.heap.size 46 #[.int .i64 ta, .int .i64 tm, .int .i64 ne]) := Lib.hid (Blk.grown (by repeat (first | with_reducible exact BX.out | with_reducible refine blk_drew1 ?_ | with_reducible refine Blk.drewN ?_ _ | with_reducible refine Blk.alloc ?_ _)) HG2.out (fun e => by have := HROW.out _ e.symm; omega))
    have BX3 := Lib.hid (BX2.out.far (p := ⟨hb, 0, none⟩) (by dsimp only; omega) (.slice (some ⟨g, 0, none⟩) (hs.length + 1) cap))
    have HATL : Hid ((Value.slice A0 hs.length cp0).ownBlock = some g ∨ w.heap.size < g) := Lib.hid (HAT.out.imp id (fun e => by omega))
    have HAT2 : Hid ((Value.slice A0 hs.length cp0).ownBlock = some g ∨ w.heap.size ≤ g) := Lib.hid (HAT.out.imp id (fun e => by omega))
    have HUP := Lib.hid (up_start (x := ⟨ta, tm, ne⟩) HPP.out)
    have hcell3 := HH3.out.blk.cell 0
    clear BH2 k2 f2 HO2 HG2 HG1 HORD2 HO3 BX2 BX BH HNB HNO HAT hlt2
    generalize (w2.setCell ⟨hb, 0, none⟩ (.slice (some ⟨g, 0, none⟩) (hs.length + 1) cap)) = w3 at *
    have kw : IntKind.i64.wrap ((hs.length : Int) + 1 - 1) = (hs.length : Int) := by rw [IntWalk.i64_in _ (by omega)]; omega
    go_wp2
    clear hcell3 kw
    go_loopw [4] (fun i wr => ∃ (q : Nat) (hs1 : List Jb), i = .int .i64 q ∧ hs1.length = hs.length + 1 ∧ q ≤ hs.length ∧ Hid (Hp wr B hb og hs1 (.slice (some ⟨g, 0, none⟩) (hs.length + 1) cap)) ∧ Hid (UpInv hs1 q ⟨ta, tm, ne⟩) ∧ Hid (hs1.Perm (hs ++ [⟨ta, tm, ne⟩])) ∧ Hid (Blk wr w.heap.size 46 #[.int .i64 ta, .int .i64 tm, .int .i64 ne]) ∧ Hid (Gr2 w wr hb (Value.slice A0 hs.length cp0).ownBlock)) (fun i _ => (intOf i).toNat)
    case atStart => exact ⟨hs.length, hs ++ [⟨ta, tm, ne⟩], rfl, hV, Nat.le_refl _, HH3, HUP, Lib.hid (List.Perm.refl _), BX3, HG3⟩
    case round =>
      obtain ⟨q, hs1, rfl, hl1, hql, HH, HU, HP, BX, HG⟩ := hrel
      obtain ⟨w4, hw4⟩ : ∃ W, W = wr := ⟨_, rfl⟩
      subst hw4
      have HL1 := Lib.hid hl1
      have c0 := HH.out.blk.cell 0
      have c1 := HH.out.blk.cell 1
      have c2 := BX.out.cell 0
      have c3 := BX.out.cell 1
      have c4 := BX.out.cell 2
      have hbl : hb < w4.heap.size := HH.out.blk.lt
      have hxl : w.heap.size < w4.heap.size := BX.out.lt
      have hgl : g < w4.heap.size := (World.ownsRow.lt HH.out.own g rfl).2
      clear hl1
      by_cases hq0 : q = 0
      · subst hq0
        go_wp2_with fail
        refine wp_region_held_drew (S := (fun W => True)) (by kernel_rfl) (by trivial) (fun hHeld0 => ?_)
        refine wpAnyH_take (i := 0) (oi := { dst := some 21, op := .move (.tmp 4), type := 3, pos := "l6_jobs.go:151", after := #[], guard := none }) (v := ?_) rfl (by kernel_rfl) (by kernel_rfl) (by kernel_rfl) (fun _ _ _ h => h) (Or.inl ⟨by rfl, ?_⟩) hHeld0 ?_
        rotate_left
        · first | (intro w hSw; (try dsimp only at hSw); go_simp; done) | (intro w hSw; (try dsimp only at hSw); go_simp; with_reducible rfl)
        (try simp only [Act.put, List.setIfInBounds_toArray, List.set_cons_zero, List.set_cons_succ])
        refine wpAnyH_take (i := 1) (oi := { dst := some 22, op := .binOp .gtr 3 (.tmp 21) (.const (.int .i64 0)) 3, type := 4, pos := "l6_jobs.go:151", after := #[⟨0, .data⟩], guard := none }) (v := ?_) rfl (by kernel_rfl) (by kernel_rfl) (by kernel_rfl) (fun _ _ _ h => h) (Or.inl ⟨by rfl, ?_⟩) hHeld0 ?_
        rotate_left
        · first | (intro w hSw; (try dsimp only at hSw); go_simp; done) | (intro w hSw; (try dsimp only at hSw); go_simp; with_reducible rfl)
        (try simp only [Act.put, List.setIfInBounds_toArray, List.set_cons_zero, List.set_cons_succ])
        refine wpAnyH_take (i := 2) (oi := { dst := some 23, op := .move (.tmp 22), type := 4, pos := "l6_jobs.go:151", after := #[⟨1, .data⟩], guard := none }) (v := ?_) rfl (by kernel_rfl) (by kernel_rfl) (by kernel_rfl) (fun _ _ _ h => h) (Or.inl ⟨by rfl, ?_⟩) hHeld0 ?_
        rotate_left
        · first | (intro w hSw; (try dsimp only at hSw); go_simp; done) | (intro w hSw; (try dsimp only at hSw); go_simp; with_reducible rfl)
        (try simp only [Act.put, List.setIfInBounds_toArray, List.set_cons_zero, List.set_cons_succ])
        refine wpAnyH_take (i := 3) (oi := { dst := some 24, op := .move (.tmp 0), type := 138, pos := "l6_jobs.go:151", after := #[⟨2, .guard⟩], guard := some (2, true) }) (v := undef) rfl (by kernel_rfl) (by kernel_rfl) (by kernel_rfl) (fun _ _ _ h => h) (Or.inr ⟨by rfl, by rfl⟩) hHeld0 ?_
        (try simp only [Act.put, List.setIfInBounds_toArray, List.set_cons_zero, List.set_cons_succ])
        refine wpAnyH_take (i := 4) (oi := { dst := some 25, op := .nilCheck (.tmp 24), type := 0, pos := "l6_jobs.go:151", after := #[⟨3, .data⟩, ⟨2, .guard⟩], guard := some (2, true) }) (v := undef) rfl (by kernel_rfl) (by kernel_rfl) (by kernel_rfl) (fun _ _ _ h => h) (Or.inr ⟨by rfl, by rfl⟩) hHeld0 ?_
        (try simp only [Act.put, List.setIfInBounds_toArray, List.set_cons_zero, List.set_cons_succ])
        refine wpAnyH_take (i := 5) (oi := { dst := some 26, op := .fieldAddr 98 (.tmp 25) 1, type := 0, pos := "l6_jobs.go:151", after := #[⟨4, .data⟩, ⟨2, .guard⟩], guard := some (2, true) }) (v := undef) rfl (by kernel_rfl) (by kernel_rfl) (by kernel_rfl) (fun _ _ _ h => h) (Or.inr ⟨by rfl, by rfl⟩) hHeld0 ?_
        (try simp only [Act.put, List.setIfInBounds_toArray, List.set_cons_zero, List.set_cons_succ])
        refine wpAnyH_take (i := 6) (oi := { dst := some 27, op := .load 95 (.tmp 26), type := 95, pos := "l6_jobs.go:151", after := #[⟨5, .data⟩, ⟨2, .guard⟩], guard := some (2, true) }) (v := undef) rfl (by kernel_rfl) (by kernel_rfl) (by kernel_rfl) (fun _ _ _ h => h) (Or.inr ⟨by rfl, by rfl⟩) hHeld0 ?_
        (try simp only [Act.put, List.setIfInBounds_toArray, List.set_cons_zero, List.set_cons_succ])
        refine wpAnyH_take (i := 7) (oi := { dst := some 28, op := .load 46 (.tmp 3), type := 46, pos := "l6_jobs.go:151", after := #[⟨2, .guard⟩], guard := some (2, true) }) (v := undef) rfl (by kernel_rfl) (by kernel_rfl) (by kernel_rfl) (fun _ _ _ h => h) (Or.inr ⟨by rfl, by rfl⟩) hHeld0 ?_
        (try simp only [Act.put, List.setIfInBounds_toArray, List.set_cons_zero, List.set_cons_succ])
        refine wpAnyH_take (i := 8) (oi := { dst := some 29, op := .move (.tmp 0), type := 138, pos := "l6_jobs.go:151", after := #[⟨2, .guard⟩], guard := some (2, true) }) (v := undef) rfl (by kernel_rfl) (by kernel_rfl) (by kernel_rfl) (fun _ _ _ h => h) (Or.inr ⟨by rfl, by rfl⟩) hHeld0 ?_
        (try simp only [Act.put, List.setIfInBounds_toArray, List.set_cons_zero, List.set_cons_succ])
        refine wpAnyH_take (i := 9) (oi := { dst := some 30, op := .nilCheck (.tmp 29), type := 0, pos := "l6_jobs.go:151", after := #[⟨8, .data⟩, ⟨2, .guard⟩], guard := some (2, true) }) (v := undef) rfl (by kernel_rfl) (by kernel_rfl) (by kernel_rfl) (fun _ _ _ h => h) (Or.inr ⟨by rfl, by rfl⟩) hHeld0 ?_
        (try simp only [Act.put, List.setIfInBounds_toArray, List.set_cons_zero, List.set_cons_succ])
        refine wpAnyH_take (i := 10) (oi := { dst := some 31, op := .fieldAddr 98 (.tmp 30) 0, type := 0, pos := "l6_jobs.go:151", after := #[⟨9, .data⟩, ⟨2, .guard⟩], guard := some (2, true) }) (v := undef) rfl (by kernel_rfl) (by kernel_rfl) (by kernel_rfl) (fun _ _ _ h => h) (Or.inr ⟨by rfl, by rfl⟩) hHeld0 ?_
        (try simp only [Act.put, List.setIfInBounds_toArray, List.set_cons_zero, List.set_cons_succ])
        refine wpAnyH_take (i := 11) (oi := { dst := some 32, op := .load 24 (.tmp 31), type := 24, pos := "l6_jobs.go:151", after := #[⟨10, .data⟩, ⟨2, .guard⟩], guard := some (2, true) }) (v := undef) rfl (by kernel_rfl) (by kernel_rfl) (by kernel_rfl) (fun _ _ _ h => h) (Or.inr ⟨by rfl, by rfl⟩) hHeld0 ?_
        (try simp only [Act.put, List.setIfInBounds_toArray, List.set_cons_zero, List.set_cons_succ])
        refine wpAnyH_take (i := 12) (oi := { dst := some 33, op := .move (.tmp 4), type := 3, pos := "l6_jobs.go:151", after := #[⟨2, .guard⟩], guard := some (2, true) }) (v := undef) rfl (by kernel_rfl) (by kernel_rfl) (by kernel_rfl) (fun _ _ _ h => h) (Or.inr ⟨by rfl, by rfl⟩) hHeld0 ?_
        (try simp only [Act.put, List.setIfInBounds_toArray, List.set_cons_zero, List.set_cons_succ])
        refine wpAnyH_take (i := 13) (oi := { dst := some 34, op := .binOp .sub 3 (.tmp 33) (.const (.int .i64 1)) 3, type := 3, pos := "l6_jobs.go:151", after := #[⟨12, .data⟩, ⟨2, .guard⟩], guard := some (2, true) }) (v := undef) rfl (by kernel_rfl) (by kernel_rfl) (by kernel_rfl) (fun _ _ _ h => h) (Or.inr ⟨by rfl, by rfl⟩) hHeld0 ?_
        (try simp only [Act.put, List.setIfInBounds_toArray, List.set_cons_zero, List.set_cons_succ])
        refine wpAnyH_take (i := 14) (oi := { dst := some 35, op := .binOp .quo 3 (.tmp 34) (.const (.int .i64 2)) 3, type := 3, pos := "l6_jobs.go:151", after := #[⟨13, .data⟩, ⟨2, .guard⟩], guard := some (2, true) }) (v := undef) rfl (by kernel_rfl) (by kernel_rfl) (by kernel_rfl) (fun _ _ _ h => h) (Or.inr ⟨by rfl, by rfl⟩) hHeld0 ?_
        (try simp only [Act.put, List.setIfInBounds_toArray, List.set_cons_zero, List.set_cons_succ])
        refine wpAnyH_take (i := 15) (oi := { dst := some 36, op := .indexAddr 24 (.tmp 32) (.tmp 35), type := 0, pos := "l6_jobs.go:151", after := #[⟨11, .data⟩, ⟨14, .data⟩, ⟨2, .guard⟩], guard := some (2, true) }) (v := undef) rfl (by kernel_rfl) (by kernel_rfl) (by kernel_rfl) (fun _ _ _ h => h) (Or.inr ⟨by rfl, by rfl⟩) hHeld0 ?_
        (try simp only [Act.put, List.setIfInBounds_toArray, List.set_cons_zero, List.set_cons_succ])
        refine wpAnyH_take (i := 16) (oi := { dst := some 37, op := .load 46 (.tmp 36), type := 46, pos := "l6_jobs.go:151", after := #[⟨15, .data⟩, ⟨2, .guard⟩], guard := some (2, true) }) (v := undef) rfl (by kernel_rfl) (by kernel_rfl) (by kernel_rfl) (fun _ _ _ h => h) (Or.inr ⟨by rfl, by rfl⟩) hHeld0 ?_
        (try simp only [Act.put, List.setIfInBounds_toArray, List.set_cons_zero, List.set_cons_succ])
        refine wpAnyH_take (i := 17) (oi := { dst := some 38, op := .call { callee := .value (.tmp 27), args := #[.tmp 28, .tmp 37], argTypes := #[46, 46] }, type := 4, pos := "l6_jobs.go:151", after := #[⟨6, .data⟩, ⟨7, .data⟩, ⟨16, .data⟩, ⟨2, .chain⟩, ⟨2, .guard⟩], guard := some (2, true) }) (v := undef) rfl (by kernel_rfl) (by kernel_rfl) (by kernel_rfl) (fun _ _ _ h => h) (Or.inr ⟨by rfl, by rfl⟩) hHeld0 ?_
        (try simp only [Act.put, List.setIfInBounds_toArray, List.set_cons_zero, List.set_cons_succ])
        refine wpAnyH_take (i := 18) (oi := { dst := some 39, op := .pick (.tmp 23) (.tmp 38) (.const (.bool false)), type := 4, pos := "l6_jobs.go:151", after := #[⟨2, .data⟩, ⟨17, .data⟩], guard := none }) (v := ?_) rfl (by kernel_rfl) (by kernel_rfl) (by kernel_rfl) (fun _ _ _ h => h) (Or.inl ⟨by rfl, ?_⟩) hHeld0 ?_
        rotate_left
        · first | (intro w hSw; (try dsimp only at hSw); go_simp; done) | (intro w hSw; (try dsimp only at hSw); go_simp; with_reducible rfl)
        (try simp only [Act.put, List.setIfInBounds_toArray, List.set_cons_zero, List.set_cons_succ])
        refine wpAnyH_done (by kernel_rfl) ?_ _
        go_wp2
        go_end0
        exact ⟨rfl, g, cap, hs1, by rw [HL1.out]; exact Hp.below HH.out (by repeat (first | with_reducible exact Below.refl _ _ | with_reducible refine bl_drewN ?_ _ | with_reducible refine Below.drew ?_)), up_done HU.out (.inl rfl), HP.out, HAT2.out, (by repeat (first | with_reducible exact HG.out | refine Gr2.drewN ?_ _ | refine Gr2.drew ?_))⟩
      obtain ⟨s, hs'⟩ : ∃ s, q = s + 1 := ⟨q - 1, by omega⟩
      obtain ⟨r, hr⟩ : ∃ r, (q - 1) / 2 = r := ⟨_, rfl⟩
      have hrs : r = s / 2 := by rw [← hr, hs']; rfl
      obtain ⟨pj, hpj⟩ : ∃ p, hs1[r]? = some p := ⟨hs1[r]'(by have := HL1.out; omega), List.getElem?_eq_getElem _⟩
      obtain ⟨_, a0, a1, a2⟩ := HH.out.own.reads.2.get hpj
      have c5 := a0
      have c6 := a1
      have c7 := a2
      simp only [Nat.zero_add] at c5 c6 c7
      clear a0 a1 a2
      have HPJ := Lib.hid (show hs1[(q - 1) / 2]? = some pj by rw [hr]; exact hpj)
      have HRQ := Lib.hid hr
      have q0 : (0 : Int) < (q : Int) := by omega
      have q00 : 0 < q := by omega
      have r0 : (0 : Int) ≤ (r : Int) := by omega
      have r1 : (r : Int) < (hs.length : Int) + 1 := by omega
      have r2 : IntKind.i64.wrap ((q : Int) - 1) = (s : Int) := by rw [IntWalk.i64_in _ (by omega)]; omega
      have r3 : (s : Int) / 2 = (r : Int) := by omega
      have r4 : Int.tdiv (s : Int) 2 = (r : Int) := by rw [Int.tdiv_eq_ediv_of_nonneg (by omega)]; exact r3
      have r5 : IntKind.i64.wrap (r : Int) = (r : Int) := IntWalk.i64_in _ (by omega)
      have hrl : r < q := by omega
      clear hs' hr hrs hpj
      obtain ⟨pa, pm, pe⟩ := pj
      dsimp only at c5 c6 c7
      cases hbf : befB ⟨ta, tm, ne⟩ ⟨pa, pm, pe⟩
      · have HBF := Lib.hid hbf
        clear hbf
        go_wp2_with fail
        refine wp_region_held_drew (S := (fun W => W.cell? ⟨hb, 0, none⟩ = some (.slice (some ⟨g, 0, none⟩) (hs.length + 1) cap) ∧ W.cell? ⟨hb, 1, none⟩ = some (.func (.func 55) #[ordV og] #[]) ∧ W.cell? ⟨w.heap.size, 0, none⟩ = some (.int .i64 ta) ∧ W.cell? ⟨w.heap.size, 1, none⟩ = some (.int .i64 tm) ∧ W.cell? ⟨w.heap.size, 2, none⟩ = some (.int .i64 ne) ∧ W.cell? ⟨g, r * 3, none⟩ = some (.int .i64 pa) ∧ W.cell? ⟨g, r * 3 + 1, none⟩ = some (.int .i64 pm) ∧ W.cell? ⟨g, r * 3 + 2, none⟩ = some (.int .i64 pe))) (by kernel_rfl) (by exact ⟨c0, c1, c2, c3, c4, c5, c6, c7⟩) (fun hHeld0 => ?_)
        refine wpAnyH_take (i := 0) (oi := { dst := some 21, op := .move (.tmp 4), type := 3, pos := "l6_jobs.go:151", after := #[], guard := none }) (v := ?_) rfl (by kernel_rfl) (by kernel_rfl) (by kernel_rfl) (fun _ _ _ h => h) (Or.inl ⟨by rfl, ?_⟩) hHeld0 ?_
        rotate_left
        · first | (intro w hSw; (try dsimp only at hSw); go_simp; done) | (intro w hSw; (try dsimp only at hSw); go_simp; with_reducible rfl)
        (try simp only [Act.put, List.setIfInBounds_toArray, List.set_cons_zero, List.set_cons_succ])
        refine wpAnyH_take (i := 1) (oi := { dst := some 22, op := .binOp .gtr 3 (.tmp 21) (.const (.int .i64 0)) 3, type := 4, pos := "l6_jobs.go:151", after := #[⟨0, .data⟩], guard := none }) (v := ?_) rfl (by kernel_rfl) (by kernel_rfl) (by kernel_rfl) (fun _ _ _ h => h) (Or.inl ⟨by rfl, ?_⟩) hHeld0 ?_
        rotate_left
        · first | (intro w hSw; (try dsimp only at hSw); go_simp; done) | (intro w hSw; (try dsimp only at hSw); go_simp; with_reducible rfl)
        (try simp only [Act.put, List.setIfInBounds_toArray, List.set_cons_zero, List.set_cons_succ])
        refine wpAnyH_take (i := 2) (oi := { dst := some 23, op := .move (.tmp 22), type := 4, pos := "l6_jobs.go:151", after := #[⟨1, .data⟩], guard := none }) (v := ?_) rfl (by kernel_rfl) (by kernel_rfl) (by kernel_rfl) (fun _ _ _ h => h) (Or.inl ⟨by rfl, ?_⟩) hHeld0 ?_
        rotate_left
        · first | (intro w hSw; (try dsimp only at hSw); go_simp; done) | (intro w hSw; (try dsimp only at hSw); go_simp; with_reducible rfl)
        (try simp only [Act.put, List.setIfInBounds_toArray, List.set_cons_zero, List.set_cons_succ])
        refine wpAnyH_take (i := 3) (oi := { dst := some 24, op := .move (.tmp 0), type := 138, pos := "l6_jobs.go:151", after := #[⟨2, .guard⟩], guard := some (2, true) }) (v := ?_) rfl (by kernel_rfl) (by kernel_rfl) (by kernel_rfl) (fun _ _ _ h => h) (Or.inl ⟨by rfl, ?_⟩) hHeld0 ?_
        rotate_left
        · first | (intro w hSw; (try dsimp only at hSw); go_simp; done) | (intro w hSw; (try dsimp only at hSw); go_simp; with_reducible rfl)
        (try simp only [Act.put, List.setIfInBounds_toArray, List.set_cons_zero, List.set_cons_succ])
        refine wpAnyH_take (i := 4) (oi := { dst := some 25, op := .nilCheck (.tmp 24), type := 0, pos := "l6_jobs.go:151", after := #[⟨3, .data⟩, ⟨2, .guard⟩], guard := some (2, true) }) (v := ?_) rfl (by kernel_rfl) (by kernel_rfl) (by kernel_rfl) (fun _ _ _ h => h) (Or.inl ⟨by rfl, ?_⟩) hHeld0 ?_
        rotate_left
        · first | (intro w hSw; (try dsimp only at hSw); go_simp; done) | (intro w hSw; (try dsimp only at hSw); go_simp; with_reducible rfl)
        (try simp only [Act.put, List.setIfInBounds_toArray, List.set_cons_zero, List.set_cons_succ])
        refine wpAnyH_take (i := 5) (oi := { dst := some 26, op := .fieldAddr 98 (.tmp 25) 1, type := 0, pos := "l6_jobs.go:151", after := #[⟨4, .data⟩, ⟨2, .guard⟩], guard := some (2, true) }) (v := ?_) rfl (by kernel_rfl) (by kernel_rfl) (by kernel_rfl) (fun _ _ _ h => h) (Or.inl ⟨by rfl, ?_⟩) hHeld0 ?_
        rotate_left
        · first | (intro w hSw; (try dsimp only at hSw); go_simp; done) | (intro w hSw; (try dsimp only at hSw); go_simp; with_reducible rfl)
        (try simp only [Act.put, List.setIfInBounds_toArray, List.set_cons_zero, List.set_cons_succ])
        refine wpAnyH_take (i := 6) (oi := { dst := some 27, op := .load 95 (.tmp 26), type := 95, pos := "l6_jobs.go:151", after := #[⟨5, .data⟩, ⟨2, .guard⟩], guard := some (2, true) }) (v := ?_) rfl (by kernel_rfl) (by kernel_rfl) (by kernel_rfl) (fun _ _ _ h => h) (Or.inl ⟨by rfl, ?_⟩) hHeld0 ?_
        rotate_left
        · first | (intro w hSw; (try dsimp only at hSw); go_simp; done) | (intro w hSw; (try dsimp only at hSw); go_simp; with_reducible rfl)
        (try simp only [Act.put, List.setIfInBounds_toArray, List.set_cons_zero, List.set_cons_succ])
        refine wpAnyH_take (i := 7) (oi := { dst := some 28, op := .load 46 (.tmp 3), type := 46, pos := "l6_jobs.go:151", after := #[⟨2, .guard⟩], guard := some (2, true) }) (v := ?_) rfl (by kernel_rfl) (by kernel_rfl) (by kernel_rfl) (fun _ _ _ h => h) (Or.inl ⟨by rfl, ?_⟩) hHeld0 ?_
        rotate_left
        · first | (intro w hSw; (try dsimp only at hSw); go_simp; done) | (intro w hSw; (try dsimp only at hSw); go_simp; with_reducible rfl)
        (try simp only [Act.put, List.setIfInBounds_toArray, List.set_cons_zero, List.set_cons_succ])
        refine wpAnyH_take (i := 8) (oi := { dst := some 29, op := .move (.tmp 0), type := 138, pos := "l6_jobs.go:151", after := #[⟨2, .guard⟩], guard := some (2, true) }) (v := ?_) rfl (by kernel_rfl) (by kernel_rfl) (by kernel_rfl) (fun _ _ _ h => h) (Or.inl ⟨by rfl, ?_⟩) hHeld0 ?_
        rotate_left
        · first | (intro w hSw; (try dsimp only at hSw); go_simp; done) | (intro w hSw; (try dsimp only at hSw); go_simp; with_reducible rfl)
        (try simp only [Act.put, List.setIfInBounds_toArray, List.set_cons_zero, List.set_cons_succ])
        refine wpAnyH_take (i := 9) (oi := { dst := some 30, op := .nilCheck (.tmp 29), type := 0, pos := "l6_jobs.go:151", after := #[⟨8, .data⟩, ⟨2, .guard⟩], guard := some (2, true) }) (v := ?_) rfl (by kernel_rfl) (by kernel_rfl) (by kernel_rfl) (fun _ _ _ h => h) (Or.inl ⟨by rfl, ?_⟩) hHeld0 ?_
        rotate_left
        · first | (intro w hSw; (try dsimp only at hSw); go_simp; done) | (intro w hSw; (try dsimp only at hSw); go_simp; with_reducible rfl)
        (try simp only [Act.put, List.setIfInBounds_toArray, List.set_cons_zero, List.set_cons_succ])
        refine wpAnyH_take (i := 10) (oi := { dst := some 31, op := .fieldAddr 98 (.tmp 30) 0, type := 0, pos := "l6_jobs.go:151", after := #[⟨9, .data⟩, ⟨2, .guard⟩], guard := some (2, true) }) (v := ?_) rfl (by kernel_rfl) (by kernel_rfl) (by kernel_rfl) (fun _ _ _ h => h) (Or.inl ⟨by rfl, ?_⟩) hHeld0 ?_
        rotate_left
        · first | (intro w hSw; (try dsimp only at hSw); go_simp; done) | (intro w hSw; (try dsimp only at hSw); go_simp; with_reducible rfl)
        (try simp only [Act.put, List.setIfInBounds_toArray, List.set_cons_zero, List.set_cons_succ])
        refine wpAnyH_take (i := 11) (oi := { dst := some 32, op := .load 24 (.tmp 31), type := 24, pos := "l6_jobs.go:151", after := #[⟨10, .data⟩, ⟨2, .guard⟩], guard := some (2, true) }) (v := ?_) rfl (by kernel_rfl) (by kernel_rfl) (by kernel_rfl) (fun _ _ _ h => h) (Or.inl ⟨by rfl, ?_⟩) hHeld0 ?_
        rotate_left
        · first | (intro w hSw; (try dsimp only at hSw); go_simp; done) | (intro w hSw; (try dsimp only at hSw); go_simp; with_reducible rfl)
        (try simp only [Act.put, List.setIfInBounds_toArray, List.set_cons_zero, List.set_cons_succ])
        refine wpAnyH_take (i := 12) (oi := { dst := some 33, op := .move (.tmp 4), type := 3, pos := "l6_jobs.go:151", after := #[⟨2, .guard⟩], guard := some (2, true) }) (v := ?_) rfl (by kernel_rfl) (by kernel_rfl) (by kernel_rfl) (fun _ _ _ h => h) (Or.inl ⟨by rfl, ?_⟩) hHeld0 ?_
        rotate_left
        · first | (intro w hSw; (try dsimp only at hSw); go_simp; done) | (intro w hSw; (try dsimp only at hSw); go_simp; with_reducible rfl)
        (try simp only [Act.put, List.setIfInBounds_toArray, List.set_cons_zero, List.set_cons_succ])
        refine wpAnyH_take (i := 13) (oi := { dst := some 34, op := .binOp .sub 3 (.tmp 33) (.const (.int .i64 1)) 3, type := 3, pos := "l6_jobs.go:151", after := #[⟨12, .data⟩, ⟨2, .guard⟩], guard := some (2, true) }) (v := ?_) rfl (by kernel_rfl) (by kernel_rfl) (by kernel_rfl) (fun _ _ _ h => h) (Or.inl ⟨by rfl, ?_⟩) hHeld0 ?_
        rotate_left
        · first | (intro w hSw; (try dsimp only at hSw); go_simp; done) | (intro w hSw; (try dsimp only at hSw); go_simp; with_reducible rfl)
        (try simp only [Act.put, List.setIfInBounds_toArray, List.set_cons_zero, List.set_cons_succ])
        refine wpAnyH_take (i := 14) (oi := { dst := some 35, op := .binOp .quo 3 (.tmp 34) (.const (.int .i64 2)) 3, type := 3, pos := "l6_jobs.go:151", after := #[⟨13, .data⟩, ⟨2, .guard⟩], guard := some (2, true) }) (v := ?_) rfl (by kernel_rfl) (by kernel_rfl) (by kernel_rfl) (fun _ _ _ h => h) (Or.inl ⟨by rfl, ?_⟩) hHeld0 ?_
        rotate_left
        · first | (intro w hSw; (try dsimp only at hSw); go_simp; done) | (intro w hSw; (try dsimp only at hSw); go_simp; with_reducible rfl)
        (try simp only [Act.put, List.setIfInBounds_toArray, List.set_cons_zero, List.set_cons_succ])
        refine wpAnyH_take (i := 15) (oi := { dst := some 36, op := .indexAddr 24 (.tmp 32) (.tmp 35), type := 0, pos := "l6_jobs.go:151", after := #[⟨11, .data⟩, ⟨14, .data⟩, ⟨2, .guard⟩], guard := some (2, true) }) (v := ?_) rfl (by kernel_rfl) (by kernel_rfl) (by kernel_rfl) (fun _ _ _ h => h) (Or.inl ⟨by rfl, ?_⟩) hHeld0 ?_
        rotate_left
        · first | (intro w hSw; (try dsimp only at hSw); go_simp; done) | (intro w hSw; (try dsimp only at hSw); go_simp; with_reducible rfl)
        (try simp only [Act.put, List.setIfInBounds_toArray, List.set_cons_zero, List.set_cons_succ])
        refine wpAnyH_take (i := 16) (oi := { dst := some 37, op := .load 46 (.tmp 36), type := 46, pos := "l6_jobs.go:151", after := #[⟨15, .data⟩, ⟨2, .guard⟩], guard := some (2, true) }) (v := ?_) rfl (by kernel_rfl) (by kernel_rfl) (by kernel_rfl) (fun _ _ _ h => h) (Or.inl ⟨by rfl, ?_⟩) hHeld0 ?_
        rotate_left
        · first | (intro w hSw; (try dsimp only at hSw); go_simp; done) | (intro w hSw; (try dsimp only at hSw); go_simp; with_reducible rfl)
        (try simp only [Act.put, List.setIfInBounds_toArray, List.set_cons_zero, List.set_cons_succ])
        refine wpAnyH_ready (rs := [17]) (by kernel_rfl) (by simp) ?_
        refine AllReadyH.cons (o := { dst := some 38, op := .call { callee := .value (.tmp 27), args := #[.tmp 28, .tmp 37], argTypes := #[46, 46] }, type := 4, pos := "l6_jobs.go:151", after := #[⟨6, .data⟩, ⟨7, .data⟩, ⟨16, .data⟩, ⟨2, .chain⟩, ⟨2, .guard⟩], guard := some (2, true) }) rfl (fun K hK => ?_) AllReadyH.nil
        go_simp
        (go_at_call 55; refine (iBef_is _ og (by repeat (first | with_reducible exact HH.out.ord | with_reducible refine OrdAt.drewN ?_ _ | with_reducible refine OrdAt.drew ?_)) ⟨ta, tm, ne⟩ ⟨pa, pm, pe⟩ false HBF.out).mono ?_; rintro e w6 ⟨rfl, hb6⟩; have HB6 := Lib.hid (show Below w4.heap.size w4 w6 from bl_trans (by repeat (first | with_reducible exact Below.refl _ _ | with_reducible refine bl_drewN ?_ _ | with_reducible refine Below.drew ?_)) hb6); clear hb6)
        (try go_wp2_with fail)
        refine hK.out _ _ (by exact ⟨(HB6.out.cell (p := ⟨hb, 0, none⟩) hbl).trans c0, (HB6.out.cell (p := ⟨hb, 1, none⟩) hbl).trans c1, (HB6.out.cell (p := ⟨w.heap.size, 0, none⟩) hxl).trans c2, (HB6.out.cell (p := ⟨w.heap.size, 1, none⟩) hxl).trans c3, (HB6.out.cell (p := ⟨w.heap.size, 2, none⟩) hxl).trans c4, (HB6.out.cell (p := ⟨g, r * 3, none⟩) hgl).trans c5, (HB6.out.cell (p := ⟨g, r * 3 + 1, none⟩) hgl).trans c6, (HB6.out.cell (p := ⟨g, r * 3 + 2, none⟩) hgl).trans c7⟩) (fun hHeld1 => ?_)
        clear hK K
        (try simp only [Act.put, List.setIfInBounds_toArray, List.set_cons_zero, List.set_cons_succ])
        refine wpAnyH_take (i := 18) (oi := { dst := some 39, op := .pick (.tmp 23) (.tmp 38) (.const (.bool false)), type := 4, pos := "l6_jobs.go:151", after := #[⟨2, .data⟩, ⟨17, .data⟩], guard := none }) (v := ?_) rfl (by kernel_rfl) (by kernel_rfl) (by kernel_rfl) (fun _ _ _ h => h) (Or.inl ⟨by rfl, ?_⟩) hHeld1 ?_
        rotate_left
        · first | (intro w hSw; (try dsimp only at hSw); go_simp; done) | (intro w hSw; (try dsimp only at hSw); go_simp; with_reducible rfl)
        (try simp only [Act.put, List.setIfInBounds_toArray, List.set_cons_zero, List.set_cons_succ])
        refine wpAnyH_done (by kernel_rfl) ?_ _
        go_wp2
        go_end0
        exact ⟨rfl, g, cap, hs1, by rw [HL1.out]; exact Hp.below HH.out (by repeat (first | with_reducible exact HB6.out | with_reducible refine bl_drewN ?_ _ | with_reducible refine Below.drew ?_)), up_done HU.out (.inr fun p hp => by rw [HPJ.out] at hp; injection hp with hp; rw [← hp]; exact HBF.out), HP.out, HAT2.out, Gr2.trans HG.out (Gr2.of_below (row := none) (by repeat (first | with_reducible exact HB6.out | with_reducible refine bl_drewN ?_ _ | with_reducible refine Below.drew ?_))) (fun x e => by cases e)⟩
      · have HBF := Lib.hid hbf
        clear hbf
        go_wp2_with fail
        refine wp_region_held_drew (S := (fun W => W.cell? ⟨hb, 0, none⟩ = some (.slice (some ⟨g, 0, none⟩) (hs.length + 1) cap) ∧ W.cell? ⟨hb, 1, none⟩ = some (.func (.func 55) #[ordV og] #[]) ∧ W.cell? ⟨w.heap.size, 0, none⟩ = some (.int .i64 ta) ∧ W.cell? ⟨w.heap.size, 1, none⟩ = some (.int .i64 tm) ∧ W.cell? ⟨w.heap.size, 2, none⟩ = some (.int .i64 ne) ∧ W.cell? ⟨g, r * 3, none⟩ = some (.int .i64 pa) ∧ W.cell? ⟨g, r * 3 + 1, none⟩ = some (.int .i64 pm) ∧ W.cell? ⟨g, r * 3 + 2, none⟩ = some (.int .i64 pe))) (by kernel_rfl) (by exact ⟨c0, c1, c2, c3, c4, c5, c6, c7⟩) (fun hHeld0 => ?_)
        refine wpAnyH_take (i := 0) (oi := { dst := some 21, op := .move (.tmp 4), type := 3, pos := "l6_jobs.go:151", after := #[], guard := none }) (v := ?_) rfl (by kernel_rfl) (by kernel_rfl) (by kernel_rfl) (fun _ _ _ h => h) (Or.inl ⟨by rfl, ?_⟩) hHeld0 ?_
        rotate_left
        · first | (intro w hSw; (try dsimp only at hSw); go_simp; done) | (intro w hSw; (try dsimp only at hSw); go_simp; with_reducible rfl)
        (try simp only [Act.put, List.setIfInBounds_toArray, List.set_cons_zero, List.set_cons_succ])
        refine wpAnyH_take (i := 1) (oi := { dst := some 22, op := .binOp .gtr 3 (.tmp 21) (.const (.int .i64 0)) 3, type := 4, pos := "l6_jobs.go:151", after := #[⟨0, .data⟩], guard := none }) (v := ?_) rfl (by kernel_rfl) (by kernel_rfl) (by kernel_rfl) (fun _ _ _ h => h) (Or.inl ⟨by rfl, ?_⟩) hHeld0 ?_
        rotate_left
        · first | (intro w hSw; (try dsimp only at hSw); go_simp; done) | (intro w hSw; (try dsimp only at hSw); go_simp; with_reducible rfl)
        (try simp only [Act.put, List.setIfInBounds_toArray, List.set_cons_zero, List.set_cons_succ])
        refine wpAnyH_take (i := 2) (oi := { dst := some 23, op := .move (.tmp 22), type := 4, pos := "l6_jobs.go:151", after := #[⟨1, .data⟩], guard := none }) (v := ?_) rfl (by kernel_rfl) (by kernel_rfl) (by kernel_rfl) (fun _ _ _ h => h) (Or.inl ⟨by rfl, ?_⟩) hHeld0 ?_
        rotate_left
        · first | (intro w hSw; (try dsimp only at hSw); go_simp; done) | (intro w hSw; (try dsimp only at hSw); go_simp; with_reducible rfl)
        (try simp only [Act.put, List.setIfInBounds_toArray, List.set_cons_zero, List.set_cons_succ])
        refine wpAnyH_take (i := 3) (oi := { dst := some 24, op := .move (.tmp 0), type := 138, pos := "l6_jobs.go:151", after := #[⟨2, .guard⟩], guard := some (2, true) }) (v := ?_) rfl (by kernel_rfl) (by kernel_rfl) (by kernel_rfl) (fun _ _ _ h => h) (Or.inl ⟨by rfl, ?_⟩) hHeld0 ?_
        rotate_left
        · first | (intro w hSw; (try dsimp only at hSw); go_simp; done) | (intro w hSw; (try dsimp only at hSw); go_simp; with_reducible rfl)
        (try simp only [Act.put, List.setIfInBounds_toArray, List.set_cons_zero, List.set_cons_succ])
        refine wpAnyH_take (i := 4) (oi := { dst := some 25, op := .nilCheck (.tmp 24), type := 0, pos := "l6_jobs.go:151", after := #[⟨3, .data⟩, ⟨2, .guard⟩], guard := some (2, true) }) (v := ?_) rfl (by kernel_rfl) (by kernel_rfl) (by kernel_rfl) (fun _ _ _ h => h) (Or.inl ⟨by rfl, ?_⟩) hHeld0 ?_
        rotate_left
        · first | (intro w hSw; (try dsimp only at hSw); go_simp; done) | (intro w hSw; (try dsimp only at hSw); go_simp; with_reducible rfl)
        (try simp only [Act.put, List.setIfInBounds_toArray, List.set_cons_zero, List.set_cons_succ])
        refine wpAnyH_take (i := 5) (oi := { dst := some 26, op := .fieldAddr 98 (.tmp 25) 1, type := 0, pos := "l6_jobs.go:151", after := #[⟨4, .data⟩, ⟨2, .guard⟩], guard := some (2, true) }) (v := ?_) rfl (by kernel_rfl) (by kernel_rfl) (by kernel_rfl) (fun _ _ _ h => h) (Or.inl ⟨by rfl, ?_⟩) hHeld0 ?_
        rotate_left
        · first | (intro w hSw; (try dsimp only at hSw); go_simp; done) | (intro w hSw; (try dsimp only at hSw); go_simp; with_reducible rfl)
        (try simp only [Act.put, List.setIfInBounds_toArray, List.set_cons_zero, List.set_cons_succ])
        refine wpAnyH_take (i := 6) (oi := { dst := some 27, op := .load 95 (.tmp 26), type := 95, pos := "l6_jobs.go:151", after := #[⟨5, .data⟩, ⟨2, .guard⟩], guard := some (2, true) }) (v := ?_) rfl (by kernel_rfl) (by kernel_rfl) (by kernel_rfl) (fun _ _ _ h => h) (Or.inl ⟨by rfl, ?_⟩) hHeld0 ?_
        rotate_left
        · first | (intro w hSw; (try dsimp only at hSw); go_simp; done) | (intro w hSw; (try dsimp only at hSw); go_simp; with_reducible rfl)
        (try simp only [Act.put, List.setIfInBounds_toArray, List.set_cons_zero, List.set_cons_succ])
        refine wpAnyH_take (i := 7) (oi := { dst := some 28, op := .load 46 (.tmp 3), type := 46, pos := "l6_jobs.go:151", after := #[⟨2, .guard⟩], guard := some (2, true) }) (v := ?_) rfl (by kernel_rfl) (by kernel_rfl) (by kernel_rfl) (fun _ _ _ h => h) (Or.inl ⟨by rfl, ?_⟩) hHeld0 ?_
        rotate_left
        · first | (intro w hSw; (try dsimp only at hSw); go_simp; done) | (intro w hSw; (try dsimp only at hSw); go_simp; with_reducible rfl)
        (try simp only [Act.put, List.setIfInBounds_toArray, List.set_cons_zero, List.set_cons_succ])
        refine wpAnyH_take (i := 8) (oi := { dst := some 29, op := .move (.tmp 0), type := 138, pos := "l6_jobs.go:151", after := #[⟨2, .guard⟩], guard := some (2, true) }) (v := ?_) rfl (by kernel_rfl) (by kernel_rfl) (by kernel_rfl) (fun _ _ _ h => h) (Or.inl ⟨by rfl, ?_⟩) hHeld0 ?_
        rotate_left
        · first | (intro w hSw; (try dsimp only at hSw); go_simp; done) | (intro w hSw; (try dsimp only at hSw); go_simp; with_reducible rfl)
        (try simp only [Act.put, List.setIfInBounds_toArray, List.set_cons_zero, List.set_cons_succ])
        refine wpAnyH_take (i := 9) (oi := { dst := some 30, op := .nilCheck (.tmp 29), type := 0, pos := "l6_jobs.go:151", after := #[⟨8, .data⟩, ⟨2, .guard⟩], guard := some (2, true) }) (v := ?_) rfl (by kernel_rfl) (by kernel_rfl) (by kernel_rfl) (fun _ _ _ h => h) (Or.inl ⟨by rfl, ?_⟩) hHeld0 ?_
        rotate_left
        · first | (intro w hSw; (try dsimp only at hSw); go_simp; done) | (intro w hSw; (try dsimp only at hSw); go_simp; with_reducible rfl)
        (try simp only [Act.put, List.setIfInBounds_toArray, List.set_cons_zero, List.set_cons_succ])
        refine wpAnyH_take (i := 10) (oi := { dst := some 31, op := .fieldAddr 98 (.tmp 30) 0, type := 0, pos := "l6_jobs.go:151", after := #[⟨9, .data⟩, ⟨2, .guard⟩], guard := some (2, true) }) (v := ?_) rfl (by kernel_rfl) (by kernel_rfl) (by kernel_rfl) (fun _ _ _ h => h) (Or.inl ⟨by rfl, ?_⟩) hHeld0 ?_
        rotate_left
        · first | (intro w hSw; (try dsimp only at hSw); go_simp; done) | (intro w hSw; (try dsimp only at hSw); go_simp; with_reducible rfl)
        (try simp only [Act.put, List.setIfInBounds_toArray, List.set_cons_zero, List.set_cons_succ])
        refine wpAnyH_take (i := 11) (oi := { dst := some 32, op := .load 24 (.tmp 31), type := 24, pos := "l6_jobs.go:151", after := #[⟨10, .data⟩, ⟨2, .guard⟩], guard := some (2, true) }) (v := ?_) rfl (by kernel_rfl) (by kernel_rfl) (by kernel_rfl) (fun _ _ _ h => h) (Or.inl ⟨by rfl, ?_⟩) hHeld0 ?_
        rotate_left
        · first | (intro w hSw; (try dsimp only at hSw); go_simp; done) | (intro w hSw; (try dsimp only at hSw); go_simp; with_reducible rfl)
        (try simp only [Act.put, List.setIfInBounds_toArray, List.set_cons_zero, List.set_cons_succ])
        refine wpAnyH_take (i := 12) (oi := { dst := some 33, op := .move (.tmp 4), type := 3, pos := "l6_jobs.go:151", after := #[⟨2, .guard⟩], guard := some (2, true) }) (v := ?_) rfl (by kernel_rfl) (by kernel_rfl) (by kernel_rfl) (fun _ _ _ h => h) (Or.inl ⟨by rfl, ?_⟩) hHeld0 ?_
        rotate_left
        · first | (intro w hSw; (try dsimp only at hSw); go_simp; done) | (intro w hSw; (try dsimp only at hSw); go_simp; with_reducible rfl)
        (try simp only [Act.put, List.setIfInBounds_toArray, List.set_cons_zero, List.set_cons_succ])
        refine wpAnyH_take (i := 13) (oi := { dst := some 34, op := .binOp .sub 3 (.tmp 33) (.const (.int .i64 1)) 3, type := 3, pos := "l6_jobs.go:151", after := #[⟨12, .data⟩, ⟨2, .guard⟩], guard := some (2, true) }) (v := ?_) rfl (by kernel_rfl) (by kernel_rfl) (by kernel_rfl) (fun _ _ _ h => h) (Or.inl ⟨by rfl, ?_⟩) hHeld0 ?_
        rotate_left
        · first | (intro w hSw; (try dsimp only at hSw); go_simp; done) | (intro w hSw; (try dsimp only at hSw); go_simp; with_reducible rfl)
        (try simp only [Act.put, List.setIfInBounds_toArray, List.set_cons_zero, List.set_cons_succ])
        refine wpAnyH_take (i := 14) (oi := { dst := some 35, op := .binOp .quo 3 (.tmp 34) (.const (.int .i64 2)) 3, type := 3, pos := "l6_jobs.go:151", after := #[⟨13, .data⟩, ⟨2, .guard⟩], guard := some (2, true) }) (v := ?_) rfl (by kernel_rfl) (by kernel_rfl) (by kernel_rfl) (fun _ _ _ h => h) (Or.inl ⟨by rfl, ?_⟩) hHeld0 ?_
        rotate_left
        · first | (intro w hSw; (try dsimp only at hSw); go_simp; done) | (intro w hSw; (try dsimp only at hSw); go_simp; with_reducible rfl)
        (try simp only [Act.put, List.setIfInBounds_toArray, List.set_cons_zero, List.set_cons_succ])
        refine wpAnyH_take (i := 15) (oi := { dst := some 36, op := .indexAddr 24 (.tmp 32) (.tmp 35), type := 0, pos := "l6_jobs.go:151", after := #[⟨11, .data⟩, ⟨14, .data⟩, ⟨2, .guard⟩], guard := some (2, true) }) (v := ?_) rfl (by kernel_rfl) (by kernel_rfl) (by kernel_rfl) (fun _ _ _ h => h) (Or.inl ⟨by rfl, ?_⟩) hHeld0 ?_
        rotate_left
        · first | (intro w hSw; (try dsimp only at hSw); go_simp; done) | (intro w hSw; (try dsimp only at hSw); go_simp; with_reducible rfl)
        (try simp only [Act.put, List.setIfInBounds_toArray, List.set_cons_zero, List.set_cons_succ])
        refine wpAnyH_take (i := 16) (oi := { dst := some 37, op := .load 46 (.tmp 36), type := 46, pos := "l6_jobs.go:151", after := #[⟨15, .data⟩, ⟨2, .guard⟩], guard := some (2, true) }) (v := ?_) rfl (by kernel_rfl) (by kernel_rfl) (by kernel_rfl) (fun _ _ _ h => h) (Or.inl ⟨by rfl, ?_⟩) hHeld0 ?_
        rotate_left
        · first | (intro w hSw; (try dsimp only at hSw); go_simp; done) | (intro w hSw; (try dsimp only at hSw); go_simp; with_reducible rfl)
        (try simp only [Act.put, List.setIfInBounds_toArray, List.set_cons_zero, List.set_cons_succ])
        refine wpAnyH_ready (rs := [17]) (by kernel_rfl) (by simp) ?_
        refine AllReadyH.cons (o := { dst := some 38, op := .call { callee := .value (.tmp 27), args := #[.tmp 28, .tmp 37], argTypes := #[46, 46] }, type := 4, pos := "l6_jobs.go:151", after := #[⟨6, .data⟩, ⟨7, .data⟩, ⟨16, .data⟩, ⟨2, .chain⟩, ⟨2, .guard⟩], guard := some (2, true) }) rfl (fun K hK => ?_) AllReadyH.nil
        go_simp
        (go_at_call 55; refine (iBef_is _ og (by repeat (first | with_reducible exact HH.out.ord | with_reducible refine OrdAt.drewN ?_ _ | with_reducible refine OrdAt.drew ?_)) ⟨ta, tm, ne⟩ ⟨pa, pm, pe⟩ true HBF.out).mono ?_; rintro e w6 ⟨rfl, hb6⟩; have HB6 := Lib.hid (show Below w4.heap.size w4 w6 from bl_trans (by repeat (first | with_reducible exact Below.refl _ _ | with_reducible refine bl_drewN ?_ _ | with_reducible refine Below.drew ?_)) hb6); clear hb6)
        (try go_wp2_with fail)
        refine hK.out _ _ (by exact ⟨(HB6.out.cell (p := ⟨hb, 0, none⟩) hbl).trans c0, (HB6.out.cell (p := ⟨hb, 1, none⟩) hbl).trans c1, (HB6.out.cell (p := ⟨w.heap.size, 0, none⟩) hxl).trans c2, (HB6.out.cell (p := ⟨w.heap.size, 1, none⟩) hxl).trans c3, (HB6.out.cell (p := ⟨w.heap.size, 2, none⟩) hxl).trans c4, (HB6.out.cell (p := ⟨g, r * 3, none⟩) hgl).trans c5, (HB6.out.cell (p := ⟨g, r * 3 + 1, none⟩) hgl).trans c6, (HB6.out.cell (p := ⟨g, r * 3 + 2, none⟩) hgl).trans c7⟩) (fun hHeld1 => ?_)
        clear hK K
        (try simp only [Act.put, List.setIfInBounds_toArray, List.set_cons_zero, List.set_cons_succ])
        refine wpAnyH_take (i := 18) (oi := { dst := some 39, op := .pick (.tmp 23) (.tmp 38) (.const (.bool false)), type := 4, pos := "l6_jobs.go:151", after := #[⟨2, .data⟩, ⟨17, .data⟩], guard := none }) (v := ?_) rfl (by kernel_rfl) (by kernel_rfl) (by kernel_rfl) (fun _ _ _ h => h) (Or.inl ⟨by rfl, ?_⟩) hHeld1 ?_
        rotate_left
        · first | (intro w hSw; (try dsimp only at hSw); go_simp; done) | (intro w hSw; (try dsimp only at hSw); go_simp; with_reducible rfl)
        (try simp only [Act.put, List.setIfInBounds_toArray, List.set_cons_zero, List.set_cons_succ])
        refine wpAnyH_done (by kernel_rfl) ?_ _
        clear c0 c1 c2 c3 c4 c5 c6 c7
        go_wp2_with fail
        refine (iSwap_is _ B hb og hs1 (.slice (some ⟨g, 0, none⟩) (hs.length + 1) cap) (Hp.below HH.out (by repeat (first | with_reducible exact HB6.out | with_reducible refine bl_drewN ?_ _ | with_reducible refine Below.drew ?_))) q r ⟨ta, tm, ne⟩ ⟨pa, pm, pe⟩ HU.out.1 (by rw [← HRQ.out]; exact HPJ.out)).mono ?_
        rintro e w7 ⟨rfl, hh7, hg7⟩
        have HH7 := Lib.hid hh7
        have HUN : Hid (UpInv (swapL hs1 q r ⟨ta, tm, ne⟩ ⟨pa, pm, pe⟩) r ⟨ta, tm, ne⟩) := Lib.hid (by have h1 := up_step HU.out q00 HPJ.out HBF.out; rw [HRQ.out] at h1; exact h1)
        have HPN := Lib.hid ((swap_perm HU.out.1 (show hs1[r]? = some ⟨pa, pm, pe⟩ by rw [← HRQ.out]; exact HPJ.out)).trans HP.out)
        have HLN := Lib.hid (show (swapL hs1 q r ⟨ta, tm, ne⟩ ⟨pa, pm, pe⟩).length = hs.length + 1 by rw [swap_len, HL1.out])
        have BX7 : Hid (Blk w7 w.heap.size 46 #[.int .i64 ta, .int .i64 tm, .int .i64 ne]) := Lib.hid (Blk.grown (Blk.below BX.out (show Below w4.heap.size w4 _ from by repeat (first | with_reducible exact HB6.out | with_reducible refine bl_drewN ?_ _ | with_reducible refine Below.drew ?_)) hxl) hg7 (fun e => by
          have e2 : w.heap.size = g := by injection e
          rcases HATL.out with h1 | h1
          · have := HROW.out g h1; omega
          · omega))
        have HG7 : Hid (Gr2 w w7 hb (Value.slice A0 hs.length cp0).ownBlock) := Lib.hid (Gr2.trans (Gr2.trans HG.out (Gr2.of_below (row := none) (by repeat (first | with_reducible exact HB6.out | with_reducible refine bl_drewN ?_ _ | with_reducible refine Below.drew ?_))) (fun x e => by cases e)) (Gr2.of_gb hg7) (fun x e => by
          have e2 : g = x := by injection e
          subst e2
          exact HAT2.out))
        clear hh7 hg7
        go_wp2
        go_roundw
        case rel => exact ⟨r, _, by go_num, HLN.out, by omega, HH7, HUN, HPN, BX7, HG7⟩
        case measure => simp [intOf]; omega
end Go.Proofs.YtgponahmkjohiabGreatDoor
