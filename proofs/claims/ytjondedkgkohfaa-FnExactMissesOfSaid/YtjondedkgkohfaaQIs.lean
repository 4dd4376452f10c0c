/- Contracts of the program's Job.within, Task.need and Job.isOf. Nothing that was there is written. -/
import Derived.Test.YtjondedkgkohfaaQOrd
import Derived.Test.YtjondedkgkohfaaJbC
import Derived.Test.YtjondedkgkohfaaPHas
import Derived.Deep.RegionWith
namespace Go.Proofs.Ytjondedkgkohfaa
open Go.RowKit
set_option linter.unusedVariables false

def inB (j : Jb) (n m : Int) : Bool := decide (0 ≤ j.ta) && (decide (j.ta < n) && (decide (0 ≤ j.tm) && (decide (j.tm ≤ 200) && (decide (1 ≤ j.ne) && decide (j.ne ≤ m)))))
theorem inB_iff {j : Jb} {n m : Int} : inB j n m = true ↔ 0 ≤ j.ta ∧ j.ta < n ∧ 0 ≤ j.tm ∧ j.tm ≤ 200 ∧ 1 ≤ j.ne ∧ j.ne ≤ m := by unfold inB; simp
theorem inB_wr (j : Jb) : inB j 5 20 = wrB j := rfl
theorem inB_job (ts : List Tk) (j : Jb) : inB j (ts.length : Int) (tkOf ts j.ta).hi = jobB ts j := rfl

set_option maxHeartbeats 2000000 in
theorem iWithin_is (w : World) (j : Jb) (n m : Int) (b : Bool) (hb : inB j n m = b) :
    Calls Try.prog 83 #[j.val, .int .i64 n, .int .i64 m] w (BRes b w) := by
  unfold Jb.val
  obtain ⟨ta, tm, ne⟩ := j
  dsimp only
  by_cases h1 : 0 ≤ ta
  rotate_left
  · obtain rfl : b = false := by rw [← hb]; exact no_of fun hx => by have := inB_iff.1 hx; dsimp only at *; omega
    have d := decide_eq_false h1
    clear hb
    go_enter Try.func83, Try.ntmps83
    go_wp2
    (try (go_quiet (fail); go_wp2))
    go_ret
    exact ⟨rfl, (by repeat (first | exact Below.refl _ _ | refine bl_drewN ?_ _ | refine Below.drew ?_ | refine bl_alloc ?_ _))⟩
  have dh1 := decide_eq_true h1
  by_cases h2 : ta < n
  rotate_left
  · obtain rfl : b = false := by rw [← hb]; exact no_of fun hx => by have := inB_iff.1 hx; dsimp only at *; omega
    have d := decide_eq_false h2
    clear hb
    go_enter Try.func83, Try.ntmps83
    go_wp2
    (try (go_quiet (fail); go_wp2))
    go_ret
    exact ⟨rfl, (by repeat (first | exact Below.refl _ _ | refine bl_drewN ?_ _ | refine Below.drew ?_ | refine bl_alloc ?_ _))⟩
  have dh2 := decide_eq_true h2
  by_cases h3 : 0 ≤ tm
  rotate_left
  · obtain rfl : b = false := by rw [← hb]; exact no_of fun hx => by have := inB_iff.1 hx; dsimp only at *; omega
    have d := decide_eq_false h3
    clear hb
    go_enter Try.func83, Try.ntmps83
    go_wp2
    (try (go_quiet (fail); go_wp2))
    go_ret
    exact ⟨rfl, (by repeat (first | exact Below.refl _ _ | refine bl_drewN ?_ _ | refine Below.drew ?_ | refine bl_alloc ?_ _))⟩
  have dh3 := decide_eq_true h3
  by_cases h4 : tm ≤ 200
  rotate_left
  · obtain rfl : b = false := by rw [← hb]; exact no_of fun hx => by have := inB_iff.1 hx; dsimp only at *; omega
    have d := decide_eq_false h4
    clear hb
    go_enter Try.func83, Try.ntmps83
    go_wp2
    (try (go_quiet (fail); go_wp2))
    go_ret
    exact ⟨rfl, (by repeat (first | exact Below.refl _ _ | refine bl_drewN ?_ _ | refine Below.drew ?_ | refine bl_alloc ?_ _))⟩
  have dh4 := decide_eq_true h4
  by_cases h5 : 1 ≤ ne
  rotate_left
  · obtain rfl : b = false := by rw [← hb]; exact no_of fun hx => by have := inB_iff.1 hx; dsimp only at *; omega
    have d := decide_eq_false h5
    clear hb
    go_enter Try.func83, Try.ntmps83
    go_wp2
    (try (go_quiet (fail); go_wp2))
    go_ret
    exact ⟨rfl, (by repeat (first | exact Below.refl _ _ | refine bl_drewN ?_ _ | refine Below.drew ?_ | refine bl_alloc ?_ _))⟩
  have dh5 := decide_eq_true h5
  by_cases h6 : ne ≤ m
  rotate_left
  · obtain rfl : b = false := by rw [← hb]; exact no_of fun hx => by have := inB_iff.1 hx; dsimp only at *; omega
    have d := decide_eq_false h6
    clear hb
    go_enter Try.func83, Try.ntmps83
    go_wp2
    (try (go_quiet (fail); go_wp2))
    go_ret
    exact ⟨rfl, (by repeat (first | exact Below.refl _ _ | refine bl_drewN ?_ _ | refine Below.drew ?_ | refine bl_alloc ?_ _))⟩
  have dh6 := decide_eq_true h6
  obtain rfl : b = true := by rw [← hb]; exact inB_iff.2 ⟨h1, h2, h3, h4, h5, h6⟩
  clear hb
  go_enter Try.func83, Try.ntmps83
  go_wp2
  (try (go_quiet (fail); go_wp2))
  go_ret
  exact ⟨rfl, (by repeat (first | exact Below.refl _ _ | refine bl_drewN ?_ _ | refine Below.drew ?_ | refine bl_alloc ?_ _))⟩

/-- Whether a list is valid and a job is one of it. -/
def isB (ts : List Tk) (j : Jb) : Bool := setB ts && jobB ts j
set_option maxHeartbeats 2000000 in
theorem iIsOf_no (w : World) (A : Option Addr) (n c : Nat) (ts : List Tk) (h : Tks w w.heap.size A n ts) (hn : n ≤ 1048576) (j : Jb) (hb : (setB ts && (decide (0 ≤ j.ta) && decide (j.ta < (n : Int)))) = false) :
    Calls Try.prog 59 #[j.val, .slice A n c] w (BRes false w) := by
  have H := Lib.hid h
  have HV := Lib.hid hb
  clear h hb
  unfold Jb.val
  obtain ⟨ta, tm, ne⟩ := j
  dsimp only at HV
  have HBJ := Lib.hid (Blk.new w 35 #[.int .i64 ta, .int .i64 tm, .int .i64 ne])
  go_enter Try.func59, Try.ntmps59
  go_wp2_with fail
  refine wp_region_held_drew (S := (fun W => W.cell? ⟨w.heap.size, 0, none⟩ = some (.int .i64 ta) ∧ W.cell? ⟨w.heap.size, 1, none⟩ = some (.int .i64 tm) ∧ W.cell? ⟨w.heap.size, 2, none⟩ = some (.int .i64 ne))) (by kernel_rfl) (by exact ⟨HBJ.out.cell 0, HBJ.out.cell 1, HBJ.out.cell 2⟩) (fun hHeld0 => ?_)
  refine wpAnyH_take (i := 0) (oi := { dst := some 5, op := Go.Op.move (Go.Operand.tmp 1), type := 23, pos := "l6_jobs.go:36", after := #[], guard := none }) (v := ?vu1x0) rfl (by kernel_rfl) (by kernel_rfl) (by kernel_rfl) (fun _ _ _ h => h) (Or.inl ⟨by rfl, ?hyu1x0⟩) hHeld0 ?restu1x0
  case hyu1x0 => first | (intro w hSw; (try dsimp only at hSw); go_simp; done) | (intro w hSw; (try dsimp only at hSw); go_simp; with_reducible rfl)
  (try simp only [Act.put, List.setIfInBounds_toArray, List.set_cons_zero, List.set_cons_succ])
  refine wpAnyH_take (i := 1) (oi := { dst := some 6, op := Go.Op.fieldAddr 35 (Go.Operand.tmp 2) 0, type := 0, pos := "l6_jobs.go:36", after := #[], guard := none }) (v := ?vu1x1) rfl (by kernel_rfl) (by kernel_rfl) (by kernel_rfl) (fun _ _ _ h => h) (Or.inl ⟨by rfl, ?hyu1x1⟩) hHeld0 ?restu1x1
  case hyu1x1 => first | (intro w hSw; (try dsimp only at hSw); go_simp; done) | (intro w hSw; (try dsimp only at hSw); go_simp; with_reducible rfl)
  (try simp only [Act.put, List.setIfInBounds_toArray, List.set_cons_zero, List.set_cons_succ])
  refine wpAnyH_take (i := 2) (oi := { dst := some 7, op := Go.Op.load 3 (Go.Operand.tmp 6), type := 3, pos := "l6_jobs.go:36", after := #[{ on := 1, ground := Go.Ground.data }], guard := none }) (v := ?vu1x2) rfl (by kernel_rfl) (by kernel_rfl) (by kernel_rfl) (fun _ _ _ h => h) (Or.inl ⟨by rfl, ?hyu1x2⟩) hHeld0 ?restu1x2
  case hyu1x2 => first | (intro w hSw; (try dsimp only at hSw); go_simp; done) | (intro w hSw; (try dsimp only at hSw); go_simp; with_reducible rfl)
  (try simp only [Act.put, List.setIfInBounds_toArray, List.set_cons_zero, List.set_cons_succ])
  refine wpAnyH_ready (rs := [3]) (by kernel_rfl) (by simp) ?_
  refine AllReadyH.cons (o := { dst := some 8, op := Go.Op.call { callee := Go.Callee.value (Go.Operand.func 82), args := #[Go.Operand.tmp 5, Go.Operand.tmp 7], argTypes := #[23, 3] }, type := 4, pos := "l6_jobs.go:36", after := #[{ on := 0, ground := Go.Ground.data }, { on := 2, ground := Go.Ground.data }], guard := none }) rfl (fun K hK => ?_) AllReadyH.nil
  go_simp
  (go_at_call 82; refine (iHas5_is _ A n c ts ta ((H.out.below (by repeat (first | exact Below.refl _ _ | with_reducible refine Below.drew ?_ | with_reducible refine bl_drewN ?_ _ | with_reducible refine bl_alloc ?_ _))).more (by simp)) hn false HV.out).mono ?_; rintro e w2 ⟨rfl, hb2⟩; have HB2 := Lib.hid (show Below w.heap.size w w2 from bl_trans (by repeat (first | exact Below.refl _ _ | with_reducible refine Below.drew ?_ | with_reducible refine bl_drewN ?_ _ | with_reducible refine bl_alloc ?_ _)) hb2); have HBJ2 := Lib.hid (HBJ.out.below (show Below (w.alloc (.cells #[.int .i64 ta, .int .i64 tm, .int .i64 ne] 35)).heap.size (w.alloc (.cells #[.int .i64 ta, .int .i64 tm, .int .i64 ne] 35)) w2 from bl_trans (by repeat (first | exact Below.refl _ _ | with_reducible refine Below.drew ?_ | with_reducible refine bl_drewN ?_ _ | with_reducible refine bl_alloc ?_ _)) hb2) HBJ.out.lt); clear hb2)
  (try go_wp2_with fail)
  refine hK.out _ _ (by exact ⟨HBJ2.out.cell 0, HBJ2.out.cell 1, HBJ2.out.cell 2⟩) (fun hHeld1 => ?_)
  clear hK K
  (try simp only [Act.put, List.setIfInBounds_toArray, List.set_cons_zero, List.set_cons_succ])
  refine wpAnyH_take (i := 4) (oi := { dst := some 9, op := Go.Op.move (Go.Operand.tmp 8), type := 4, pos := "l6_jobs.go:36", after := #[{ on := 3, ground := Go.Ground.data }, { on := 3, ground := Go.Ground.chain }], guard := none }) (v := ?vu1x4) rfl (by kernel_rfl) (by kernel_rfl) (by kernel_rfl) (fun _ _ _ h => h) (Or.inl ⟨by rfl, ?hyu1x4⟩) hHeld1 ?restu1x4
  case hyu1x4 => first | (intro w hSw; (try dsimp only at hSw); go_simp; done) | (intro w hSw; (try dsimp only at hSw); go_simp; with_reducible rfl)
  (try simp only [Act.put, List.setIfInBounds_toArray, List.set_cons_zero, List.set_cons_succ])
  refine wpAnyH_take (i := 5) (oi := { dst := some 10, op := Go.Op.load 35 (Go.Operand.tmp 2), type := 35, pos := "l6_jobs.go:36", after := #[{ on := 4, ground := Go.Ground.guard }], guard := some (4, true) }) (v := undef) rfl (by kernel_rfl) (by kernel_rfl) (by kernel_rfl) (fun _ _ _ h => h) (Or.inr ⟨by rfl, by rfl⟩) hHeld1 ?_
  (try simp only [Act.put, List.setIfInBounds_toArray, List.set_cons_zero, List.set_cons_succ])
  refine wpAnyH_take (i := 6) (oi := { dst := some 11, op := Go.Op.move (Go.Operand.tmp 1), type := 23, pos := "l6_jobs.go:36", after := #[{ on := 4, ground := Go.Ground.guard }], guard := some (4, true) }) (v := undef) rfl (by kernel_rfl) (by kernel_rfl) (by kernel_rfl) (fun _ _ _ h => h) (Or.inr ⟨by rfl, by rfl⟩) hHeld1 ?_
  (try simp only [Act.put, List.setIfInBounds_toArray, List.set_cons_zero, List.set_cons_succ])
  refine wpAnyH_take (i := 7) (oi := { dst := some 12, op := Go.Op.call { callee := Go.Callee.builtin Go.Builtin.len, args := #[Go.Operand.tmp 11], argTypes := #[23] }, type := 3, pos := "l6_jobs.go:36", after := #[{ on := 6, ground := Go.Ground.data }, { on := 4, ground := Go.Ground.guard }], guard := some (4, true) }) (v := undef) rfl (by kernel_rfl) (by kernel_rfl) (by kernel_rfl) (fun _ _ _ h => h) (Or.inr ⟨by rfl, by rfl⟩) hHeld1 ?_
  (try simp only [Act.put, List.setIfInBounds_toArray, List.set_cons_zero, List.set_cons_succ])
  refine wpAnyH_take (i := 8) (oi := { dst := some 13, op := Go.Op.move (Go.Operand.tmp 1), type := 23, pos := "l6_jobs.go:36", after := #[{ on := 4, ground := Go.Ground.guard }], guard := some (4, true) }) (v := undef) rfl (by kernel_rfl) (by kernel_rfl) (by kernel_rfl) (fun _ _ _ h => h) (Or.inr ⟨by rfl, by rfl⟩) hHeld1 ?_
  (try simp only [Act.put, List.setIfInBounds_toArray, List.set_cons_zero, List.set_cons_succ])
  refine wpAnyH_take (i := 9) (oi := { dst := some 14, op := Go.Op.fieldAddr 35 (Go.Operand.tmp 2) 0, type := 0, pos := "l6_jobs.go:36", after := #[{ on := 4, ground := Go.Ground.guard }], guard := some (4, true) }) (v := undef) rfl (by kernel_rfl) (by kernel_rfl) (by kernel_rfl) (fun _ _ _ h => h) (Or.inr ⟨by rfl, by rfl⟩) hHeld1 ?_
  (try simp only [Act.put, List.setIfInBounds_toArray, List.set_cons_zero, List.set_cons_succ])
  refine wpAnyH_take (i := 10) (oi := { dst := some 15, op := Go.Op.load 3 (Go.Operand.tmp 14), type := 3, pos := "l6_jobs.go:36", after := #[{ on := 9, ground := Go.Ground.data }, { on := 4, ground := Go.Ground.guard }], guard := some (4, true) }) (v := undef) rfl (by kernel_rfl) (by kernel_rfl) (by kernel_rfl) (fun _ _ _ h => h) (Or.inr ⟨by rfl, by rfl⟩) hHeld1 ?_
  (try simp only [Act.put, List.setIfInBounds_toArray, List.set_cons_zero, List.set_cons_succ])
  refine wpAnyH_take (i := 11) (oi := { dst := some 16, op := Go.Op.indexAddr 23 (Go.Operand.tmp 13) (Go.Operand.tmp 15), type := 0, pos := "l6_jobs.go:36", after := #[{ on := 8, ground := Go.Ground.data }, { on := 10, ground := Go.Ground.data }, { on := 4, ground := Go.Ground.guard }], guard := some (4, true) }) (v := undef) rfl (by kernel_rfl) (by kernel_rfl) (by kernel_rfl) (fun _ _ _ h => h) (Or.inr ⟨by rfl, by rfl⟩) hHeld1 ?_
  (try simp only [Act.put, List.setIfInBounds_toArray, List.set_cons_zero, List.set_cons_succ])
  refine wpAnyH_take (i := 12) (oi := { dst := some 17, op := Go.Op.fieldAddr 73 (Go.Operand.tmp 16) 1, type := 0, pos := "l6_jobs.go:36", after := #[{ on := 11, ground := Go.Ground.data }, { on := 4, ground := Go.Ground.guard }], guard := some (4, true) }) (v := undef) rfl (by kernel_rfl) (by kernel_rfl) (by kernel_rfl) (fun _ _ _ h => h) (Or.inr ⟨by rfl, by rfl⟩) hHeld1 ?_
  (try simp only [Act.put, List.setIfInBounds_toArray, List.set_cons_zero, List.set_cons_succ])
  refine wpAnyH_take (i := 13) (oi := { dst := some 18, op := Go.Op.load 3 (Go.Operand.tmp 17), type := 3, pos := "l6_jobs.go:36", after := #[{ on := 12, ground := Go.Ground.data }, { on := 4, ground := Go.Ground.guard }], guard := some (4, true) }) (v := undef) rfl (by kernel_rfl) (by kernel_rfl) (by kernel_rfl) (fun _ _ _ h => h) (Or.inr ⟨by rfl, by rfl⟩) hHeld1 ?_
  (try simp only [Act.put, List.setIfInBounds_toArray, List.set_cons_zero, List.set_cons_succ])
  refine wpAnyH_take (i := 14) (oi := { dst := some 19, op := Go.Op.call { callee := Go.Callee.value (Go.Operand.func 83), args := #[Go.Operand.tmp 10, Go.Operand.tmp 12, Go.Operand.tmp 18], argTypes := #[35, 3, 3] }, type := 4, pos := "l6_jobs.go:36", after := #[{ on := 5, ground := Go.Ground.data }, { on := 7, ground := Go.Ground.data }, { on := 13, ground := Go.Ground.data }, { on := 4, ground := Go.Ground.chain }, { on := 4, ground := Go.Ground.guard }], guard := some (4, true) }) (v := undef) rfl (by kernel_rfl) (by kernel_rfl) (by kernel_rfl) (fun _ _ _ h => h) (Or.inr ⟨by rfl, by rfl⟩) hHeld1 ?_
  (try simp only [Act.put, List.setIfInBounds_toArray, List.set_cons_zero, List.set_cons_succ])
  refine wpAnyH_take (i := 15) (oi := { dst := some 20, op := Go.Op.pick (Go.Operand.tmp 9) (Go.Operand.tmp 19) (Go.Operand.const (Go.Value.bool false)), type := 4, pos := "l6_jobs.go:36", after := #[{ on := 4, ground := Go.Ground.data }, { on := 14, ground := Go.Ground.data }], guard := none }) (v := ?vu1x15) rfl (by kernel_rfl) (by kernel_rfl) (by kernel_rfl) (fun _ _ _ h => h) (Or.inl ⟨by rfl, ?hyu1x15⟩) hHeld1 ?restu1x15
  case hyu1x15 => first | (intro w hSw; (try dsimp only at hSw); go_simp; done) | (intro w hSw; (try dsimp only at hSw); go_simp; with_reducible rfl)
  (try simp only [Act.put, List.setIfInBounds_toArray, List.set_cons_zero, List.set_cons_succ])
  refine wpAnyH_take (i := 16) (oi := { dst := some 4, op := Go.Op.assign (Go.Operand.tmp 20), type := 4, pos := "l6_jobs.go:36", after := #[{ on := 15, ground := Go.Ground.data }, { on := 14, ground := Go.Ground.chain }, { on := 0, ground := Go.Ground.phase }, { on := 1, ground := Go.Ground.phase }, { on := 2, ground := Go.Ground.phase }, { on := 3, ground := Go.Ground.phase }, { on := 4, ground := Go.Ground.phase }, { on := 5, ground := Go.Ground.phase }, { on := 6, ground := Go.Ground.phase }, { on := 7, ground := Go.Ground.phase }, { on := 8, ground := Go.Ground.phase }, { on := 9, ground := Go.Ground.phase }, { on := 10, ground := Go.Ground.phase }, { on := 11, ground := Go.Ground.phase }, { on := 12, ground := Go.Ground.phase }, { on := 13, ground := Go.Ground.phase }, { on := 14, ground := Go.Ground.phase }, { on := 15, ground := Go.Ground.phase }], guard := none }) (v := ?vu1x16) rfl (by kernel_rfl) (by kernel_rfl) (by kernel_rfl) (fun _ _ _ h => h) (Or.inl ⟨by rfl, ?hyu1x16⟩) hHeld1 ?restu1x16
  case hyu1x16 => first | (intro w hSw; (try dsimp only at hSw); go_simp; done) | (intro w hSw; (try dsimp only at hSw); go_simp; with_reducible rfl)
  (try simp only [Act.put, List.setIfInBounds_toArray, List.set_cons_zero, List.set_cons_succ])
  refine wpAnyH_done (by kernel_rfl) ?_ _
  (try go_wp2)
  go_ret
  exact ⟨rfl, (by repeat (first | with_reducible exact HB2.out | with_reducible refine Below.drew ?_ | with_reducible refine bl_drewN ?_ _ | with_reducible refine bl_alloc ?_ _))⟩
set_option maxHeartbeats 2000000 in
theorem iIsOf_yes (w : World) (A : Option Addr) (n c : Nat) (ts : List Tk) (h : Tks w w.heap.size A n ts) (hn : n ≤ 1048576) (hs : setB ts = true) (k : Nat) (t : Tk) (ht : ts[k]? = some t) (tm ne : Int) (b : Bool) (hb : inB ⟨(k : Int), tm, ne⟩ (n : Int) t.hi = b) :
    Calls Try.prog 59 #[.agg #[.int .i64 (k : Int), .int .i64 tm, .int .i64 ne], .slice A n c] w (BRes b w) := by
  have hk : k < n := by have := (List.getElem?_eq_some_iff.1 ht).1; rw [h.len] at this; exact this
  have HV := Lib.hid (show (setB ts && (decide (0 ≤ (k : Int)) && decide ((k : Int) < (n : Int)))) = true by rw [hs, decide_eq_true (by omega), decide_eq_true (by omega)]; rfl)
  have HC := Lib.hid (fun W : World => iWithin_is W ⟨(k : Int), tm, ne⟩ (n : Int) t.hi b hb)
  unfold Jb.val at HC
  dsimp only at HC
  obtain ⟨bb, o, rfl, hbl, c0, c1, c2, c3, c4⟩ := h.at_ k t ht
  have H := Lib.hid h
  obtain ⟨lo, hi, du, ev, cr⟩ := t
  dsimp only at c0 c1 c2 c3 c4 HC
  clear h hs hb ht c0 c2 c3 c4
  have i1 : (0 : Int) ≤ (k : Int) := by omega
  have i2 : (k : Int) < (n : Int) := by omega
  have hne : bb ≠ w.heap.size := Nat.ne_of_lt hbl
  have HBJ := Lib.hid (Blk.new w 35 #[.int .i64 (k : Int), .int .i64 tm, .int .i64 ne])
  have p0 := HBJ.out.cell 0
  have p1 := HBJ.out.cell 1
  have p2 := HBJ.out.cell 2
  have c1a := fun o' => (World.cell?_alloc_lt w o' ⟨bb, o + k * 5 + 1, none⟩ hbl).trans c1
  go_enter Try.func59, Try.ntmps59
  go_wp2
  go_region_held3 (fun W => W.cell? ⟨w.heap.size, 0, none⟩ = some (.int .i64 (k : Int)) ∧ W.cell? ⟨w.heap.size, 1, none⟩ = some (.int .i64 tm) ∧ W.cell? ⟨w.heap.size, 2, none⟩ = some (.int .i64 ne) ∧ W.cell? ⟨bb, o + k * 5 + 1, none⟩ = some (.int .i64 hi)) (first | assumption | (simp [go_sem, *]; done))
    ((first
      | (go_at_call 82; refine (iHas5_is _ (some ⟨bb, o, none⟩) n c ts (k : Int) ((H.out.below (by repeat (first | exact Below.refl _ _ | with_reducible refine Below.drew ?_ | with_reducible refine bl_drewN ?_ _ | with_reducible refine bl_alloc ?_ _))).more (by simp)) hn true HV.out).mono ?_; rintro e w2 ⟨rfl, hb2⟩; have HB2 := Lib.hid (show Below w.heap.size w w2 from bl_trans (by repeat (first | exact Below.refl _ _ | with_reducible refine Below.drew ?_ | with_reducible refine bl_drewN ?_ _ | with_reducible refine bl_alloc ?_ _)) hb2); have HBJ2 := Lib.hid (HBJ.out.below (show Below (w.alloc (.cells #[.int .i64 (k : Int), .int .i64 tm, .int .i64 ne] 35)).heap.size (w.alloc (.cells #[.int .i64 (k : Int), .int .i64 tm, .int .i64 ne] 35)) w2 from bl_trans (by repeat (first | exact Below.refl _ _ | with_reducible refine Below.drew ?_ | with_reducible refine bl_drewN ?_ _ | with_reducible refine bl_alloc ?_ _)) hb2) HBJ.out.lt); have q0 := HBJ2.out.cell 0; have q1 := HBJ2.out.cell 1; have q2 := HBJ2.out.cell 2; have q3 := (HB2.out.cell (p := ⟨bb, o + k * 5 + 1, none⟩) hbl).trans c1; clear hb2 p0 p1 p2 c1a)
      | (go_at_call 83; refine (HC.out _).mono ?_; rintro e w3 ⟨rfl, hb3⟩; have HB3 := Lib.hid (show Below w.heap.size w w3 from bl_trans (by repeat (first | with_reducible exact HB2.out | with_reducible refine Below.drew ?_ | with_reducible refine bl_drewN ?_ _ | with_reducible refine bl_alloc ?_ _)) hb3); have HBJ3 := Lib.hid (show Blk w3 w.heap.size 35 #[.int .i64 (k : Int), .int .i64 tm, .int .i64 ne] from HBJ2.out.below (bl_trans (by repeat (first | exact Below.refl _ _ | with_reducible refine Below.drew ?_ | with_reducible refine bl_drewN ?_ _ | with_reducible refine bl_alloc ?_ _)) hb3) HBJ2.out.lt); have s0 := HBJ3.out.cell 0; have s1 := HBJ3.out.cell 1; have s2 := HBJ3.out.cell 2; have s3 := (HB3.out.cell (p := ⟨bb, o + k * 5 + 1, none⟩) hbl).trans c1; clear hb3 q0 q1 q2 q3)))
  all_goals (try go_wp2)
  all_goals go_ret
  all_goals exact ⟨rfl, (by repeat (first | with_reducible exact HB3.out | with_reducible refine Below.drew ?_ | with_reducible refine bl_drewN ?_ _ | with_reducible refine bl_alloc ?_ _))⟩
theorem iIsOf_is (w : World) (A : Option Addr) (n c : Nat) (ts : List Tk) (h : Tks w w.heap.size A n ts) (hn : n ≤ 1048576) (j : Jb) (b : Bool) (hb : isB ts j = b) :
    Calls Try.prog 59 #[j.val, .slice A n c] w (BRes b w) := by
  cases hv : setB ts && (decide (0 ≤ j.ta) && decide (j.ta < (n : Int)))
  · obtain rfl : b = false := by
      rw [← hb]
      unfold isB jobB
      rw [h.len]
      cases hs : setB ts
      · rfl
      · rw [hs, Bool.true_and] at hv
        rw [Bool.true_and, ← Bool.and_assoc, hv]
        rfl
    exact iIsOf_no w A n c ts h hn j hv
  · rw [Bool.and_eq_true, Bool.and_eq_true, decide_eq_true_iff, decide_eq_true_iff] at hv
    obtain ⟨hs, h1, h2⟩ := hv
    obtain ⟨k, t, hk, hkl, ht, htk⟩ := tk_get h1 (by rw [h.len]; exact h2)
    obtain ⟨ta, tm, ne⟩ := j
    dsimp only at hk htk
    subst hk
    refine iIsOf_yes w A n c ts h hn hs k t ht tm ne b ?_
    rw [← hb]
    unfold isB
    rw [hs, Bool.true_and, ← inB_job, h.len]
    dsimp only
    rw [htk]

end Go.Proofs.Ytjondedkgkohfaa
