/- Contract of the program's JobsValid. Nothing that was there is written. -/
import Derived.Test.YtjondedkgkohfaaQKeep
import Derived.Test.YtjondedkgkohfaaQIs
import Derived.Deep.RegionHeld3
namespace Go.Proofs.Ytjondedkgkohfaa
open Go.RowKit
set_option linter.unusedVariables false

set_option maxRecDepth 100000 in
set_option maxHeartbeats 8000000 in
theorem iJobs_is (w : World) (A : Option Addr) (n c : Nat) (ts : List Tk) (h : Tks w w.heap.size A n ts) (hn : n ≤ 1048576) (A2 : Option Addr) (m c2 : Nat) (js : List Jb) (h2 : Jbs w w.heap.size A2 m js) (b : Bool) (hb : jobsB ts js = b) :
    Calls Try.prog 55 #[.slice A n c, .slice A2 m c2] w (BRes b w) := by
  have H := Lib.hid h
  have HL := Lib.hid h.len
  have J := Lib.hid h2
  have HM := Lib.hid h2.len
  clear h h2
  cases hs : setB ts
  · obtain rfl : b = false := by rw [← hb]; unfold jobsB; rw [hs]; rfl
    have HS := Lib.hid hs
    clear hs hb
    go_enter Try.func55, Try.ntmps55
    go_wp2_with fail
    refine (iSetValid_any _ A n c ts H.out hn).mono ?_
    rintro e w1 ⟨rfl, hb⟩
    rw [HS.out]
    go_wp2
    go_ret
    exact ⟨rfl, hb⟩
  have HS := Lib.hid hs
  clear hs
  by_cases h60 : 60 < m
  · obtain rfl : b = false := by rw [← hb]; exact no_of fun hx => by have := jobs_len hx; have := HM.out; omega
    have d1 : (60 : Int) < (m : Int) := by omega
    clear hb
    go_enter Try.func55, Try.ntmps55
    go_wp2_with fail
    refine (iSetValid_any _ A n c ts H.out hn).mono ?_
    rintro e w1 ⟨rfl, hb⟩
    rw [HS.out]
    go_wp2
    go_ret
    exact ⟨rfl, hb⟩
  have d1 : ¬ (60 : Int) < (m : Int) := by omega
  have HR := Lib.hid hb
  clear hb
  go_enter Try.func55, Try.ntmps55
  go_wp2_with fail
  refine (iSetValid_any _ A n c ts H.out hn).mono ?_
  rintro e w1 ⟨rfl, hb⟩
  rw [HS.out]
  have HB1 := Lib.hid hb
  clear hb
  go_wp2_with fail
  refine (iOrder_is _).mono ?_
  rintro e w2 ⟨g, rfl, hor, hge, hb⟩
  have HB2 := Lib.hid (show Below w.heap.size w w2 from bl_trans HB1.out hb)
  have HOR2 := Lib.hid hor
  clear hb hor hge
  go_wp2
  go_loopw [19] (fun i wr => ∃ q : Nat, q ≤ m ∧ i = .int .i64 q ∧ Hid (seqB ts (js.take q) = true) ∧ Hid (OrdAt wr g) ∧ Hid (Below w.heap.size w wr)) (fun i _ => m - (intOf i).toNat)
  case atStart => exact ⟨0, Nat.zero_le _, rfl, Lib.hid rfl, HOR2, HB2⟩
  case round =>
    obtain ⟨q, hq, rfl, HP, HOR, HB⟩ := hrel
    obtain ⟨w4, hw4⟩ : ∃ W, W = wr := ⟨_, rfl⟩
    subst hw4
    clear HOR2 HB2
    by_cases hqm : q < m
    · have q2 : (q : Int) < (m : Int) := by omega
      obtain ⟨j, hj⟩ : ∃ j, js[q]? = some j := ⟨js[q]'(by rw [HM.out]; exact hqm), List.getElem?_eq_getElem _⟩
      obtain ⟨bj, oj, rfl, hbj, a0, a1, a2⟩ := (J.out.below HB.out).at_ q j hj
      have hbj4 : bj < w4.heap.size := by have := HB.out.size; omega
      have HJ := Lib.hid hj
      have HSTEP := Lib.hid (seq_step hj HP.out)
      clear hj
      obtain ⟨ta, tm, ne⟩ := j
      dsimp only at a0 a1 a2
      cases hjb : isB ts ⟨ta, tm, ne⟩
      · have HJB := Lib.hid hjb
        obtain rfl : b = false := by
          rw [← HR.out]
          refine seq_bad HJ.out HP.out ?_
          unfold isB at hjb
          rw [HS.out, Bool.true_and] at hjb
          rw [hjb]; rfl
        clear hjb
        go_wp2_with fail
        have s0 := (Blk.new w4 35 #[.int .i64 ta, .int .i64 tm, .int .i64 ne]).cell 0
        have s1 := (Blk.new w4 35 #[.int .i64 ta, .int .i64 tm, .int .i64 ne]).cell 1
        have s2 := (Blk.new w4 35 #[.int .i64 ta, .int .i64 tm, .int .i64 ne]).cell 2
        have HW5 := Lib.hid (show Below w.heap.size w (w4.alloc (.cells #[.int .i64 ta, .int .i64 tm, .int .i64 ne] 35)) from bl_alloc HB.out _)
        have HO5 := Lib.hid (HOR.out.alloc (.cells #[.int .i64 ta, .int .i64 tm, .int .i64 ne] 35))
        have hz5 : w4.heap.size < (w4.alloc (.cells #[.int .i64 ta, .int .i64 tm, .int .i64 ne] 35)).heap.size := by simp
        generalize (w4.alloc (.cells #[.int .i64 ta, .int .i64 tm, .int .i64 ne] 35)) = w5 at *
        refine wp_region_held_drew (S := (fun W => W.cell? ⟨w4.heap.size, 0, none⟩ = some (.int .i64 ta) ∧ W.cell? ⟨w4.heap.size, 1, none⟩ = some (.int .i64 tm) ∧ W.cell? ⟨w4.heap.size, 2, none⟩ = some (.int .i64 ne))) (by kernel_rfl) (by exact ⟨s0, s1, s2⟩) (fun hHeld0 => ?_)
        refine wpAnyH_take (i := 0) (oi := { dst := some 24, op := Go.Op.load 35 (Go.Operand.tmp 7), type := 35, pos := "l6_jobs.go:65", after := #[], guard := none }) (v := ?vu1x0) rfl (by kernel_rfl) (by kernel_rfl) (by kernel_rfl) (fun _ _ _ h => h) (Or.inl ⟨by rfl, ?hyu1x0⟩) hHeld0 ?restu1x0
        case hyu1x0 => first | (intro w hSw; (try dsimp only at hSw); go_simp; done) | (intro w hSw; (try dsimp only at hSw); go_simp; with_reducible rfl)
        (try simp only [Act.put, List.setIfInBounds_toArray, List.set_cons_zero, List.set_cons_succ])
        refine wpAnyH_take (i := 1) (oi := { dst := some 25, op := Go.Op.move (Go.Operand.tmp 0), type := 23, pos := "l6_jobs.go:65", after := #[], guard := none }) (v := ?vu1x1) rfl (by kernel_rfl) (by kernel_rfl) (by kernel_rfl) (fun _ _ _ h => h) (Or.inl ⟨by rfl, ?hyu1x1⟩) hHeld0 ?restu1x1
        case hyu1x1 => first | (intro w hSw; (try dsimp only at hSw); go_simp; done) | (intro w hSw; (try dsimp only at hSw); go_simp; with_reducible rfl)
        (try simp only [Act.put, List.setIfInBounds_toArray, List.set_cons_zero, List.set_cons_succ])
        refine wpAnyH_ready (rs := [2]) (by kernel_rfl) (by simp) ?_
        refine AllReadyH.cons (o := { dst := some 26, op := Go.Op.call { callee := Go.Callee.value (Go.Operand.func 59), args := #[Go.Operand.tmp 24, Go.Operand.tmp 25], argTypes := #[35, 23] }, type := 4, pos := "l6_jobs.go:65", after := #[{ on := 0, ground := Go.Ground.data }, { on := 1, ground := Go.Ground.data }], guard := none }) rfl (fun K hK => ?_) AllReadyH.nil
        go_simp
        (go_at_call 59; refine (iIsOf_is _ A n c ts ((H.out.below ((by repeat (first | with_reducible exact HW5.out | with_reducible refine Below.drew ?_ | with_reducible refine bl_drewN ?_ _ | with_reducible refine bl_alloc ?_ _)) : Below w.heap.size w _)).more (Below.size ((by repeat (first | with_reducible exact HW5.out | with_reducible refine Below.drew ?_ | with_reducible refine bl_drewN ?_ _ | with_reducible refine bl_alloc ?_ _)) : Below w.heap.size w _))) hn ⟨ta, tm, ne⟩ false HJB.out).mono ?_; rintro e w6 ⟨rfl, hb⟩; have HB6 := Lib.hid (show Below w5.heap.size w5 w6 from bl_trans (by repeat (first | with_reducible exact Below.refl _ _ | with_reducible refine bl_drewN ?_ _ | with_reducible refine Below.drew ?_)) hb); clear hb)
        (try go_wp2_with fail)
        refine hK.out _ _ (by exact ⟨(HB6.out.cell (p := ⟨w4.heap.size, 0, none⟩) hz5).trans s0, (HB6.out.cell (p := ⟨w4.heap.size, 1, none⟩) hz5).trans s1, (HB6.out.cell (p := ⟨w4.heap.size, 2, none⟩) hz5).trans s2⟩) (fun hHeld1 => ?_)
        clear hK K
        (try simp only [Act.put, List.setIfInBounds_toArray, List.set_cons_zero, List.set_cons_succ])
        refine wpAnyH_take (i := 3) (oi := { dst := some 27, op := Go.Op.unOp Go.UnOp.not 4 (Go.Operand.tmp 26), type := 4, pos := "l6_jobs.go:65", after := #[{ on := 2, ground := Go.Ground.data }], guard := none }) (v := ?vu1x3) rfl (by kernel_rfl) (by kernel_rfl) (by kernel_rfl) (fun _ _ _ h => h) (Or.inl ⟨by rfl, ?hyu1x3⟩) hHeld1 ?restu1x3
        case hyu1x3 => first | (intro w hSw; (try dsimp only at hSw); go_simp; done) | (intro w hSw; (try dsimp only at hSw); go_simp; with_reducible rfl)
        (try simp only [Act.put, List.setIfInBounds_toArray, List.set_cons_zero, List.set_cons_succ])
        refine wpAnyH_take (i := 4) (oi := { dst := some 28, op := Go.Op.move (Go.Operand.tmp 27), type := 4, pos := "l6_jobs.go:65", after := #[{ on := 3, ground := Go.Ground.data }, { on := 2, ground := Go.Ground.chain }], guard := none }) (v := ?vu1x4) rfl (by kernel_rfl) (by kernel_rfl) (by kernel_rfl) (fun _ _ _ h => h) (Or.inl ⟨by rfl, ?hyu1x4⟩) hHeld1 ?restu1x4
        case hyu1x4 => first | (intro w hSw; (try dsimp only at hSw); go_simp; done) | (intro w hSw; (try dsimp only at hSw); go_simp; with_reducible rfl)
        (try simp only [Act.put, List.setIfInBounds_toArray, List.set_cons_zero, List.set_cons_succ])
        refine wpAnyH_take (i := 5) (oi := { dst := some 29, op := Go.Op.move (Go.Operand.tmp 6), type := 3, pos := "l6_jobs.go:65", after := #[{ on := 4, ground := Go.Ground.guard }], guard := some (4, false) }) (v := undef) rfl (by kernel_rfl) (by kernel_rfl) (by kernel_rfl) (fun _ _ _ h => h) (Or.inr ⟨by rfl, by rfl⟩) hHeld1 ?_
        (try simp only [Act.put, List.setIfInBounds_toArray, List.set_cons_zero, List.set_cons_succ])
        refine wpAnyH_take (i := 6) (oi := { dst := some 30, op := Go.Op.binOp Go.BinOp.gtr 3 (Go.Operand.tmp 29) (Go.Operand.const (Go.Value.int Go.IntKind.i64 0)) 3, type := 4, pos := "l6_jobs.go:65", after := #[{ on := 5, ground := Go.Ground.data }, { on := 4, ground := Go.Ground.guard }], guard := some (4, false) }) (v := undef) rfl (by kernel_rfl) (by kernel_rfl) (by kernel_rfl) (fun _ _ _ h => h) (Or.inr ⟨by rfl, by rfl⟩) hHeld1 ?_
        (try simp only [Act.put, List.setIfInBounds_toArray, List.set_cons_zero, List.set_cons_succ])
        refine wpAnyH_take (i := 7) (oi := { dst := some 31, op := Go.Op.move (Go.Operand.tmp 30), type := 4, pos := "l6_jobs.go:65", after := #[{ on := 6, ground := Go.Ground.data }, { on := 4, ground := Go.Ground.chain }, { on := 4, ground := Go.Ground.guard }], guard := some (4, false) }) (v := undef) rfl (by kernel_rfl) (by kernel_rfl) (by kernel_rfl) (fun _ _ _ h => h) (Or.inr ⟨by rfl, by rfl⟩) hHeld1 ?_
        (try simp only [Act.put, List.setIfInBounds_toArray, List.set_cons_zero, List.set_cons_succ])
        refine wpAnyH_take (i := 8) (oi := { dst := some 32, op := Go.Op.move (Go.Operand.tmp 5), type := 93, pos := "l6_jobs.go:65", after := #[{ on := 7, ground := Go.Ground.guard }], guard := some (7, true) }) (v := undef) rfl (by kernel_rfl) (by kernel_rfl) (by kernel_rfl) (fun _ _ _ h => h) (Or.inr ⟨by rfl, by rfl⟩) hHeld1 ?_
        (try simp only [Act.put, List.setIfInBounds_toArray, List.set_cons_zero, List.set_cons_succ])
        refine wpAnyH_take (i := 9) (oi := { dst := some 33, op := Go.Op.move (Go.Operand.tmp 1), type := 24, pos := "l6_jobs.go:65", after := #[{ on := 7, ground := Go.Ground.guard }], guard := some (7, true) }) (v := undef) rfl (by kernel_rfl) (by kernel_rfl) (by kernel_rfl) (fun _ _ _ h => h) (Or.inr ⟨by rfl, by rfl⟩) hHeld1 ?_
        (try simp only [Act.put, List.setIfInBounds_toArray, List.set_cons_zero, List.set_cons_succ])
        refine wpAnyH_take (i := 10) (oi := { dst := some 34, op := Go.Op.move (Go.Operand.tmp 6), type := 3, pos := "l6_jobs.go:65", after := #[{ on := 7, ground := Go.Ground.guard }], guard := some (7, true) }) (v := undef) rfl (by kernel_rfl) (by kernel_rfl) (by kernel_rfl) (fun _ _ _ h => h) (Or.inr ⟨by rfl, by rfl⟩) hHeld1 ?_
        (try simp only [Act.put, List.setIfInBounds_toArray, List.set_cons_zero, List.set_cons_succ])
        refine wpAnyH_take (i := 11) (oi := { dst := some 35, op := Go.Op.binOp Go.BinOp.sub 3 (Go.Operand.tmp 34) (Go.Operand.const (Go.Value.int Go.IntKind.i64 1)) 3, type := 3, pos := "l6_jobs.go:65", after := #[{ on := 10, ground := Go.Ground.data }, { on := 7, ground := Go.Ground.guard }], guard := some (7, true) }) (v := undef) rfl (by kernel_rfl) (by kernel_rfl) (by kernel_rfl) (fun _ _ _ h => h) (Or.inr ⟨by rfl, by rfl⟩) hHeld1 ?_
        (try simp only [Act.put, List.setIfInBounds_toArray, List.set_cons_zero, List.set_cons_succ])
        refine wpAnyH_take (i := 12) (oi := { dst := some 36, op := Go.Op.indexAddr 24 (Go.Operand.tmp 33) (Go.Operand.tmp 35), type := 0, pos := "l6_jobs.go:65", after := #[{ on := 9, ground := Go.Ground.data }, { on := 11, ground := Go.Ground.data }, { on := 7, ground := Go.Ground.guard }], guard := some (7, true) }) (v := undef) rfl (by kernel_rfl) (by kernel_rfl) (by kernel_rfl) (fun _ _ _ h => h) (Or.inr ⟨by rfl, by rfl⟩) hHeld1 ?_
        (try simp only [Act.put, List.setIfInBounds_toArray, List.set_cons_zero, List.set_cons_succ])
        refine wpAnyH_take (i := 13) (oi := { dst := some 37, op := Go.Op.load 35 (Go.Operand.tmp 36), type := 35, pos := "l6_jobs.go:65", after := #[{ on := 12, ground := Go.Ground.data }, { on := 7, ground := Go.Ground.guard }], guard := some (7, true) }) (v := undef) rfl (by kernel_rfl) (by kernel_rfl) (by kernel_rfl) (fun _ _ _ h => h) (Or.inr ⟨by rfl, by rfl⟩) hHeld1 ?_
        (try simp only [Act.put, List.setIfInBounds_toArray, List.set_cons_zero, List.set_cons_succ])
        refine wpAnyH_take (i := 14) (oi := { dst := some 38, op := Go.Op.load 35 (Go.Operand.tmp 7), type := 35, pos := "l6_jobs.go:65", after := #[{ on := 7, ground := Go.Ground.guard }], guard := some (7, true) }) (v := undef) rfl (by kernel_rfl) (by kernel_rfl) (by kernel_rfl) (fun _ _ _ h => h) (Or.inr ⟨by rfl, by rfl⟩) hHeld1 ?_
        (try simp only [Act.put, List.setIfInBounds_toArray, List.set_cons_zero, List.set_cons_succ])
        refine wpAnyH_take (i := 15) (oi := { dst := some 39, op := Go.Op.call { callee := Go.Callee.value (Go.Operand.func 77), args := #[Go.Operand.tmp 32, Go.Operand.tmp 37, Go.Operand.tmp 38], argTypes := #[93, 35, 35] }, type := 4, pos := "l6_jobs.go:65", after := #[{ on := 8, ground := Go.Ground.data }, { on := 13, ground := Go.Ground.data }, { on := 14, ground := Go.Ground.data }, { on := 7, ground := Go.Ground.chain }, { on := 7, ground := Go.Ground.guard }], guard := some (7, true) }) (v := undef) rfl (by kernel_rfl) (by kernel_rfl) (by kernel_rfl) (fun _ _ _ h => h) (Or.inr ⟨by rfl, by rfl⟩) hHeld1 ?_
        (try simp only [Act.put, List.setIfInBounds_toArray, List.set_cons_zero, List.set_cons_succ])
        refine wpAnyH_take (i := 16) (oi := { dst := some 40, op := Go.Op.unOp Go.UnOp.not 4 (Go.Operand.tmp 39), type := 4, pos := "l6_jobs.go:65", after := #[{ on := 15, ground := Go.Ground.data }, { on := 7, ground := Go.Ground.guard }], guard := some (7, true) }) (v := undef) rfl (by kernel_rfl) (by kernel_rfl) (by kernel_rfl) (fun _ _ _ h => h) (Or.inr ⟨by rfl, by rfl⟩) hHeld1 ?_
        (try simp only [Act.put, List.setIfInBounds_toArray, List.set_cons_zero, List.set_cons_succ])
        refine wpAnyH_take (i := 17) (oi := { dst := some 41, op := Go.Op.pick (Go.Operand.tmp 31) (Go.Operand.tmp 40) (Go.Operand.const (Go.Value.bool false)), type := 4, pos := "l6_jobs.go:65", after := #[{ on := 7, ground := Go.Ground.data }, { on := 16, ground := Go.Ground.data }, { on := 4, ground := Go.Ground.guard }], guard := some (4, false) }) (v := undef) rfl (by kernel_rfl) (by kernel_rfl) (by kernel_rfl) (fun _ _ _ h => h) (Or.inr ⟨by rfl, by rfl⟩) hHeld1 ?_
        (try simp only [Act.put, List.setIfInBounds_toArray, List.set_cons_zero, List.set_cons_succ])
        refine wpAnyH_take (i := 18) (oi := { dst := some 42, op := Go.Op.pick (Go.Operand.tmp 28) (Go.Operand.const (Go.Value.bool true)) (Go.Operand.tmp 41), type := 4, pos := "l6_jobs.go:65", after := #[{ on := 4, ground := Go.Ground.data }, { on := 17, ground := Go.Ground.data }], guard := none }) (v := ?vu1x18) rfl (by kernel_rfl) (by kernel_rfl) (by kernel_rfl) (fun _ _ _ h => h) (Or.inl ⟨by rfl, ?hyu1x18⟩) hHeld1 ?restu1x18
        case hyu1x18 => first | (intro w hSw; (try dsimp only at hSw); go_simp; done) | (intro w hSw; (try dsimp only at hSw); go_simp; with_reducible rfl)
        (try simp only [Act.put, List.setIfInBounds_toArray, List.set_cons_zero, List.set_cons_succ])
        refine wpAnyH_done (by kernel_rfl) ?_ _
        go_wp2
        go_ret
        exact ⟨rfl, bl_trans HW5.out (by repeat (first | with_reducible exact HB6.out | with_reducible refine Below.drew ?_ | with_reducible refine bl_drewN ?_ _ | with_reducible refine bl_alloc ?_ _))⟩
      have HJB := Lib.hid hjb
      have HJ1 : Hid (jobB ts ⟨ta, tm, ne⟩ = true) := Lib.hid (by unfold isB at hjb; rw [HS.out, Bool.true_and] at hjb; exact hjb)
      clear hjb
      by_cases hq0 : q = 0
      · subst hq0
        simp only [Nat.zero_mul, Nat.add_zero] at a0 a1 a2
        have HPN : Hid (seqB ts (js.take (0 + 1)) = true) := Lib.hid (by rw [HSTEP.out, HJ1.out]; rfl)
        go_wp2_with fail
        have s0 := (Blk.new w4 35 #[.int .i64 ta, .int .i64 tm, .int .i64 ne]).cell 0
        have s1 := (Blk.new w4 35 #[.int .i64 ta, .int .i64 tm, .int .i64 ne]).cell 1
        have s2 := (Blk.new w4 35 #[.int .i64 ta, .int .i64 tm, .int .i64 ne]).cell 2
        have HW5 := Lib.hid (show Below w.heap.size w (w4.alloc (.cells #[.int .i64 ta, .int .i64 tm, .int .i64 ne] 35)) from bl_alloc HB.out _)
        have HO5 := Lib.hid (HOR.out.alloc (.cells #[.int .i64 ta, .int .i64 tm, .int .i64 ne] 35))
        have hz5 : w4.heap.size < (w4.alloc (.cells #[.int .i64 ta, .int .i64 tm, .int .i64 ne] 35)).heap.size := by simp
        generalize (w4.alloc (.cells #[.int .i64 ta, .int .i64 tm, .int .i64 ne] 35)) = w5 at *
        refine wp_region_held_drew (S := (fun W => W.cell? ⟨w4.heap.size, 0, none⟩ = some (.int .i64 ta) ∧ W.cell? ⟨w4.heap.size, 1, none⟩ = some (.int .i64 tm) ∧ W.cell? ⟨w4.heap.size, 2, none⟩ = some (.int .i64 ne))) (by kernel_rfl) (by exact ⟨s0, s1, s2⟩) (fun hHeld0 => ?_)
        refine wpAnyH_take (i := 0) (oi := { dst := some 24, op := Go.Op.load 35 (Go.Operand.tmp 7), type := 35, pos := "l6_jobs.go:65", after := #[], guard := none }) (v := ?vu2x0) rfl (by kernel_rfl) (by kernel_rfl) (by kernel_rfl) (fun _ _ _ h => h) (Or.inl ⟨by rfl, ?hyu2x0⟩) hHeld0 ?restu2x0
        case hyu2x0 => first | (intro w hSw; (try dsimp only at hSw); go_simp; done) | (intro w hSw; (try dsimp only at hSw); go_simp; with_reducible rfl)
        (try simp only [Act.put, List.setIfInBounds_toArray, List.set_cons_zero, List.set_cons_succ])
        refine wpAnyH_take (i := 1) (oi := { dst := some 25, op := Go.Op.move (Go.Operand.tmp 0), type := 23, pos := "l6_jobs.go:65", after := #[], guard := none }) (v := ?vu2x1) rfl (by kernel_rfl) (by kernel_rfl) (by kernel_rfl) (fun _ _ _ h => h) (Or.inl ⟨by rfl, ?hyu2x1⟩) hHeld0 ?restu2x1
        case hyu2x1 => first | (intro w hSw; (try dsimp only at hSw); go_simp; done) | (intro w hSw; (try dsimp only at hSw); go_simp; with_reducible rfl)
        (try simp only [Act.put, List.setIfInBounds_toArray, List.set_cons_zero, List.set_cons_succ])
        refine wpAnyH_ready (rs := [2]) (by kernel_rfl) (by simp) ?_
        refine AllReadyH.cons (o := { dst := some 26, op := Go.Op.call { callee := Go.Callee.value (Go.Operand.func 59), args := #[Go.Operand.tmp 24, Go.Operand.tmp 25], argTypes := #[35, 23] }, type := 4, pos := "l6_jobs.go:65", after := #[{ on := 0, ground := Go.Ground.data }, { on := 1, ground := Go.Ground.data }], guard := none }) rfl (fun K hK => ?_) AllReadyH.nil
        go_simp
        (go_at_call 59; refine (iIsOf_is _ A n c ts ((H.out.below ((by repeat (first | with_reducible exact HW5.out | with_reducible refine Below.drew ?_ | with_reducible refine bl_drewN ?_ _ | with_reducible refine bl_alloc ?_ _)) : Below w.heap.size w _)).more (Below.size ((by repeat (first | with_reducible exact HW5.out | with_reducible refine Below.drew ?_ | with_reducible refine bl_drewN ?_ _ | with_reducible refine bl_alloc ?_ _)) : Below w.heap.size w _))) hn ⟨ta, tm, ne⟩ true HJB.out).mono ?_; rintro e w6 ⟨rfl, hb⟩; have HB6 := Lib.hid (show Below w5.heap.size w5 w6 from bl_trans (by repeat (first | with_reducible exact Below.refl _ _ | with_reducible refine bl_drewN ?_ _ | with_reducible refine Below.drew ?_)) hb); clear hb)
        (try go_wp2_with fail)
        refine hK.out _ _ (by exact ⟨(HB6.out.cell (p := ⟨w4.heap.size, 0, none⟩) hz5).trans s0, (HB6.out.cell (p := ⟨w4.heap.size, 1, none⟩) hz5).trans s1, (HB6.out.cell (p := ⟨w4.heap.size, 2, none⟩) hz5).trans s2⟩) (fun hHeld1 => ?_)
        clear hK K
        (try simp only [Act.put, List.setIfInBounds_toArray, List.set_cons_zero, List.set_cons_succ])
        refine wpAnyH_take (i := 3) (oi := { dst := some 27, op := Go.Op.unOp Go.UnOp.not 4 (Go.Operand.tmp 26), type := 4, pos := "l6_jobs.go:65", after := #[{ on := 2, ground := Go.Ground.data }], guard := none }) (v := ?vu2x3) rfl (by kernel_rfl) (by kernel_rfl) (by kernel_rfl) (fun _ _ _ h => h) (Or.inl ⟨by rfl, ?hyu2x3⟩) hHeld1 ?restu2x3
        case hyu2x3 => first | (intro w hSw; (try dsimp only at hSw); go_simp; done) | (intro w hSw; (try dsimp only at hSw); go_simp; with_reducible rfl)
        (try simp only [Act.put, List.setIfInBounds_toArray, List.set_cons_zero, List.set_cons_succ])
        refine wpAnyH_take (i := 4) (oi := { dst := some 28, op := Go.Op.move (Go.Operand.tmp 27), type := 4, pos := "l6_jobs.go:65", after := #[{ on := 3, ground := Go.Ground.data }, { on := 2, ground := Go.Ground.chain }], guard := none }) (v := ?vu2x4) rfl (by kernel_rfl) (by kernel_rfl) (by kernel_rfl) (fun _ _ _ h => h) (Or.inl ⟨by rfl, ?hyu2x4⟩) hHeld1 ?restu2x4
        case hyu2x4 => first | (intro w hSw; (try dsimp only at hSw); go_simp; done) | (intro w hSw; (try dsimp only at hSw); go_simp; with_reducible rfl)
        (try simp only [Act.put, List.setIfInBounds_toArray, List.set_cons_zero, List.set_cons_succ])
        refine wpAnyH_take (i := 5) (oi := { dst := some 29, op := Go.Op.move (Go.Operand.tmp 6), type := 3, pos := "l6_jobs.go:65", after := #[{ on := 4, ground := Go.Ground.guard }], guard := some (4, false) }) (v := ?vu2x5) rfl (by kernel_rfl) (by kernel_rfl) (by kernel_rfl) (fun _ _ _ h => h) (Or.inl ⟨by rfl, ?hyu2x5⟩) hHeld1 ?restu2x5
        case hyu2x5 => first | (intro w hSw; (try dsimp only at hSw); go_simp; done) | (intro w hSw; (try dsimp only at hSw); go_simp; with_reducible rfl)
        (try simp only [Act.put, List.setIfInBounds_toArray, List.set_cons_zero, List.set_cons_succ])
        refine wpAnyH_take (i := 6) (oi := { dst := some 30, op := Go.Op.binOp Go.BinOp.gtr 3 (Go.Operand.tmp 29) (Go.Operand.const (Go.Value.int Go.IntKind.i64 0)) 3, type := 4, pos := "l6_jobs.go:65", after := #[{ on := 5, ground := Go.Ground.data }, { on := 4, ground := Go.Ground.guard }], guard := some (4, false) }) (v := ?vu2x6) rfl (by kernel_rfl) (by kernel_rfl) (by kernel_rfl) (fun _ _ _ h => h) (Or.inl ⟨by rfl, ?hyu2x6⟩) hHeld1 ?restu2x6
        case hyu2x6 => first | (intro w hSw; (try dsimp only at hSw); go_simp; done) | (intro w hSw; (try dsimp only at hSw); go_simp; with_reducible rfl)
        (try simp only [Act.put, List.setIfInBounds_toArray, List.set_cons_zero, List.set_cons_succ])
        refine wpAnyH_take (i := 7) (oi := { dst := some 31, op := Go.Op.move (Go.Operand.tmp 30), type := 4, pos := "l6_jobs.go:65", after := #[{ on := 6, ground := Go.Ground.data }, { on := 4, ground := Go.Ground.chain }, { on := 4, ground := Go.Ground.guard }], guard := some (4, false) }) (v := ?vu2x7) rfl (by kernel_rfl) (by kernel_rfl) (by kernel_rfl) (fun _ _ _ h => h) (Or.inl ⟨by rfl, ?hyu2x7⟩) hHeld1 ?restu2x7
        case hyu2x7 => first | (intro w hSw; (try dsimp only at hSw); go_simp; done) | (intro w hSw; (try dsimp only at hSw); go_simp; with_reducible rfl)
        (try simp only [Act.put, List.setIfInBounds_toArray, List.set_cons_zero, List.set_cons_succ])
        refine wpAnyH_take (i := 8) (oi := { dst := some 32, op := Go.Op.move (Go.Operand.tmp 5), type := 93, pos := "l6_jobs.go:65", after := #[{ on := 7, ground := Go.Ground.guard }], guard := some (7, true) }) (v := undef) rfl (by kernel_rfl) (by kernel_rfl) (by kernel_rfl) (fun _ _ _ h => h) (Or.inr ⟨by rfl, by rfl⟩) hHeld1 ?_
        (try simp only [Act.put, List.setIfInBounds_toArray, List.set_cons_zero, List.set_cons_succ])
        refine wpAnyH_take (i := 9) (oi := { dst := some 33, op := Go.Op.move (Go.Operand.tmp 1), type := 24, pos := "l6_jobs.go:65", after := #[{ on := 7, ground := Go.Ground.guard }], guard := some (7, true) }) (v := undef) rfl (by kernel_rfl) (by kernel_rfl) (by kernel_rfl) (fun _ _ _ h => h) (Or.inr ⟨by rfl, by rfl⟩) hHeld1 ?_
        (try simp only [Act.put, List.setIfInBounds_toArray, List.set_cons_zero, List.set_cons_succ])
        refine wpAnyH_take (i := 10) (oi := { dst := some 34, op := Go.Op.move (Go.Operand.tmp 6), type := 3, pos := "l6_jobs.go:65", after := #[{ on := 7, ground := Go.Ground.guard }], guard := some (7, true) }) (v := undef) rfl (by kernel_rfl) (by kernel_rfl) (by kernel_rfl) (fun _ _ _ h => h) (Or.inr ⟨by rfl, by rfl⟩) hHeld1 ?_
        (try simp only [Act.put, List.setIfInBounds_toArray, List.set_cons_zero, List.set_cons_succ])
        refine wpAnyH_take (i := 11) (oi := { dst := some 35, op := Go.Op.binOp Go.BinOp.sub 3 (Go.Operand.tmp 34) (Go.Operand.const (Go.Value.int Go.IntKind.i64 1)) 3, type := 3, pos := "l6_jobs.go:65", after := #[{ on := 10, ground := Go.Ground.data }, { on := 7, ground := Go.Ground.guard }], guard := some (7, true) }) (v := undef) rfl (by kernel_rfl) (by kernel_rfl) (by kernel_rfl) (fun _ _ _ h => h) (Or.inr ⟨by rfl, by rfl⟩) hHeld1 ?_
        (try simp only [Act.put, List.setIfInBounds_toArray, List.set_cons_zero, List.set_cons_succ])
        refine wpAnyH_take (i := 12) (oi := { dst := some 36, op := Go.Op.indexAddr 24 (Go.Operand.tmp 33) (Go.Operand.tmp 35), type := 0, pos := "l6_jobs.go:65", after := #[{ on := 9, ground := Go.Ground.data }, { on := 11, ground := Go.Ground.data }, { on := 7, ground := Go.Ground.guard }], guard := some (7, true) }) (v := undef) rfl (by kernel_rfl) (by kernel_rfl) (by kernel_rfl) (fun _ _ _ h => h) (Or.inr ⟨by rfl, by rfl⟩) hHeld1 ?_
        (try simp only [Act.put, List.setIfInBounds_toArray, List.set_cons_zero, List.set_cons_succ])
        refine wpAnyH_take (i := 13) (oi := { dst := some 37, op := Go.Op.load 35 (Go.Operand.tmp 36), type := 35, pos := "l6_jobs.go:65", after := #[{ on := 12, ground := Go.Ground.data }, { on := 7, ground := Go.Ground.guard }], guard := some (7, true) }) (v := undef) rfl (by kernel_rfl) (by kernel_rfl) (by kernel_rfl) (fun _ _ _ h => h) (Or.inr ⟨by rfl, by rfl⟩) hHeld1 ?_
        (try simp only [Act.put, List.setIfInBounds_toArray, List.set_cons_zero, List.set_cons_succ])
        refine wpAnyH_take (i := 14) (oi := { dst := some 38, op := Go.Op.load 35 (Go.Operand.tmp 7), type := 35, pos := "l6_jobs.go:65", after := #[{ on := 7, ground := Go.Ground.guard }], guard := some (7, true) }) (v := undef) rfl (by kernel_rfl) (by kernel_rfl) (by kernel_rfl) (fun _ _ _ h => h) (Or.inr ⟨by rfl, by rfl⟩) hHeld1 ?_
        (try simp only [Act.put, List.setIfInBounds_toArray, List.set_cons_zero, List.set_cons_succ])
        refine wpAnyH_take (i := 15) (oi := { dst := some 39, op := Go.Op.call { callee := Go.Callee.value (Go.Operand.func 77), args := #[Go.Operand.tmp 32, Go.Operand.tmp 37, Go.Operand.tmp 38], argTypes := #[93, 35, 35] }, type := 4, pos := "l6_jobs.go:65", after := #[{ on := 8, ground := Go.Ground.data }, { on := 13, ground := Go.Ground.data }, { on := 14, ground := Go.Ground.data }, { on := 7, ground := Go.Ground.chain }, { on := 7, ground := Go.Ground.guard }], guard := some (7, true) }) (v := undef) rfl (by kernel_rfl) (by kernel_rfl) (by kernel_rfl) (fun _ _ _ h => h) (Or.inr ⟨by rfl, by rfl⟩) hHeld1 ?_
        (try simp only [Act.put, List.setIfInBounds_toArray, List.set_cons_zero, List.set_cons_succ])
        refine wpAnyH_take (i := 16) (oi := { dst := some 40, op := Go.Op.unOp Go.UnOp.not 4 (Go.Operand.tmp 39), type := 4, pos := "l6_jobs.go:65", after := #[{ on := 15, ground := Go.Ground.data }, { on := 7, ground := Go.Ground.guard }], guard := some (7, true) }) (v := undef) rfl (by kernel_rfl) (by kernel_rfl) (by kernel_rfl) (fun _ _ _ h => h) (Or.inr ⟨by rfl, by rfl⟩) hHeld1 ?_
        (try simp only [Act.put, List.setIfInBounds_toArray, List.set_cons_zero, List.set_cons_succ])
        refine wpAnyH_take (i := 17) (oi := { dst := some 41, op := Go.Op.pick (Go.Operand.tmp 31) (Go.Operand.tmp 40) (Go.Operand.const (Go.Value.bool false)), type := 4, pos := "l6_jobs.go:65", after := #[{ on := 7, ground := Go.Ground.data }, { on := 16, ground := Go.Ground.data }, { on := 4, ground := Go.Ground.guard }], guard := some (4, false) }) (v := ?vu2x17) rfl (by kernel_rfl) (by kernel_rfl) (by kernel_rfl) (fun _ _ _ h => h) (Or.inl ⟨by rfl, ?hyu2x17⟩) hHeld1 ?restu2x17
        case hyu2x17 => first | (intro w hSw; (try dsimp only at hSw); go_simp; done) | (intro w hSw; (try dsimp only at hSw); go_simp; with_reducible rfl)
        (try simp only [Act.put, List.setIfInBounds_toArray, List.set_cons_zero, List.set_cons_succ])
        refine wpAnyH_take (i := 18) (oi := { dst := some 42, op := Go.Op.pick (Go.Operand.tmp 28) (Go.Operand.const (Go.Value.bool true)) (Go.Operand.tmp 41), type := 4, pos := "l6_jobs.go:65", after := #[{ on := 4, ground := Go.Ground.data }, { on := 17, ground := Go.Ground.data }], guard := none }) (v := ?vu2x18) rfl (by kernel_rfl) (by kernel_rfl) (by kernel_rfl) (fun _ _ _ h => h) (Or.inl ⟨by rfl, ?hyu2x18⟩) hHeld1 ?restu2x18
        case hyu2x18 => first | (intro w hSw; (try dsimp only at hSw); go_simp; done) | (intro w hSw; (try dsimp only at hSw); go_simp; with_reducible rfl)
        (try simp only [Act.put, List.setIfInBounds_toArray, List.set_cons_zero, List.set_cons_succ])
        refine wpAnyH_done (by kernel_rfl) ?_ _
        go_wp2
        go_roundw
        case rel => exact ⟨0 + 1, by omega, by go_num, HPN, Lib.hid (by repeat (first | with_reducible exact HO5.out.below HB6.out | refine OrdAt.drewN ?_ _ | refine OrdAt.drew ?_)), Lib.hid (bl_trans HW5.out (by repeat (first | with_reducible exact HB6.out | with_reducible refine Below.drew ?_ | with_reducible refine bl_drewN ?_ _ | with_reducible refine bl_alloc ?_ _)))⟩
        case measure => simp [intOf]; omega
      obtain ⟨r, hr⟩ : ∃ r, q = r + 1 := ⟨q - 1, by omega⟩
      obtain ⟨pj, hpj⟩ : ∃ j, js[r]? = some j := ⟨js[r]'(by rw [HM.out]; omega), List.getElem?_eq_getElem _⟩
      obtain ⟨bp, op, hA, hbp, p0, p1, p2⟩ := (J.out.below HB.out).at_ r pj hpj
      injection hA with hA
      injection hA with e1 e2
      subst e1 e2
      have HLQ := Lib.hid (show lastBef (js.take q) ⟨ta, tm, ne⟩ = befB pj ⟨ta, tm, ne⟩ by rw [hr]; exact lastBef_at hpj)
      have r1 : (r : Int) < (m : Int) := by omega
      have r0 : (0 : Int) < (q : Int) := by omega
      have r00 : 0 < q := by omega
      have r2 : IntKind.i64.wrap ((q : Int) - 1) = (r : Int) := by rw [IntWalk.i64_in _ (by omega)]; omega
      clear hr
      obtain ⟨pa, pm, pe⟩ := pj
      dsimp only at p0 p1 p2
      clear hpj hq0
      cases hbf : befB ⟨pa, pm, pe⟩ ⟨ta, tm, ne⟩
      · have HBF := Lib.hid hbf
        obtain rfl : b = false := by
          rw [← HR.out]
          exact seq_bad HJ.out HP.out (by rw [HJ1.out, HLQ.out, hbf]; rfl)
        clear hbf
        go_wp2_with fail
        have s0 := (Blk.new w4 35 #[.int .i64 ta, .int .i64 tm, .int .i64 ne]).cell 0
        have s1 := (Blk.new w4 35 #[.int .i64 ta, .int .i64 tm, .int .i64 ne]).cell 1
        have s2 := (Blk.new w4 35 #[.int .i64 ta, .int .i64 tm, .int .i64 ne]).cell 2
        have HW5 := Lib.hid (show Below w.heap.size w (w4.alloc (.cells #[.int .i64 ta, .int .i64 tm, .int .i64 ne] 35)) from bl_alloc HB.out _)
        have HO5 := Lib.hid (HOR.out.alloc (.cells #[.int .i64 ta, .int .i64 tm, .int .i64 ne] 35))
        have hz5 : w4.heap.size < (w4.alloc (.cells #[.int .i64 ta, .int .i64 tm, .int .i64 ne] 35)).heap.size := by simp
        have hbj5 : bj < (w4.alloc (.cells #[.int .i64 ta, .int .i64 tm, .int .i64 ne] 35)).heap.size := Nat.lt_trans hbj4 hz5
        have s3 := (World.cell?_alloc_lt w4 (.cells #[.int .i64 ta, .int .i64 tm, .int .i64 ne] 35) ⟨bj, oj + r * 3, none⟩ hbj4).trans p0
        have s4 := (World.cell?_alloc_lt w4 (.cells #[.int .i64 ta, .int .i64 tm, .int .i64 ne] 35) ⟨bj, oj + r * 3 + 1, none⟩ hbj4).trans p1
        have s5 := (World.cell?_alloc_lt w4 (.cells #[.int .i64 ta, .int .i64 tm, .int .i64 ne] 35) ⟨bj, oj + r * 3 + 2, none⟩ hbj4).trans p2
        generalize (w4.alloc (.cells #[.int .i64 ta, .int .i64 tm, .int .i64 ne] 35)) = w5 at *
        refine wp_region_held_drew (S := (fun W => W.cell? ⟨w4.heap.size, 0, none⟩ = some (.int .i64 ta) ∧ W.cell? ⟨w4.heap.size, 1, none⟩ = some (.int .i64 tm) ∧ W.cell? ⟨w4.heap.size, 2, none⟩ = some (.int .i64 ne) ∧ W.cell? ⟨bj, oj + r * 3, none⟩ = some (.int .i64 pa) ∧ W.cell? ⟨bj, oj + r * 3 + 1, none⟩ = some (.int .i64 pm) ∧ W.cell? ⟨bj, oj + r * 3 + 2, none⟩ = some (.int .i64 pe))) (by kernel_rfl) (by exact ⟨s0, s1, s2, s3, s4, s5⟩) (fun hHeld0 => ?_)
        refine wpAnyH_take (i := 0) (oi := { dst := some 24, op := Go.Op.load 35 (Go.Operand.tmp 7), type := 35, pos := "l6_jobs.go:65", after := #[], guard := none }) (v := ?vu3x0) rfl (by kernel_rfl) (by kernel_rfl) (by kernel_rfl) (fun _ _ _ h => h) (Or.inl ⟨by rfl, ?hyu3x0⟩) hHeld0 ?restu3x0
        case hyu3x0 => first | (intro w hSw; (try dsimp only at hSw); go_simp; done) | (intro w hSw; (try dsimp only at hSw); go_simp; with_reducible rfl)
        (try simp only [Act.put, List.setIfInBounds_toArray, List.set_cons_zero, List.set_cons_succ])
        refine wpAnyH_take (i := 1) (oi := { dst := some 25, op := Go.Op.move (Go.Operand.tmp 0), type := 23, pos := "l6_jobs.go:65", after := #[], guard := none }) (v := ?vu3x1) rfl (by kernel_rfl) (by kernel_rfl) (by kernel_rfl) (fun _ _ _ h => h) (Or.inl ⟨by rfl, ?hyu3x1⟩) hHeld0 ?restu3x1
        case hyu3x1 => first | (intro w hSw; (try dsimp only at hSw); go_simp; done) | (intro w hSw; (try dsimp only at hSw); go_simp; with_reducible rfl)
        (try simp only [Act.put, List.setIfInBounds_toArray, List.set_cons_zero, List.set_cons_succ])
        refine wpAnyH_ready (rs := [2]) (by kernel_rfl) (by simp) ?_
        refine AllReadyH.cons (o := { dst := some 26, op := Go.Op.call { callee := Go.Callee.value (Go.Operand.func 59), args := #[Go.Operand.tmp 24, Go.Operand.tmp 25], argTypes := #[35, 23] }, type := 4, pos := "l6_jobs.go:65", after := #[{ on := 0, ground := Go.Ground.data }, { on := 1, ground := Go.Ground.data }], guard := none }) rfl (fun K hK => ?_) AllReadyH.nil
        go_simp
        (go_at_call 59; refine (iIsOf_is _ A n c ts ((H.out.below ((by repeat (first | with_reducible exact HW5.out | with_reducible refine Below.drew ?_ | with_reducible refine bl_drewN ?_ _ | with_reducible refine bl_alloc ?_ _)) : Below w.heap.size w _)).more (Below.size ((by repeat (first | with_reducible exact HW5.out | with_reducible refine Below.drew ?_ | with_reducible refine bl_drewN ?_ _ | with_reducible refine bl_alloc ?_ _)) : Below w.heap.size w _))) hn ⟨ta, tm, ne⟩ true HJB.out).mono ?_; rintro e w6 ⟨rfl, hb⟩; have HB6 := Lib.hid (show Below w5.heap.size w5 w6 from bl_trans (by repeat (first | with_reducible exact Below.refl _ _ | with_reducible refine bl_drewN ?_ _ | with_reducible refine Below.drew ?_)) hb); clear hb)
        (try go_wp2_with fail)
        refine hK.out _ _ (by exact ⟨(HB6.out.cell (p := ⟨w4.heap.size, 0, none⟩) hz5).trans s0, (HB6.out.cell (p := ⟨w4.heap.size, 1, none⟩) hz5).trans s1, (HB6.out.cell (p := ⟨w4.heap.size, 2, none⟩) hz5).trans s2, (HB6.out.cell (p := ⟨bj, oj + r * 3, none⟩) hbj5).trans s3, (HB6.out.cell (p := ⟨bj, oj + r * 3 + 1, none⟩) hbj5).trans s4, (HB6.out.cell (p := ⟨bj, oj + r * 3 + 2, none⟩) hbj5).trans s5⟩) (fun hHeld1 => ?_)
        clear hK K
        (try simp only [Act.put, List.setIfInBounds_toArray, List.set_cons_zero, List.set_cons_succ])
        refine wpAnyH_take (i := 3) (oi := { dst := some 27, op := Go.Op.unOp Go.UnOp.not 4 (Go.Operand.tmp 26), type := 4, pos := "l6_jobs.go:65", after := #[{ on := 2, ground := Go.Ground.data }], guard := none }) (v := ?vu3x3) rfl (by kernel_rfl) (by kernel_rfl) (by kernel_rfl) (fun _ _ _ h => h) (Or.inl ⟨by rfl, ?hyu3x3⟩) hHeld1 ?restu3x3
        case hyu3x3 => first | (intro w hSw; (try dsimp only at hSw); go_simp; done) | (intro w hSw; (try dsimp only at hSw); go_simp; with_reducible rfl)
        (try simp only [Act.put, List.setIfInBounds_toArray, List.set_cons_zero, List.set_cons_succ])
        refine wpAnyH_take (i := 4) (oi := { dst := some 28, op := Go.Op.move (Go.Operand.tmp 27), type := 4, pos := "l6_jobs.go:65", after := #[{ on := 3, ground := Go.Ground.data }, { on := 2, ground := Go.Ground.chain }], guard := none }) (v := ?vu3x4) rfl (by kernel_rfl) (by kernel_rfl) (by kernel_rfl) (fun _ _ _ h => h) (Or.inl ⟨by rfl, ?hyu3x4⟩) hHeld1 ?restu3x4
        case hyu3x4 => first | (intro w hSw; (try dsimp only at hSw); go_simp; done) | (intro w hSw; (try dsimp only at hSw); go_simp; with_reducible rfl)
        (try simp only [Act.put, List.setIfInBounds_toArray, List.set_cons_zero, List.set_cons_succ])
        refine wpAnyH_take (i := 5) (oi := { dst := some 29, op := Go.Op.move (Go.Operand.tmp 6), type := 3, pos := "l6_jobs.go:65", after := #[{ on := 4, ground := Go.Ground.guard }], guard := some (4, false) }) (v := ?vu3x5) rfl (by kernel_rfl) (by kernel_rfl) (by kernel_rfl) (fun _ _ _ h => h) (Or.inl ⟨by rfl, ?hyu3x5⟩) hHeld1 ?restu3x5
        case hyu3x5 => first | (intro w hSw; (try dsimp only at hSw); go_simp; done) | (intro w hSw; (try dsimp only at hSw); go_simp; with_reducible rfl)
        (try simp only [Act.put, List.setIfInBounds_toArray, List.set_cons_zero, List.set_cons_succ])
        refine wpAnyH_take (i := 6) (oi := { dst := some 30, op := Go.Op.binOp Go.BinOp.gtr 3 (Go.Operand.tmp 29) (Go.Operand.const (Go.Value.int Go.IntKind.i64 0)) 3, type := 4, pos := "l6_jobs.go:65", after := #[{ on := 5, ground := Go.Ground.data }, { on := 4, ground := Go.Ground.guard }], guard := some (4, false) }) (v := ?vu3x6) rfl (by kernel_rfl) (by kernel_rfl) (by kernel_rfl) (fun _ _ _ h => h) (Or.inl ⟨by rfl, ?hyu3x6⟩) hHeld1 ?restu3x6
        case hyu3x6 => first | (intro w hSw; (try dsimp only at hSw); go_simp; done) | (intro w hSw; (try dsimp only at hSw); go_simp; with_reducible rfl)
        (try simp only [Act.put, List.setIfInBounds_toArray, List.set_cons_zero, List.set_cons_succ])
        refine wpAnyH_take (i := 7) (oi := { dst := some 31, op := Go.Op.move (Go.Operand.tmp 30), type := 4, pos := "l6_jobs.go:65", after := #[{ on := 6, ground := Go.Ground.data }, { on := 4, ground := Go.Ground.chain }, { on := 4, ground := Go.Ground.guard }], guard := some (4, false) }) (v := ?vu3x7) rfl (by kernel_rfl) (by kernel_rfl) (by kernel_rfl) (fun _ _ _ h => h) (Or.inl ⟨by rfl, ?hyu3x7⟩) hHeld1 ?restu3x7
        case hyu3x7 => first | (intro w hSw; (try dsimp only at hSw); go_simp; done) | (intro w hSw; (try dsimp only at hSw); go_simp; with_reducible rfl)
        (try simp only [Act.put, List.setIfInBounds_toArray, List.set_cons_zero, List.set_cons_succ])
        refine wpAnyH_take (i := 8) (oi := { dst := some 32, op := Go.Op.move (Go.Operand.tmp 5), type := 93, pos := "l6_jobs.go:65", after := #[{ on := 7, ground := Go.Ground.guard }], guard := some (7, true) }) (v := ?vu3x8) rfl (by kernel_rfl) (by kernel_rfl) (by kernel_rfl) (fun _ _ _ h => h) (Or.inl ⟨by rfl, ?hyu3x8⟩) hHeld1 ?restu3x8
        case hyu3x8 => first | (intro w hSw; (try dsimp only at hSw); go_simp; done) | (intro w hSw; (try dsimp only at hSw); go_simp; with_reducible rfl)
        (try simp only [Act.put, List.setIfInBounds_toArray, List.set_cons_zero, List.set_cons_succ])
        refine wpAnyH_take (i := 9) (oi := { dst := some 33, op := Go.Op.move (Go.Operand.tmp 1), type := 24, pos := "l6_jobs.go:65", after := #[{ on := 7, ground := Go.Ground.guard }], guard := some (7, true) }) (v := ?vu3x9) rfl (by kernel_rfl) (by kernel_rfl) (by kernel_rfl) (fun _ _ _ h => h) (Or.inl ⟨by rfl, ?hyu3x9⟩) hHeld1 ?restu3x9
        case hyu3x9 => first | (intro w hSw; (try dsimp only at hSw); go_simp; done) | (intro w hSw; (try dsimp only at hSw); go_simp; with_reducible rfl)
        (try simp only [Act.put, List.setIfInBounds_toArray, List.set_cons_zero, List.set_cons_succ])
        refine wpAnyH_take (i := 10) (oi := { dst := some 34, op := Go.Op.move (Go.Operand.tmp 6), type := 3, pos := "l6_jobs.go:65", after := #[{ on := 7, ground := Go.Ground.guard }], guard := some (7, true) }) (v := ?vu3x10) rfl (by kernel_rfl) (by kernel_rfl) (by kernel_rfl) (fun _ _ _ h => h) (Or.inl ⟨by rfl, ?hyu3x10⟩) hHeld1 ?restu3x10
        case hyu3x10 => first | (intro w hSw; (try dsimp only at hSw); go_simp; done) | (intro w hSw; (try dsimp only at hSw); go_simp; with_reducible rfl)
        (try simp only [Act.put, List.setIfInBounds_toArray, List.set_cons_zero, List.set_cons_succ])
        refine wpAnyH_take (i := 11) (oi := { dst := some 35, op := Go.Op.binOp Go.BinOp.sub 3 (Go.Operand.tmp 34) (Go.Operand.const (Go.Value.int Go.IntKind.i64 1)) 3, type := 3, pos := "l6_jobs.go:65", after := #[{ on := 10, ground := Go.Ground.data }, { on := 7, ground := Go.Ground.guard }], guard := some (7, true) }) (v := ?vu3x11) rfl (by kernel_rfl) (by kernel_rfl) (by kernel_rfl) (fun _ _ _ h => h) (Or.inl ⟨by rfl, ?hyu3x11⟩) hHeld1 ?restu3x11
        case hyu3x11 => first | (intro w hSw; (try dsimp only at hSw); go_simp; done) | (intro w hSw; (try dsimp only at hSw); go_simp; with_reducible rfl)
        (try simp only [Act.put, List.setIfInBounds_toArray, List.set_cons_zero, List.set_cons_succ])
        refine wpAnyH_take (i := 12) (oi := { dst := some 36, op := Go.Op.indexAddr 24 (Go.Operand.tmp 33) (Go.Operand.tmp 35), type := 0, pos := "l6_jobs.go:65", after := #[{ on := 9, ground := Go.Ground.data }, { on := 11, ground := Go.Ground.data }, { on := 7, ground := Go.Ground.guard }], guard := some (7, true) }) (v := ?vu3x12) rfl (by kernel_rfl) (by kernel_rfl) (by kernel_rfl) (fun _ _ _ h => h) (Or.inl ⟨by rfl, ?hyu3x12⟩) hHeld1 ?restu3x12
        case hyu3x12 => first | (intro w hSw; (try dsimp only at hSw); go_simp; done) | (intro w hSw; (try dsimp only at hSw); go_simp; with_reducible rfl)
        (try simp only [Act.put, List.setIfInBounds_toArray, List.set_cons_zero, List.set_cons_succ])
        refine wpAnyH_take (i := 13) (oi := { dst := some 37, op := Go.Op.load 35 (Go.Operand.tmp 36), type := 35, pos := "l6_jobs.go:65", after := #[{ on := 12, ground := Go.Ground.data }, { on := 7, ground := Go.Ground.guard }], guard := some (7, true) }) (v := ?vu3x13) rfl (by kernel_rfl) (by kernel_rfl) (by kernel_rfl) (fun _ _ _ h => h) (Or.inl ⟨by rfl, ?hyu3x13⟩) hHeld1 ?restu3x13
        case hyu3x13 => first | (intro w hSw; (try dsimp only at hSw); go_simp; done) | (intro w hSw; (try dsimp only at hSw); go_simp; with_reducible rfl)
        (try simp only [Act.put, List.setIfInBounds_toArray, List.set_cons_zero, List.set_cons_succ])
        refine wpAnyH_take (i := 14) (oi := { dst := some 38, op := Go.Op.load 35 (Go.Operand.tmp 7), type := 35, pos := "l6_jobs.go:65", after := #[{ on := 7, ground := Go.Ground.guard }], guard := some (7, true) }) (v := ?vu3x14) rfl (by kernel_rfl) (by kernel_rfl) (by kernel_rfl) (fun _ _ _ h => h) (Or.inl ⟨by rfl, ?hyu3x14⟩) hHeld1 ?restu3x14
        case hyu3x14 => first | (intro w hSw; (try dsimp only at hSw); go_simp; done) | (intro w hSw; (try dsimp only at hSw); go_simp; with_reducible rfl)
        (try simp only [Act.put, List.setIfInBounds_toArray, List.set_cons_zero, List.set_cons_succ])
        refine wpAnyH_ready (rs := [15]) (by kernel_rfl) (by simp) ?_
        refine AllReadyH.cons (o := { dst := some 39, op := Go.Op.call { callee := Go.Callee.value (Go.Operand.func 77), args := #[Go.Operand.tmp 32, Go.Operand.tmp 37, Go.Operand.tmp 38], argTypes := #[93, 35, 35] }, type := 4, pos := "l6_jobs.go:65", after := #[{ on := 8, ground := Go.Ground.data }, { on := 13, ground := Go.Ground.data }, { on := 14, ground := Go.Ground.data }, { on := 7, ground := Go.Ground.chain }, { on := 7, ground := Go.Ground.guard }], guard := some (7, true) }) rfl (fun K hK => ?_) AllReadyH.nil
        go_simp
        (go_at_call 77; refine (iBef_is _ g (by repeat (first | with_reducible exact HO5.out.below HB6.out | with_reducible refine OrdAt.drewN ?_ _ | with_reducible refine OrdAt.drew ?_)) ⟨pa, pm, pe⟩ ⟨ta, tm, ne⟩ false HBF.out).mono ?_; rintro e w7 ⟨rfl, hb⟩; have HB7 := Lib.hid (show Below w5.heap.size w5 w7 from bl_trans (by repeat (first | with_reducible exact HB6.out | with_reducible refine Below.drew ?_ | with_reducible refine bl_drewN ?_ _ | with_reducible refine bl_alloc ?_ _)) hb); clear hb)
        (try go_wp2_with fail)
        refine hK.out _ _ (by exact ⟨(HB7.out.cell (p := ⟨w4.heap.size, 0, none⟩) hz5).trans s0, (HB7.out.cell (p := ⟨w4.heap.size, 1, none⟩) hz5).trans s1, (HB7.out.cell (p := ⟨w4.heap.size, 2, none⟩) hz5).trans s2, (HB7.out.cell (p := ⟨bj, oj + r * 3, none⟩) hbj5).trans s3, (HB7.out.cell (p := ⟨bj, oj + r * 3 + 1, none⟩) hbj5).trans s4, (HB7.out.cell (p := ⟨bj, oj + r * 3 + 2, none⟩) hbj5).trans s5⟩) (fun hHeld2 => ?_)
        clear hK K
        (try simp only [Act.put, List.setIfInBounds_toArray, List.set_cons_zero, List.set_cons_succ])
        refine wpAnyH_take (i := 16) (oi := { dst := some 40, op := Go.Op.unOp Go.UnOp.not 4 (Go.Operand.tmp 39), type := 4, pos := "l6_jobs.go:65", after := #[{ on := 15, ground := Go.Ground.data }, { on := 7, ground := Go.Ground.guard }], guard := some (7, true) }) (v := ?vu3x16) rfl (by kernel_rfl) (by kernel_rfl) (by kernel_rfl) (fun _ _ _ h => h) (Or.inl ⟨by rfl, ?hyu3x16⟩) hHeld2 ?restu3x16
        case hyu3x16 => first | (intro w hSw; (try dsimp only at hSw); go_simp; done) | (intro w hSw; (try dsimp only at hSw); go_simp; with_reducible rfl)
        (try simp only [Act.put, List.setIfInBounds_toArray, List.set_cons_zero, List.set_cons_succ])
        refine wpAnyH_take (i := 17) (oi := { dst := some 41, op := Go.Op.pick (Go.Operand.tmp 31) (Go.Operand.tmp 40) (Go.Operand.const (Go.Value.bool false)), type := 4, pos := "l6_jobs.go:65", after := #[{ on := 7, ground := Go.Ground.data }, { on := 16, ground := Go.Ground.data }, { on := 4, ground := Go.Ground.guard }], guard := some (4, false) }) (v := ?vu3x17) rfl (by kernel_rfl) (by kernel_rfl) (by kernel_rfl) (fun _ _ _ h => h) (Or.inl ⟨by rfl, ?hyu3x17⟩) hHeld2 ?restu3x17
        case hyu3x17 => first | (intro w hSw; (try dsimp only at hSw); go_simp; done) | (intro w hSw; (try dsimp only at hSw); go_simp; with_reducible rfl)
        (try simp only [Act.put, List.setIfInBounds_toArray, List.set_cons_zero, List.set_cons_succ])
        refine wpAnyH_take (i := 18) (oi := { dst := some 42, op := Go.Op.pick (Go.Operand.tmp 28) (Go.Operand.const (Go.Value.bool true)) (Go.Operand.tmp 41), type := 4, pos := "l6_jobs.go:65", after := #[{ on := 4, ground := Go.Ground.data }, { on := 17, ground := Go.Ground.data }], guard := none }) (v := ?vu3x18) rfl (by kernel_rfl) (by kernel_rfl) (by kernel_rfl) (fun _ _ _ h => h) (Or.inl ⟨by rfl, ?hyu3x18⟩) hHeld2 ?restu3x18
        case hyu3x18 => first | (intro w hSw; (try dsimp only at hSw); go_simp; done) | (intro w hSw; (try dsimp only at hSw); go_simp; with_reducible rfl)
        (try simp only [Act.put, List.setIfInBounds_toArray, List.set_cons_zero, List.set_cons_succ])
        refine wpAnyH_done (by kernel_rfl) ?_ _
        go_wp2
        go_ret
        exact ⟨rfl, bl_trans HW5.out (by repeat (first | with_reducible exact HB7.out | with_reducible refine Below.drew ?_ | with_reducible refine bl_drewN ?_ _ | with_reducible refine bl_alloc ?_ _))⟩
      · have HBF := Lib.hid hbf
        have HPN : Hid (seqB ts (js.take (q + 1)) = true) := Lib.hid (by rw [HSTEP.out, HJ1.out, HLQ.out, hbf]; rfl)
        clear hbf
        go_wp2_with fail
        have s0 := (Blk.new w4 35 #[.int .i64 ta, .int .i64 tm, .int .i64 ne]).cell 0
        have s1 := (Blk.new w4 35 #[.int .i64 ta, .int .i64 tm, .int .i64 ne]).cell 1
        have s2 := (Blk.new w4 35 #[.int .i64 ta, .int .i64 tm, .int .i64 ne]).cell 2
        have HW5 := Lib.hid (show Below w.heap.size w (w4.alloc (.cells #[.int .i64 ta, .int .i64 tm, .int .i64 ne] 35)) from bl_alloc HB.out _)
        have HO5 := Lib.hid (HOR.out.alloc (.cells #[.int .i64 ta, .int .i64 tm, .int .i64 ne] 35))
        have hz5 : w4.heap.size < (w4.alloc (.cells #[.int .i64 ta, .int .i64 tm, .int .i64 ne] 35)).heap.size := by simp
        have hbj5 : bj < (w4.alloc (.cells #[.int .i64 ta, .int .i64 tm, .int .i64 ne] 35)).heap.size := Nat.lt_trans hbj4 hz5
        have s3 := (World.cell?_alloc_lt w4 (.cells #[.int .i64 ta, .int .i64 tm, .int .i64 ne] 35) ⟨bj, oj + r * 3, none⟩ hbj4).trans p0
        have s4 := (World.cell?_alloc_lt w4 (.cells #[.int .i64 ta, .int .i64 tm, .int .i64 ne] 35) ⟨bj, oj + r * 3 + 1, none⟩ hbj4).trans p1
        have s5 := (World.cell?_alloc_lt w4 (.cells #[.int .i64 ta, .int .i64 tm, .int .i64 ne] 35) ⟨bj, oj + r * 3 + 2, none⟩ hbj4).trans p2
        generalize (w4.alloc (.cells #[.int .i64 ta, .int .i64 tm, .int .i64 ne] 35)) = w5 at *
        refine wp_region_held_drew (S := (fun W => W.cell? ⟨w4.heap.size, 0, none⟩ = some (.int .i64 ta) ∧ W.cell? ⟨w4.heap.size, 1, none⟩ = some (.int .i64 tm) ∧ W.cell? ⟨w4.heap.size, 2, none⟩ = some (.int .i64 ne) ∧ W.cell? ⟨bj, oj + r * 3, none⟩ = some (.int .i64 pa) ∧ W.cell? ⟨bj, oj + r * 3 + 1, none⟩ = some (.int .i64 pm) ∧ W.cell? ⟨bj, oj + r * 3 + 2, none⟩ = some (.int .i64 pe))) (by kernel_rfl) (by exact ⟨s0, s1, s2, s3, s4, s5⟩) (fun hHeld0 => ?_)
        refine wpAnyH_take (i := 0) (oi := { dst := some 24, op := Go.Op.load 35 (Go.Operand.tmp 7), type := 35, pos := "l6_jobs.go:65", after := #[], guard := none }) (v := ?vu4x0) rfl (by kernel_rfl) (by kernel_rfl) (by kernel_rfl) (fun _ _ _ h => h) (Or.inl ⟨by rfl, ?hyu4x0⟩) hHeld0 ?restu4x0
        case hyu4x0 => first | (intro w hSw; (try dsimp only at hSw); go_simp; done) | (intro w hSw; (try dsimp only at hSw); go_simp; with_reducible rfl)
        (try simp only [Act.put, List.setIfInBounds_toArray, List.set_cons_zero, List.set_cons_succ])
        refine wpAnyH_take (i := 1) (oi := { dst := some 25, op := Go.Op.move (Go.Operand.tmp 0), type := 23, pos := "l6_jobs.go:65", after := #[], guard := none }) (v := ?vu4x1) rfl (by kernel_rfl) (by kernel_rfl) (by kernel_rfl) (fun _ _ _ h => h) (Or.inl ⟨by rfl, ?hyu4x1⟩) hHeld0 ?restu4x1
        case hyu4x1 => first | (intro w hSw; (try dsimp only at hSw); go_simp; done) | (intro w hSw; (try dsimp only at hSw); go_simp; with_reducible rfl)
        (try simp only [Act.put, List.setIfInBounds_toArray, List.set_cons_zero, List.set_cons_succ])
        refine wpAnyH_ready (rs := [2]) (by kernel_rfl) (by simp) ?_
        refine AllReadyH.cons (o := { dst := some 26, op := Go.Op.call { callee := Go.Callee.value (Go.Operand.func 59), args := #[Go.Operand.tmp 24, Go.Operand.tmp 25], argTypes := #[35, 23] }, type := 4, pos := "l6_jobs.go:65", after := #[{ on := 0, ground := Go.Ground.data }, { on := 1, ground := Go.Ground.data }], guard := none }) rfl (fun K hK => ?_) AllReadyH.nil
        go_simp
        (go_at_call 59; refine (iIsOf_is _ A n c ts ((H.out.below ((by repeat (first | with_reducible exact HW5.out | with_reducible refine Below.drew ?_ | with_reducible refine bl_drewN ?_ _ | with_reducible refine bl_alloc ?_ _)) : Below w.heap.size w _)).more (Below.size ((by repeat (first | with_reducible exact HW5.out | with_reducible refine Below.drew ?_ | with_reducible refine bl_drewN ?_ _ | with_reducible refine bl_alloc ?_ _)) : Below w.heap.size w _))) hn ⟨ta, tm, ne⟩ true HJB.out).mono ?_; rintro e w6 ⟨rfl, hb⟩; have HB6 := Lib.hid (show Below w5.heap.size w5 w6 from bl_trans (by repeat (first | with_reducible exact Below.refl _ _ | with_reducible refine bl_drewN ?_ _ | with_reducible refine Below.drew ?_)) hb); clear hb)
        (try go_wp2_with fail)
        refine hK.out _ _ (by exact ⟨(HB6.out.cell (p := ⟨w4.heap.size, 0, none⟩) hz5).trans s0, (HB6.out.cell (p := ⟨w4.heap.size, 1, none⟩) hz5).trans s1, (HB6.out.cell (p := ⟨w4.heap.size, 2, none⟩) hz5).trans s2, (HB6.out.cell (p := ⟨bj, oj + r * 3, none⟩) hbj5).trans s3, (HB6.out.cell (p := ⟨bj, oj + r * 3 + 1, none⟩) hbj5).trans s4, (HB6.out.cell (p := ⟨bj, oj + r * 3 + 2, none⟩) hbj5).trans s5⟩) (fun hHeld1 => ?_)
        clear hK K
        (try simp only [Act.put, List.setIfInBounds_toArray, List.set_cons_zero, List.set_cons_succ])
        refine wpAnyH_take (i := 3) (oi := { dst := some 27, op := Go.Op.unOp Go.UnOp.not 4 (Go.Operand.tmp 26), type := 4, pos := "l6_jobs.go:65", after := #[{ on := 2, ground := Go.Ground.data }], guard := none }) (v := ?vu4x3) rfl (by kernel_rfl) (by kernel_rfl) (by kernel_rfl) (fun _ _ _ h => h) (Or.inl ⟨by rfl, ?hyu4x3⟩) hHeld1 ?restu4x3
        case hyu4x3 => first | (intro w hSw; (try dsimp only at hSw); go_simp; done) | (intro w hSw; (try dsimp only at hSw); go_simp; with_reducible rfl)
        (try simp only [Act.put, List.setIfInBounds_toArray, List.set_cons_zero, List.set_cons_succ])
        refine wpAnyH_take (i := 4) (oi := { dst := some 28, op := Go.Op.move (Go.Operand.tmp 27), type := 4, pos := "l6_jobs.go:65", after := #[{ on := 3, ground := Go.Ground.data }, { on := 2, ground := Go.Ground.chain }], guard := none }) (v := ?vu4x4) rfl (by kernel_rfl) (by kernel_rfl) (by kernel_rfl) (fun _ _ _ h => h) (Or.inl ⟨by rfl, ?hyu4x4⟩) hHeld1 ?restu4x4
        case hyu4x4 => first | (intro w hSw; (try dsimp only at hSw); go_simp; done) | (intro w hSw; (try dsimp only at hSw); go_simp; with_reducible rfl)
        (try simp only [Act.put, List.setIfInBounds_toArray, List.set_cons_zero, List.set_cons_succ])
        refine wpAnyH_take (i := 5) (oi := { dst := some 29, op := Go.Op.move (Go.Operand.tmp 6), type := 3, pos := "l6_jobs.go:65", after := #[{ on := 4, ground := Go.Ground.guard }], guard := some (4, false) }) (v := ?vu4x5) rfl (by kernel_rfl) (by kernel_rfl) (by kernel_rfl) (fun _ _ _ h => h) (Or.inl ⟨by rfl, ?hyu4x5⟩) hHeld1 ?restu4x5
        case hyu4x5 => first | (intro w hSw; (try dsimp only at hSw); go_simp; done) | (intro w hSw; (try dsimp only at hSw); go_simp; with_reducible rfl)
        (try simp only [Act.put, List.setIfInBounds_toArray, List.set_cons_zero, List.set_cons_succ])
        refine wpAnyH_take (i := 6) (oi := { dst := some 30, op := Go.Op.binOp Go.BinOp.gtr 3 (Go.Operand.tmp 29) (Go.Operand.const (Go.Value.int Go.IntKind.i64 0)) 3, type := 4, pos := "l6_jobs.go:65", after := #[{ on := 5, ground := Go.Ground.data }, { on := 4, ground := Go.Ground.guard }], guard := some (4, false) }) (v := ?vu4x6) rfl (by kernel_rfl) (by kernel_rfl) (by kernel_rfl) (fun _ _ _ h => h) (Or.inl ⟨by rfl, ?hyu4x6⟩) hHeld1 ?restu4x6
        case hyu4x6 => first | (intro w hSw; (try dsimp only at hSw); go_simp; done) | (intro w hSw; (try dsimp only at hSw); go_simp; with_reducible rfl)
        (try simp only [Act.put, List.setIfInBounds_toArray, List.set_cons_zero, List.set_cons_succ])
        refine wpAnyH_take (i := 7) (oi := { dst := some 31, op := Go.Op.move (Go.Operand.tmp 30), type := 4, pos := "l6_jobs.go:65", after := #[{ on := 6, ground := Go.Ground.data }, { on := 4, ground := Go.Ground.chain }, { on := 4, ground := Go.Ground.guard }], guard := some (4, false) }) (v := ?vu4x7) rfl (by kernel_rfl) (by kernel_rfl) (by kernel_rfl) (fun _ _ _ h => h) (Or.inl ⟨by rfl, ?hyu4x7⟩) hHeld1 ?restu4x7
        case hyu4x7 => first | (intro w hSw; (try dsimp only at hSw); go_simp; done) | (intro w hSw; (try dsimp only at hSw); go_simp; with_reducible rfl)
        (try simp only [Act.put, List.setIfInBounds_toArray, List.set_cons_zero, List.set_cons_succ])
        refine wpAnyH_take (i := 8) (oi := { dst := some 32, op := Go.Op.move (Go.Operand.tmp 5), type := 93, pos := "l6_jobs.go:65", after := #[{ on := 7, ground := Go.Ground.guard }], guard := some (7, true) }) (v := ?vu4x8) rfl (by kernel_rfl) (by kernel_rfl) (by kernel_rfl) (fun _ _ _ h => h) (Or.inl ⟨by rfl, ?hyu4x8⟩) hHeld1 ?restu4x8
        case hyu4x8 => first | (intro w hSw; (try dsimp only at hSw); go_simp; done) | (intro w hSw; (try dsimp only at hSw); go_simp; with_reducible rfl)
        (try simp only [Act.put, List.setIfInBounds_toArray, List.set_cons_zero, List.set_cons_succ])
        refine wpAnyH_take (i := 9) (oi := { dst := some 33, op := Go.Op.move (Go.Operand.tmp 1), type := 24, pos := "l6_jobs.go:65", after := #[{ on := 7, ground := Go.Ground.guard }], guard := some (7, true) }) (v := ?vu4x9) rfl (by kernel_rfl) (by kernel_rfl) (by kernel_rfl) (fun _ _ _ h => h) (Or.inl ⟨by rfl, ?hyu4x9⟩) hHeld1 ?restu4x9
        case hyu4x9 => first | (intro w hSw; (try dsimp only at hSw); go_simp; done) | (intro w hSw; (try dsimp only at hSw); go_simp; with_reducible rfl)
        (try simp only [Act.put, List.setIfInBounds_toArray, List.set_cons_zero, List.set_cons_succ])
        refine wpAnyH_take (i := 10) (oi := { dst := some 34, op := Go.Op.move (Go.Operand.tmp 6), type := 3, pos := "l6_jobs.go:65", after := #[{ on := 7, ground := Go.Ground.guard }], guard := some (7, true) }) (v := ?vu4x10) rfl (by kernel_rfl) (by kernel_rfl) (by kernel_rfl) (fun _ _ _ h => h) (Or.inl ⟨by rfl, ?hyu4x10⟩) hHeld1 ?restu4x10
        case hyu4x10 => first | (intro w hSw; (try dsimp only at hSw); go_simp; done) | (intro w hSw; (try dsimp only at hSw); go_simp; with_reducible rfl)
        (try simp only [Act.put, List.setIfInBounds_toArray, List.set_cons_zero, List.set_cons_succ])
        refine wpAnyH_take (i := 11) (oi := { dst := some 35, op := Go.Op.binOp Go.BinOp.sub 3 (Go.Operand.tmp 34) (Go.Operand.const (Go.Value.int Go.IntKind.i64 1)) 3, type := 3, pos := "l6_jobs.go:65", after := #[{ on := 10, ground := Go.Ground.data }, { on := 7, ground := Go.Ground.guard }], guard := some (7, true) }) (v := ?vu4x11) rfl (by kernel_rfl) (by kernel_rfl) (by kernel_rfl) (fun _ _ _ h => h) (Or.inl ⟨by rfl, ?hyu4x11⟩) hHeld1 ?restu4x11
        case hyu4x11 => first | (intro w hSw; (try dsimp only at hSw); go_simp; done) | (intro w hSw; (try dsimp only at hSw); go_simp; with_reducible rfl)
        (try simp only [Act.put, List.setIfInBounds_toArray, List.set_cons_zero, List.set_cons_succ])
        refine wpAnyH_take (i := 12) (oi := { dst := some 36, op := Go.Op.indexAddr 24 (Go.Operand.tmp 33) (Go.Operand.tmp 35), type := 0, pos := "l6_jobs.go:65", after := #[{ on := 9, ground := Go.Ground.data }, { on := 11, ground := Go.Ground.data }, { on := 7, ground := Go.Ground.guard }], guard := some (7, true) }) (v := ?vu4x12) rfl (by kernel_rfl) (by kernel_rfl) (by kernel_rfl) (fun _ _ _ h => h) (Or.inl ⟨by rfl, ?hyu4x12⟩) hHeld1 ?restu4x12
        case hyu4x12 => first | (intro w hSw; (try dsimp only at hSw); go_simp; done) | (intro w hSw; (try dsimp only at hSw); go_simp; with_reducible rfl)
        (try simp only [Act.put, List.setIfInBounds_toArray, List.set_cons_zero, List.set_cons_succ])
        refine wpAnyH_take (i := 13) (oi := { dst := some 37, op := Go.Op.load 35 (Go.Operand.tmp 36), type := 35, pos := "l6_jobs.go:65", after := #[{ on := 12, ground := Go.Ground.data }, { on := 7, ground := Go.Ground.guard }], guard := some (7, true) }) (v := ?vu4x13) rfl (by kernel_rfl) (by kernel_rfl) (by kernel_rfl) (fun _ _ _ h => h) (Or.inl ⟨by rfl, ?hyu4x13⟩) hHeld1 ?restu4x13
        case hyu4x13 => first | (intro w hSw; (try dsimp only at hSw); go_simp; done) | (intro w hSw; (try dsimp only at hSw); go_simp; with_reducible rfl)
        (try simp only [Act.put, List.setIfInBounds_toArray, List.set_cons_zero, List.set_cons_succ])
        refine wpAnyH_take (i := 14) (oi := { dst := some 38, op := Go.Op.load 35 (Go.Operand.tmp 7), type := 35, pos := "l6_jobs.go:65", after := #[{ on := 7, ground := Go.Ground.guard }], guard := some (7, true) }) (v := ?vu4x14) rfl (by kernel_rfl) (by kernel_rfl) (by kernel_rfl) (fun _ _ _ h => h) (Or.inl ⟨by rfl, ?hyu4x14⟩) hHeld1 ?restu4x14
        case hyu4x14 => first | (intro w hSw; (try dsimp only at hSw); go_simp; done) | (intro w hSw; (try dsimp only at hSw); go_simp; with_reducible rfl)
        (try simp only [Act.put, List.setIfInBounds_toArray, List.set_cons_zero, List.set_cons_succ])
        refine wpAnyH_ready (rs := [15]) (by kernel_rfl) (by simp) ?_
        refine AllReadyH.cons (o := { dst := some 39, op := Go.Op.call { callee := Go.Callee.value (Go.Operand.func 77), args := #[Go.Operand.tmp 32, Go.Operand.tmp 37, Go.Operand.tmp 38], argTypes := #[93, 35, 35] }, type := 4, pos := "l6_jobs.go:65", after := #[{ on := 8, ground := Go.Ground.data }, { on := 13, ground := Go.Ground.data }, { on := 14, ground := Go.Ground.data }, { on := 7, ground := Go.Ground.chain }, { on := 7, ground := Go.Ground.guard }], guard := some (7, true) }) rfl (fun K hK => ?_) AllReadyH.nil
        go_simp
        (go_at_call 77; refine (iBef_is _ g (by repeat (first | with_reducible exact HO5.out.below HB6.out | with_reducible refine OrdAt.drewN ?_ _ | with_reducible refine OrdAt.drew ?_)) ⟨pa, pm, pe⟩ ⟨ta, tm, ne⟩ true HBF.out).mono ?_; rintro e w7 ⟨rfl, hb⟩; have HB7 := Lib.hid (show Below w5.heap.size w5 w7 from bl_trans (by repeat (first | with_reducible exact HB6.out | with_reducible refine Below.drew ?_ | with_reducible refine bl_drewN ?_ _ | with_reducible refine bl_alloc ?_ _)) hb); clear hb)
        (try go_wp2_with fail)
        refine hK.out _ _ (by exact ⟨(HB7.out.cell (p := ⟨w4.heap.size, 0, none⟩) hz5).trans s0, (HB7.out.cell (p := ⟨w4.heap.size, 1, none⟩) hz5).trans s1, (HB7.out.cell (p := ⟨w4.heap.size, 2, none⟩) hz5).trans s2, (HB7.out.cell (p := ⟨bj, oj + r * 3, none⟩) hbj5).trans s3, (HB7.out.cell (p := ⟨bj, oj + r * 3 + 1, none⟩) hbj5).trans s4, (HB7.out.cell (p := ⟨bj, oj + r * 3 + 2, none⟩) hbj5).trans s5⟩) (fun hHeld2 => ?_)
        clear hK K
        (try simp only [Act.put, List.setIfInBounds_toArray, List.set_cons_zero, List.set_cons_succ])
        refine wpAnyH_take (i := 16) (oi := { dst := some 40, op := Go.Op.unOp Go.UnOp.not 4 (Go.Operand.tmp 39), type := 4, pos := "l6_jobs.go:65", after := #[{ on := 15, ground := Go.Ground.data }, { on := 7, ground := Go.Ground.guard }], guard := some (7, true) }) (v := ?vu4x16) rfl (by kernel_rfl) (by kernel_rfl) (by kernel_rfl) (fun _ _ _ h => h) (Or.inl ⟨by rfl, ?hyu4x16⟩) hHeld2 ?restu4x16
        case hyu4x16 => first | (intro w hSw; (try dsimp only at hSw); go_simp; done) | (intro w hSw; (try dsimp only at hSw); go_simp; with_reducible rfl)
        (try simp only [Act.put, List.setIfInBounds_toArray, List.set_cons_zero, List.set_cons_succ])
        refine wpAnyH_take (i := 17) (oi := { dst := some 41, op := Go.Op.pick (Go.Operand.tmp 31) (Go.Operand.tmp 40) (Go.Operand.const (Go.Value.bool false)), type := 4, pos := "l6_jobs.go:65", after := #[{ on := 7, ground := Go.Ground.data }, { on := 16, ground := Go.Ground.data }, { on := 4, ground := Go.Ground.guard }], guard := some (4, false) }) (v := ?vu4x17) rfl (by kernel_rfl) (by kernel_rfl) (by kernel_rfl) (fun _ _ _ h => h) (Or.inl ⟨by rfl, ?hyu4x17⟩) hHeld2 ?restu4x17
        case hyu4x17 => first | (intro w hSw; (try dsimp only at hSw); go_simp; done) | (intro w hSw; (try dsimp only at hSw); go_simp; with_reducible rfl)
        (try simp only [Act.put, List.setIfInBounds_toArray, List.set_cons_zero, List.set_cons_succ])
        refine wpAnyH_take (i := 18) (oi := { dst := some 42, op := Go.Op.pick (Go.Operand.tmp 28) (Go.Operand.const (Go.Value.bool true)) (Go.Operand.tmp 41), type := 4, pos := "l6_jobs.go:65", after := #[{ on := 4, ground := Go.Ground.data }, { on := 17, ground := Go.Ground.data }], guard := none }) (v := ?vu4x18) rfl (by kernel_rfl) (by kernel_rfl) (by kernel_rfl) (fun _ _ _ h => h) (Or.inl ⟨by rfl, ?hyu4x18⟩) hHeld2 ?restu4x18
        case hyu4x18 => first | (intro w hSw; (try dsimp only at hSw); go_simp; done) | (intro w hSw; (try dsimp only at hSw); go_simp; with_reducible rfl)
        (try simp only [Act.put, List.setIfInBounds_toArray, List.set_cons_zero, List.set_cons_succ])
        refine wpAnyH_done (by kernel_rfl) ?_ _
        go_wp2
        go_roundw
        case rel => exact ⟨q + 1, by omega, by go_num, HPN, Lib.hid (by repeat (first | with_reducible exact HO5.out.below HB7.out | refine OrdAt.drewN ?_ _ | refine OrdAt.drew ?_)), Lib.hid (bl_trans HW5.out (by repeat (first | with_reducible exact HB7.out | with_reducible refine Below.drew ?_ | with_reducible refine bl_drewN ?_ _ | with_reducible refine bl_alloc ?_ _)))⟩
        case measure => simp [intOf]; omega
    · obtain rfl : q = m := by omega
      have hall : js.take q = js := List.take_of_length_le (by rw [HM.out]; omega)
      have HPQ := Lib.hid (show seqB ts js = true by rw [← hall]; exact HP.out)
      have HPB := Lib.hid (show pairB ts js = b by rw [← HR.out]; exact (seq_jobs HS.out (by rw [HM.out]; omega) HPQ.out).symm)
      clear hall
      go_wp2_with fail
      refine (iKeep_is _ A n c ts ((H.out.below HB.out).more HB.out.size) A2 q c2 js ((J.out.below HB.out).more HB.out.size) (by omega) HS.out HPQ.out b HPB.out).mono ?_
      rintro e w8 ⟨rfl, hb⟩
      have HB8 := Lib.hid (bl_trans HB.out hb)
      clear hb
      go_wp2
      go_ret
      exact ⟨rfl, HB8.out⟩

end Go.Proofs.Ytjondedkgkohfaa
