/- Contract of the reference's FormatJobs. Nothing that was there is written. -/
import Derived.Test.YthdclaljgimclaaDoorSNe
import Derived.Test.YthdclaljgimclaaDoorM2
import Derived.Test.YthdclaljgimclaaDoorDec
import Derived.Deep.RegionHeld3
namespace Go.Proofs.YthdclaljgimclaaDoor
open Go.RowKit
set_option linter.unusedVariables false

set_option maxRecDepth 100000 in
set_option maxHeartbeats 4000000 in
theorem sFmtJ_is (w : World) (A : Option Addr) (n c : Nat) (js : List Jb) (h : Jbs w w.heap.size A n js) :
    Calls Tryd.prog 12 #[.slice A n c] w (StrRes (fmtJ js) w) := by
  have J := Lib.hid h
  have HM := Lib.hid h.len
  clear h
  by_cases h60 : 60 < n
  · have hv : fmtJ js = [] := by unfold fmtJ; rw [if_neg]; intro hx; have := (wrsB_iff.1 hx).1; have := HM.out; omega
    rw [hv]
    have d1 : ¬ (n : Int) ≤ 60 := by omega
    have d2 : ¬ n ≤ 60 := by omega
    have n0 : (0 : Int) < (n : Int) := by omega
    have n00 : 0 < n := by omega
    clear hv
    go_enter Tryd.func12, Tryd.ntmps12
    go_wp2
    go_loopw [3, 4] (fun v i wr => v = str [] ∧ i = .int .i64 0 ∧ wr = w) (fun _ i _ => 0)
    case atStart => exact ⟨rfl, rfl, rfl⟩
    case round =>
      obtain ⟨rfl, rfl, rfl⟩ := hrel
      go_wp2
      go_ret
      exact ⟨rfl, Below.refl _ _⟩
  have d1 : (n : Int) ≤ 60 := by omega
  have d2 : n ≤ 60 := by omega
  go_enter Tryd.func12, Tryd.ntmps12
  go_wp2
  go_loopw [3, 4] (fun v i wr => ∃ (q : Nat) (o : List UInt8), q ≤ n ∧ i = .int .i64 q ∧ v = str o ∧ Hid (o = textJs (js.take q)) ∧ Hid (∀ j ∈ js.take q, wrB j = true) ∧ Hid (Below w.heap.size w wr)) (fun _ i _ => n - (intOf i).toNat)
  case atStart => exact ⟨0, [], Nat.zero_le _, rfl, rfl, Lib.hid rfl, Lib.hid (by simp), Lib.hid (Below.refl _ _)⟩
  case round =>
    obtain ⟨q, o, hq, rfl, rfl, HO, HW, HB⟩ := hrel
    have hol : o.length ≤ 720 := by rw [HO.out]; exact Nat.le_trans (textJs_len HW.out) (by rw [List.length_take]; omega)
    by_cases hqn : q < n
    · have q2 : (q : Int) < (n : Int) := by omega
      obtain ⟨j, hj⟩ : ∃ j, js[q]? = some j := ⟨js[q]'(by rw [HM.out]; exact hqn), List.getElem?_eq_getElem _⟩
      have HJ := Lib.hid hj
      cases hw : wrB j
      · have hv : fmtJ js = [] := by unfold fmtJ; rw [wrs_no hj hw]; rfl
        have HV := Lib.hid hv
        have HX := Lib.hid (fun W : World => sText_is W j false hw)
        obtain ⟨bj, oj, rfl, hbj, c0, c1, c2⟩ := (J.out.below HB.out).at_ q j hj
        clear hj hw hv
        unfold Jb.val at HX
        go_wp2_with fail
        refine (HX.out _).mono ?_
        rintro e w1 ⟨rfl, hb⟩
        have HB1 := Lib.hid (bl_trans HB.out hb)
        clear hb
        go_wp2
        go_ret
        exact ⟨by rw [HV.out]; rfl, HB1.out⟩
      have HX := Lib.hid (fun W : World => sText_is W j true hw)
      obtain ⟨b1, b2, b3, b4, b5, b6⟩ := wrB_iff.1 hw
      have HW2 := Lib.hid (show ∀ u ∈ js.take (q + 1), wrB u = true by
        rw [List.take_add_one, hj]
        intro u hu
        rcases List.mem_append.1 hu with hu | hu
        · exact HW.out u hu
        · rw [show u = j by simpa using hu]; exact hw)
      obtain ⟨bj, oj, rfl, hbj, c0, c1, c2⟩ := (J.out.below HB.out).at_ q j hj
      clear hj hw
      unfold Jb.val at HX
      go_wp2_with fail
      refine (HX.out _).mono ?_
      rintro e w5 ⟨rfl, hb⟩
      have HB5 := Lib.hid (bl_trans HB.out hb)
      have hbj5 : bj < w5.heap.size := by have := HB5.out.size; omega
      clear hb c0 c1 c2 HX
      obtain ⟨_, c0, c1, c2⟩ := (J.out.below HB5.out).get HJ.out
      obtain ⟨x, hx⟩ : ∃ x : Nat, j.ta = (x : Int) := ⟨j.ta.toNat, by omega⟩
      obtain ⟨y, hy⟩ : ∃ x : Nat, j.tm = (x : Int) := ⟨j.tm.toNat, by omega⟩
      obtain ⟨z, hz⟩ : ∃ x : Nat, j.ne = (x : Int) := ⟨j.ne.toNat, by omega⟩
      have htx : textJ j = Lib.decDigits x ++ 64 :: (Lib.decDigits y ++ 58 :: Lib.decDigits z) := by unfold textJ decJ; rw [hx, hy, hz]; rfl
      rw [hx] at c0 b1 b2
      rw [hy] at c1 b3 b4
      rw [hz] at c2 b5 b6
      have l1 := (isNum (z := (x : Int)) (by omega) (by omega)).len
      have l2 := (isNum (z := (y : Int)) (by omega) (by omega)).len
      have l3 := (isNum (z := (z : Int)) (by omega) (by omega)).len
      unfold decJ at l1 l2 l3
      rw [Int.toNat_natCast] at l1 l2 l3
      have HTX := Lib.hid htx
      have HC := Lib.hid (And.intro c0 (And.intro c1 c2))
      clear hx hy hz htx c0 c1 c2
      have hx9 : x ≤ 4000000000 := by omega
      have hy9 : y ≤ 4000000000 := by omega
      have hz9 : z ≤ 4000000000 := by omega
      by_cases hq0 : q = 0
      · have HN := Lib.hid (show textJs (js.take (q + 1)) = o ++ textJ j by
          have e0 : js.take q = [] := by rw [hq0]; rfl
          rw [List.take_add_one, HJ.out, e0, HO.out, e0]
          rfl)
        subst hq0
        simp only [Nat.zero_mul, Nat.add_zero] at HC
        have k1 : ¬ 9223372036854775807 < o.length + (Lib.decDigits x).length := by omega
        have k2 : ¬ 9223372036854775807 < o.length + (Lib.decDigits x).length + 1 := by omega
        have k3 : ¬ 9223372036854775807 < o.length + (Lib.decDigits x).length + 1 + (Lib.decDigits y).length := by omega
        have k4 : ¬ 9223372036854775807 < o.length + (Lib.decDigits x).length + 1 + (Lib.decDigits y).length + 1 := by omega
        have k5 : ¬ 9223372036854775807 < o.length + (Lib.decDigits x).length + 1 + (Lib.decDigits y).length + 1 + (Lib.decDigits z).length := by omega
        go_wp2_with fail
        refine wp_region_held_drew (S := (fun W => (W.cell? ⟨bj, oj, none⟩ = some (.int .i64 (x : Int))) ∧ (W.cell? ⟨bj, oj + 1, none⟩ = some (.int .i64 (y : Int))) ∧ (W.cell? ⟨bj, oj + 2, none⟩ = some (.int .i64 (z : Int))))) (by kernel_rfl) (by exact HC.out) (fun hHeld0 => ?_)
        refine wpAnyH_take (i := 0) (oi := { dst := some 26, op := Go.Op.move (Go.Operand.tmp 3), type := 9, pos := "l6_jobs.go:47", after := #[], guard := none }) (v := ?vu2x0) rfl (by kernel_rfl) (by kernel_rfl) (by kernel_rfl) (fun _ _ _ h => h) (Or.inl ⟨by rfl, ?hyu2x0⟩) hHeld0 ?restu2x0
        case hyu2x0 => first | (intro w hSw; (try dsimp only at hSw); go_simp; done) | (intro w hSw; (try dsimp only at hSw); go_simp; with_reducible rfl)
        (try simp only [Act.put, List.setIfInBounds_toArray, List.set_cons_zero, List.set_cons_succ])
        refine wpAnyH_take (i := 1) (oi := { dst := some 27, op := Go.Op.move (Go.Operand.tmp 0), type := 23, pos := "l6_jobs.go:47", after := #[], guard := none }) (v := ?vu2x1) rfl (by kernel_rfl) (by kernel_rfl) (by kernel_rfl) (fun _ _ _ h => h) (Or.inl ⟨by rfl, ?hyu2x1⟩) hHeld0 ?restu2x1
        case hyu2x1 => first | (intro w hSw; (try dsimp only at hSw); go_simp; done) | (intro w hSw; (try dsimp only at hSw); go_simp; with_reducible rfl)
        (try simp only [Act.put, List.setIfInBounds_toArray, List.set_cons_zero, List.set_cons_succ])
        refine wpAnyH_take (i := 2) (oi := { dst := some 28, op := Go.Op.move (Go.Operand.tmp 4), type := 3, pos := "l6_jobs.go:47", after := #[], guard := none }) (v := ?vu2x2) rfl (by kernel_rfl) (by kernel_rfl) (by kernel_rfl) (fun _ _ _ h => h) (Or.inl ⟨by rfl, ?hyu2x2⟩) hHeld0 ?restu2x2
        case hyu2x2 => first | (intro w hSw; (try dsimp only at hSw); go_simp; done) | (intro w hSw; (try dsimp only at hSw); go_simp; with_reducible rfl)
        (try simp only [Act.put, List.setIfInBounds_toArray, List.set_cons_zero, List.set_cons_succ])
        refine wpAnyH_take (i := 3) (oi := { dst := some 29, op := Go.Op.indexAddr 23 (Go.Operand.tmp 27) (Go.Operand.tmp 28), type := 0, pos := "l6_jobs.go:47", after := #[{ on := 1, ground := Go.Ground.data }, { on := 2, ground := Go.Ground.data }], guard := none }) (v := ?vu2x3) rfl (by kernel_rfl) (by kernel_rfl) (by kernel_rfl) (fun _ _ _ h => h) (Or.inl ⟨by rfl, ?hyu2x3⟩) hHeld0 ?restu2x3
        case hyu2x3 => first | (intro w hSw; (try dsimp only at hSw); go_simp; done) | (intro w hSw; (try dsimp only at hSw); go_simp; with_reducible rfl)
        (try simp only [Act.put, List.setIfInBounds_toArray, List.set_cons_zero, List.set_cons_succ])
        refine wpAnyH_take (i := 4) (oi := { dst := some 30, op := Go.Op.fieldAddr 35 (Go.Operand.tmp 29) 0, type := 0, pos := "l6_jobs.go:47", after := #[{ on := 3, ground := Go.Ground.data }], guard := none }) (v := ?vu2x4) rfl (by kernel_rfl) (by kernel_rfl) (by kernel_rfl) (fun _ _ _ h => h) (Or.inl ⟨by rfl, ?hyu2x4⟩) hHeld0 ?restu2x4
        case hyu2x4 => first | (intro w hSw; (try dsimp only at hSw); go_simp; done) | (intro w hSw; (try dsimp only at hSw); go_simp; with_reducible rfl)
        (try simp only [Act.put, List.setIfInBounds_toArray, List.set_cons_zero, List.set_cons_succ])
        refine wpAnyH_take (i := 5) (oi := { dst := some 31, op := Go.Op.load 3 (Go.Operand.tmp 30), type := 3, pos := "l6_jobs.go:47", after := #[{ on := 4, ground := Go.Ground.data }], guard := none }) (v := ?vu2x5) rfl (by kernel_rfl) (by kernel_rfl) (by kernel_rfl) (fun _ _ _ h => h) (Or.inl ⟨by rfl, ?hyu2x5⟩) hHeld0 ?restu2x5
        case hyu2x5 => first | (intro w hSw; (try dsimp only at hSw); go_simp; done) | (intro w hSw; (try dsimp only at hSw); go_simp; with_reducible rfl)
        (try simp only [Act.put, List.setIfInBounds_toArray, List.set_cons_zero, List.set_cons_succ])
        refine wpAnyH_take (i := 9) (oi := { dst := some 35, op := Go.Op.move (Go.Operand.tmp 0), type := 23, pos := "l6_jobs.go:47", after := #[], guard := none }) (v := ?vu2x9) rfl (by kernel_rfl) (by kernel_rfl) (by kernel_rfl) (fun _ _ _ h => h) (Or.inl ⟨by rfl, ?hyu2x9⟩) hHeld0 ?restu2x9
        case hyu2x9 => first | (intro w hSw; (try dsimp only at hSw); go_simp; done) | (intro w hSw; (try dsimp only at hSw); go_simp; with_reducible rfl)
        (try simp only [Act.put, List.setIfInBounds_toArray, List.set_cons_zero, List.set_cons_succ])
        refine wpAnyH_take (i := 10) (oi := { dst := some 36, op := Go.Op.move (Go.Operand.tmp 4), type := 3, pos := "l6_jobs.go:47", after := #[], guard := none }) (v := ?vu2x10) rfl (by kernel_rfl) (by kernel_rfl) (by kernel_rfl) (fun _ _ _ h => h) (Or.inl ⟨by rfl, ?hyu2x10⟩) hHeld0 ?restu2x10
        case hyu2x10 => first | (intro w hSw; (try dsimp only at hSw); go_simp; done) | (intro w hSw; (try dsimp only at hSw); go_simp; with_reducible rfl)
        (try simp only [Act.put, List.setIfInBounds_toArray, List.set_cons_zero, List.set_cons_succ])
        refine wpAnyH_take (i := 11) (oi := { dst := some 37, op := Go.Op.indexAddr 23 (Go.Operand.tmp 35) (Go.Operand.tmp 36), type := 0, pos := "l6_jobs.go:47", after := #[{ on := 9, ground := Go.Ground.data }, { on := 10, ground := Go.Ground.data }], guard := none }) (v := ?vu2x11) rfl (by kernel_rfl) (by kernel_rfl) (by kernel_rfl) (fun _ _ _ h => h) (Or.inl ⟨by rfl, ?hyu2x11⟩) hHeld0 ?restu2x11
        case hyu2x11 => first | (intro w hSw; (try dsimp only at hSw); go_simp; done) | (intro w hSw; (try dsimp only at hSw); go_simp; with_reducible rfl)
        (try simp only [Act.put, List.setIfInBounds_toArray, List.set_cons_zero, List.set_cons_succ])
        refine wpAnyH_take (i := 12) (oi := { dst := some 38, op := Go.Op.fieldAddr 35 (Go.Operand.tmp 37) 1, type := 0, pos := "l6_jobs.go:47", after := #[{ on := 11, ground := Go.Ground.data }], guard := none }) (v := ?vu2x12) rfl (by kernel_rfl) (by kernel_rfl) (by kernel_rfl) (fun _ _ _ h => h) (Or.inl ⟨by rfl, ?hyu2x12⟩) hHeld0 ?restu2x12
        case hyu2x12 => first | (intro w hSw; (try dsimp only at hSw); go_simp; done) | (intro w hSw; (try dsimp only at hSw); go_simp; with_reducible rfl)
        (try simp only [Act.put, List.setIfInBounds_toArray, List.set_cons_zero, List.set_cons_succ])
        refine wpAnyH_take (i := 13) (oi := { dst := some 39, op := Go.Op.load 3 (Go.Operand.tmp 38), type := 3, pos := "l6_jobs.go:47", after := #[{ on := 12, ground := Go.Ground.data }], guard := none }) (v := ?vu2x13) rfl (by kernel_rfl) (by kernel_rfl) (by kernel_rfl) (fun _ _ _ h => h) (Or.inl ⟨by rfl, ?hyu2x13⟩) hHeld0 ?restu2x13
        case hyu2x13 => first | (intro w hSw; (try dsimp only at hSw); go_simp; done) | (intro w hSw; (try dsimp only at hSw); go_simp; with_reducible rfl)
        (try simp only [Act.put, List.setIfInBounds_toArray, List.set_cons_zero, List.set_cons_succ])
        refine wpAnyH_take (i := 17) (oi := { dst := some 43, op := Go.Op.move (Go.Operand.tmp 0), type := 23, pos := "l6_jobs.go:47", after := #[], guard := none }) (v := ?vu2x17) rfl (by kernel_rfl) (by kernel_rfl) (by kernel_rfl) (fun _ _ _ h => h) (Or.inl ⟨by rfl, ?hyu2x17⟩) hHeld0 ?restu2x17
        case hyu2x17 => first | (intro w hSw; (try dsimp only at hSw); go_simp; done) | (intro w hSw; (try dsimp only at hSw); go_simp; with_reducible rfl)
        (try simp only [Act.put, List.setIfInBounds_toArray, List.set_cons_zero, List.set_cons_succ])
        refine wpAnyH_take (i := 18) (oi := { dst := some 44, op := Go.Op.move (Go.Operand.tmp 4), type := 3, pos := "l6_jobs.go:47", after := #[], guard := none }) (v := ?vu2x18) rfl (by kernel_rfl) (by kernel_rfl) (by kernel_rfl) (fun _ _ _ h => h) (Or.inl ⟨by rfl, ?hyu2x18⟩) hHeld0 ?restu2x18
        case hyu2x18 => first | (intro w hSw; (try dsimp only at hSw); go_simp; done) | (intro w hSw; (try dsimp only at hSw); go_simp; with_reducible rfl)
        (try simp only [Act.put, List.setIfInBounds_toArray, List.set_cons_zero, List.set_cons_succ])
        refine wpAnyH_take (i := 19) (oi := { dst := some 45, op := Go.Op.indexAddr 23 (Go.Operand.tmp 43) (Go.Operand.tmp 44), type := 0, pos := "l6_jobs.go:47", after := #[{ on := 17, ground := Go.Ground.data }, { on := 18, ground := Go.Ground.data }], guard := none }) (v := ?vu2x19) rfl (by kernel_rfl) (by kernel_rfl) (by kernel_rfl) (fun _ _ _ h => h) (Or.inl ⟨by rfl, ?hyu2x19⟩) hHeld0 ?restu2x19
        case hyu2x19 => first | (intro w hSw; (try dsimp only at hSw); go_simp; done) | (intro w hSw; (try dsimp only at hSw); go_simp; with_reducible rfl)
        (try simp only [Act.put, List.setIfInBounds_toArray, List.set_cons_zero, List.set_cons_succ])
        refine wpAnyH_take (i := 20) (oi := { dst := some 46, op := Go.Op.fieldAddr 35 (Go.Operand.tmp 45) 2, type := 0, pos := "l6_jobs.go:47", after := #[{ on := 19, ground := Go.Ground.data }], guard := none }) (v := ?vu2x20) rfl (by kernel_rfl) (by kernel_rfl) (by kernel_rfl) (fun _ _ _ h => h) (Or.inl ⟨by rfl, ?hyu2x20⟩) hHeld0 ?restu2x20
        case hyu2x20 => first | (intro w hSw; (try dsimp only at hSw); go_simp; done) | (intro w hSw; (try dsimp only at hSw); go_simp; with_reducible rfl)
        (try simp only [Act.put, List.setIfInBounds_toArray, List.set_cons_zero, List.set_cons_succ])
        refine wpAnyH_take (i := 21) (oi := { dst := some 47, op := Go.Op.load 3 (Go.Operand.tmp 46), type := 3, pos := "l6_jobs.go:47", after := #[{ on := 20, ground := Go.Ground.data }], guard := none }) (v := ?vu2x21) rfl (by kernel_rfl) (by kernel_rfl) (by kernel_rfl) (fun _ _ _ h => h) (Or.inl ⟨by rfl, ?hyu2x21⟩) hHeld0 ?restu2x21
        case hyu2x21 => first | (intro w hSw; (try dsimp only at hSw); go_simp; done) | (intro w hSw; (try dsimp only at hSw); go_simp; with_reducible rfl)
        (try simp only [Act.put, List.setIfInBounds_toArray, List.set_cons_zero, List.set_cons_succ])
        refine wpAnyH_ready (rs := [6]) (by kernel_rfl) (by simp) ?_
        refine AllReadyH.cons (o := { dst := some 32, op := Go.Op.call { callee := Go.Callee.value (Go.Operand.func 33), args := #[Go.Operand.tmp 31], argTypes := #[3] }, type := 9, pos := "l6_jobs.go:47", after := #[{ on := 5, ground := Go.Ground.data }], guard := none }) rfl (fun K hK => ?_) AllReadyH.nil
        go_simp
        (go_at_call 33; refine (l11Dec_any _ x (by omega)).mono ?_; rintro e w6 ⟨rfl, hb⟩; have HB6 := Lib.hid (show Below w5.heap.size w5 w6 from bl_trans (by repeat (first | with_reducible exact Below.refl _ _ | with_reducible refine bl_drewN ?_ _ | with_reducible refine Below.drew ?_)) hb); clear hb)
        (try go_wp2_with fail)
        refine hK.out _ _ (by exact And.intro ((HB6.out.cell (p := ⟨bj, oj, none⟩) hbj5).trans HC.out.1) (And.intro ((HB6.out.cell (p := ⟨bj, oj + 1, none⟩) hbj5).trans HC.out.2.1) ((HB6.out.cell (p := ⟨bj, oj + 2, none⟩) hbj5).trans HC.out.2.2))) (fun hHeld1 => ?_)
        clear hK K
        (try simp only [Act.put, List.setIfInBounds_toArray, List.set_cons_zero, List.set_cons_succ])
        refine wpAnyH_take (i := 7) (oi := { dst := some 33, op := Go.Op.binOp Go.BinOp.add 9 (Go.Operand.tmp 26) (Go.Operand.tmp 32) 9, type := 9, pos := "l6_jobs.go:47", after := #[{ on := 0, ground := Go.Ground.data }, { on := 6, ground := Go.Ground.data }], guard := none }) (v := ?vu2x7) rfl (by kernel_rfl) (by kernel_rfl) (by kernel_rfl) (fun _ _ _ h => h) (Or.inl ⟨by rfl, ?hyu2x7⟩) hHeld1 ?restu2x7
        case hyu2x7 => first | (intro w hSw; (try dsimp only at hSw); go_simp; done) | (intro w hSw; (try dsimp only at hSw); go_simp; with_reducible rfl)
        (try simp only [Act.put, List.setIfInBounds_toArray, List.set_cons_zero, List.set_cons_succ])
        refine wpAnyH_take (i := 8) (oi := { dst := some 34, op := Go.Op.binOp Go.BinOp.add 9 (Go.Operand.tmp 33) (Go.Operand.const (Go.Value.string { data := #[64] })) 9, type := 9, pos := "l6_jobs.go:47", after := #[{ on := 7, ground := Go.Ground.data }], guard := none }) (v := ?vu2x8) rfl (by kernel_rfl) (by kernel_rfl) (by kernel_rfl) (fun _ _ _ h => h) (Or.inl ⟨by rfl, ?hyu2x8⟩) hHeld1 ?restu2x8
        case hyu2x8 => first | (intro w hSw; (try dsimp only at hSw); go_simp; done) | (intro w hSw; (try dsimp only at hSw); go_simp; with_reducible rfl)
        (try simp only [Act.put, List.setIfInBounds_toArray, List.set_cons_zero, List.set_cons_succ])
        refine wpAnyH_ready (rs := [14]) (by kernel_rfl) (by simp) ?_
        refine AllReadyH.cons (o := { dst := some 40, op := Go.Op.call { callee := Go.Callee.value (Go.Operand.func 33), args := #[Go.Operand.tmp 39], argTypes := #[3] }, type := 9, pos := "l6_jobs.go:47", after := #[{ on := 13, ground := Go.Ground.data }, { on := 6, ground := Go.Ground.chain }], guard := none }) rfl (fun K hK => ?_) AllReadyH.nil
        go_simp
        (go_at_call 33; refine (l11Dec_any _ y (by omega)).mono ?_; rintro e w7 ⟨rfl, hb⟩; have HB7 := Lib.hid (show Below w5.heap.size w5 w7 from bl_trans (by repeat (first | with_reducible exact HB6.out | with_reducible refine bl_drewN ?_ _ | with_reducible refine Below.drew ?_)) hb); clear hb)
        (try go_wp2_with fail)
        refine hK.out _ _ (by exact And.intro ((HB7.out.cell (p := ⟨bj, oj, none⟩) hbj5).trans HC.out.1) (And.intro ((HB7.out.cell (p := ⟨bj, oj + 1, none⟩) hbj5).trans HC.out.2.1) ((HB7.out.cell (p := ⟨bj, oj + 2, none⟩) hbj5).trans HC.out.2.2))) (fun hHeld2 => ?_)
        clear hK K
        (try simp only [Act.put, List.setIfInBounds_toArray, List.set_cons_zero, List.set_cons_succ])
        refine wpAnyH_take (i := 15) (oi := { dst := some 41, op := Go.Op.binOp Go.BinOp.add 9 (Go.Operand.tmp 34) (Go.Operand.tmp 40) 9, type := 9, pos := "l6_jobs.go:47", after := #[{ on := 8, ground := Go.Ground.data }, { on := 14, ground := Go.Ground.data }], guard := none }) (v := ?vu2x15) rfl (by kernel_rfl) (by kernel_rfl) (by kernel_rfl) (fun _ _ _ h => h) (Or.inl ⟨by rfl, ?hyu2x15⟩) hHeld2 ?restu2x15
        case hyu2x15 => first | (intro w hSw; (try dsimp only at hSw); go_simp; done) | (intro w hSw; (try dsimp only at hSw); go_simp; with_reducible rfl)
        (try simp only [Act.put, List.setIfInBounds_toArray, List.set_cons_zero, List.set_cons_succ])
        refine wpAnyH_take (i := 16) (oi := { dst := some 42, op := Go.Op.binOp Go.BinOp.add 9 (Go.Operand.tmp 41) (Go.Operand.const (Go.Value.string { data := #[58] })) 9, type := 9, pos := "l6_jobs.go:47", after := #[{ on := 15, ground := Go.Ground.data }], guard := none }) (v := ?vu2x16) rfl (by kernel_rfl) (by kernel_rfl) (by kernel_rfl) (fun _ _ _ h => h) (Or.inl ⟨by rfl, ?hyu2x16⟩) hHeld2 ?restu2x16
        case hyu2x16 => first | (intro w hSw; (try dsimp only at hSw); go_simp; done) | (intro w hSw; (try dsimp only at hSw); go_simp; with_reducible rfl)
        (try simp only [Act.put, List.setIfInBounds_toArray, List.set_cons_zero, List.set_cons_succ])
        refine wpAnyH_ready (rs := [22]) (by kernel_rfl) (by simp) ?_
        refine AllReadyH.cons (o := { dst := some 48, op := Go.Op.call { callee := Go.Callee.value (Go.Operand.func 33), args := #[Go.Operand.tmp 47], argTypes := #[3] }, type := 9, pos := "l6_jobs.go:47", after := #[{ on := 21, ground := Go.Ground.data }, { on := 14, ground := Go.Ground.chain }], guard := none }) rfl (fun K hK => ?_) AllReadyH.nil
        go_simp
        (go_at_call 33; refine (l11Dec_any _ z (by omega)).mono ?_; rintro e w8 ⟨rfl, hb⟩; have HB8 := Lib.hid (show Below w5.heap.size w5 w8 from bl_trans (by repeat (first | with_reducible exact HB7.out | with_reducible refine bl_drewN ?_ _ | with_reducible refine Below.drew ?_)) hb); clear hb)
        (try go_wp2_with fail)
        refine hK.out _ _ (by exact And.intro ((HB8.out.cell (p := ⟨bj, oj, none⟩) hbj5).trans HC.out.1) (And.intro ((HB8.out.cell (p := ⟨bj, oj + 1, none⟩) hbj5).trans HC.out.2.1) ((HB8.out.cell (p := ⟨bj, oj + 2, none⟩) hbj5).trans HC.out.2.2))) (fun hHeld3 => ?_)
        clear hK K
        (try simp only [Act.put, List.setIfInBounds_toArray, List.set_cons_zero, List.set_cons_succ])
        refine wpAnyH_take (i := 23) (oi := { dst := some 49, op := Go.Op.binOp Go.BinOp.add 9 (Go.Operand.tmp 42) (Go.Operand.tmp 48) 9, type := 9, pos := "l6_jobs.go:47", after := #[{ on := 16, ground := Go.Ground.data }, { on := 22, ground := Go.Ground.data }], guard := none }) (v := ?vu2x23) rfl (by kernel_rfl) (by kernel_rfl) (by kernel_rfl) (fun _ _ _ h => h) (Or.inl ⟨by rfl, ?hyu2x23⟩) hHeld3 ?restu2x23
        case hyu2x23 => first | (intro w hSw; (try dsimp only at hSw); go_simp; done) | (intro w hSw; (try dsimp only at hSw); go_simp; with_reducible rfl)
        (try simp only [Act.put, List.setIfInBounds_toArray, List.set_cons_zero, List.set_cons_succ])
        refine wpAnyH_take (i := 24) (oi := { dst := some 3, op := Go.Op.assign (Go.Operand.tmp 49), type := 9, pos := "l6_jobs.go:47", after := #[{ on := 23, ground := Go.Ground.data }, { on := 22, ground := Go.Ground.chain }, { on := 0, ground := Go.Ground.phase }, { on := 1, ground := Go.Ground.phase }, { on := 2, ground := Go.Ground.phase }, { on := 3, ground := Go.Ground.phase }, { on := 4, ground := Go.Ground.phase }, { on := 5, ground := Go.Ground.phase }, { on := 6, ground := Go.Ground.phase }, { on := 7, ground := Go.Ground.phase }, { on := 8, ground := Go.Ground.phase }, { on := 9, ground := Go.Ground.phase }, { on := 10, ground := Go.Ground.phase }, { on := 11, ground := Go.Ground.phase }, { on := 12, ground := Go.Ground.phase }, { on := 13, ground := Go.Ground.phase }, { on := 14, ground := Go.Ground.phase }, { on := 15, ground := Go.Ground.phase }, { on := 16, ground := Go.Ground.phase }, { on := 17, ground := Go.Ground.phase }, { on := 18, ground := Go.Ground.phase }, { on := 19, ground := Go.Ground.phase }, { on := 20, ground := Go.Ground.phase }, { on := 21, ground := Go.Ground.phase }, { on := 22, ground := Go.Ground.phase }, { on := 23, ground := Go.Ground.phase }], guard := none }) (v := ?vu2x24) rfl (by kernel_rfl) (by kernel_rfl) (by kernel_rfl) (fun _ _ _ h => h) (Or.inl ⟨by rfl, ?hyu2x24⟩) hHeld3 ?restu2x24
        case hyu2x24 => first | (intro w hSw; (try dsimp only at hSw); go_simp; done) | (intro w hSw; (try dsimp only at hSw); go_simp; with_reducible rfl)
        (try simp only [Act.put, List.setIfInBounds_toArray, List.set_cons_zero, List.set_cons_succ])
        refine wpAnyH_done (by kernel_rfl) ?_ _
        have HE := Lib.hid (bl_trans HB5.out HB8.out)
        go_wp2
        go_roundw
        case rel => exact ⟨0 + 1, o ++ textJ j, by omega, by go_num, congrArg Value.string (by rw [HTX.out]; exact ByteArray.ext (by simp [ByteArray.data_append])), Lib.hid HN.out.symm, HW2, HE⟩
        case measure => simp [intOf]; omega
      · have HN := Lib.hid (show textJs (js.take (q + 1)) = o ++ 32 :: textJ j by
          have hne : js.take q ≠ [] := by intro e; have := congrArg List.length e; rw [List.length_take, HM.out] at this; simp at this; omega
          rw [List.take_add_one, HJ.out, Option.toList_some, textJs_snoc j hne, HO.out])
        have q0 : (0 : Int) < (q : Int) := by omega
        have q00 : 0 < q := by omega
        have k0 : ¬ 9223372036854775807 < o.length + 1 := by omega
        have k1 : ¬ 9223372036854775807 < o.length + 1 + (Lib.decDigits x).length := by omega
        have k2 : ¬ 9223372036854775807 < o.length + 1 + (Lib.decDigits x).length + 1 := by omega
        have k3 : ¬ 9223372036854775807 < o.length + 1 + (Lib.decDigits x).length + 1 + (Lib.decDigits y).length := by omega
        have k4 : ¬ 9223372036854775807 < o.length + 1 + (Lib.decDigits x).length + 1 + (Lib.decDigits y).length + 1 := by omega
        have k5 : ¬ 9223372036854775807 < o.length + 1 + (Lib.decDigits x).length + 1 + (Lib.decDigits y).length + 1 + (Lib.decDigits z).length := by omega
        clear hq0
        go_wp2_with fail
        refine wp_region_held_drew (S := (fun W => (W.cell? ⟨bj, oj + q * 3, none⟩ = some (.int .i64 (x : Int))) ∧ (W.cell? ⟨bj, oj + q * 3 + 1, none⟩ = some (.int .i64 (y : Int))) ∧ (W.cell? ⟨bj, oj + q * 3 + 2, none⟩ = some (.int .i64 (z : Int))))) (by kernel_rfl) (by exact HC.out) (fun hHeld0 => ?_)
        refine wpAnyH_take (i := 0) (oi := { dst := some 26, op := Go.Op.move (Go.Operand.tmp 3), type := 9, pos := "l6_jobs.go:47", after := #[], guard := none }) (v := ?vu3x0) rfl (by kernel_rfl) (by kernel_rfl) (by kernel_rfl) (fun _ _ _ h => h) (Or.inl ⟨by rfl, ?hyu3x0⟩) hHeld0 ?restu3x0
        case hyu3x0 => first | (intro w hSw; (try dsimp only at hSw); go_simp; done) | (intro w hSw; (try dsimp only at hSw); go_simp; with_reducible rfl)
        (try simp only [Act.put, List.setIfInBounds_toArray, List.set_cons_zero, List.set_cons_succ])
        refine wpAnyH_take (i := 1) (oi := { dst := some 27, op := Go.Op.move (Go.Operand.tmp 0), type := 23, pos := "l6_jobs.go:47", after := #[], guard := none }) (v := ?vu3x1) rfl (by kernel_rfl) (by kernel_rfl) (by kernel_rfl) (fun _ _ _ h => h) (Or.inl ⟨by rfl, ?hyu3x1⟩) hHeld0 ?restu3x1
        case hyu3x1 => first | (intro w hSw; (try dsimp only at hSw); go_simp; done) | (intro w hSw; (try dsimp only at hSw); go_simp; with_reducible rfl)
        (try simp only [Act.put, List.setIfInBounds_toArray, List.set_cons_zero, List.set_cons_succ])
        refine wpAnyH_take (i := 2) (oi := { dst := some 28, op := Go.Op.move (Go.Operand.tmp 4), type := 3, pos := "l6_jobs.go:47", after := #[], guard := none }) (v := ?vu3x2) rfl (by kernel_rfl) (by kernel_rfl) (by kernel_rfl) (fun _ _ _ h => h) (Or.inl ⟨by rfl, ?hyu3x2⟩) hHeld0 ?restu3x2
        case hyu3x2 => first | (intro w hSw; (try dsimp only at hSw); go_simp; done) | (intro w hSw; (try dsimp only at hSw); go_simp; with_reducible rfl)
        (try simp only [Act.put, List.setIfInBounds_toArray, List.set_cons_zero, List.set_cons_succ])
        refine wpAnyH_take (i := 3) (oi := { dst := some 29, op := Go.Op.indexAddr 23 (Go.Operand.tmp 27) (Go.Operand.tmp 28), type := 0, pos := "l6_jobs.go:47", after := #[{ on := 1, ground := Go.Ground.data }, { on := 2, ground := Go.Ground.data }], guard := none }) (v := ?vu3x3) rfl (by kernel_rfl) (by kernel_rfl) (by kernel_rfl) (fun _ _ _ h => h) (Or.inl ⟨by rfl, ?hyu3x3⟩) hHeld0 ?restu3x3
        case hyu3x3 => first | (intro w hSw; (try dsimp only at hSw); go_simp; done) | (intro w hSw; (try dsimp only at hSw); go_simp; with_reducible rfl)
        (try simp only [Act.put, List.setIfInBounds_toArray, List.set_cons_zero, List.set_cons_succ])
        refine wpAnyH_take (i := 4) (oi := { dst := some 30, op := Go.Op.fieldAddr 35 (Go.Operand.tmp 29) 0, type := 0, pos := "l6_jobs.go:47", after := #[{ on := 3, ground := Go.Ground.data }], guard := none }) (v := ?vu3x4) rfl (by kernel_rfl) (by kernel_rfl) (by kernel_rfl) (fun _ _ _ h => h) (Or.inl ⟨by rfl, ?hyu3x4⟩) hHeld0 ?restu3x4
        case hyu3x4 => first | (intro w hSw; (try dsimp only at hSw); go_simp; done) | (intro w hSw; (try dsimp only at hSw); go_simp; with_reducible rfl)
        (try simp only [Act.put, List.setIfInBounds_toArray, List.set_cons_zero, List.set_cons_succ])
        refine wpAnyH_take (i := 5) (oi := { dst := some 31, op := Go.Op.load 3 (Go.Operand.tmp 30), type := 3, pos := "l6_jobs.go:47", after := #[{ on := 4, ground := Go.Ground.data }], guard := none }) (v := ?vu3x5) rfl (by kernel_rfl) (by kernel_rfl) (by kernel_rfl) (fun _ _ _ h => h) (Or.inl ⟨by rfl, ?hyu3x5⟩) hHeld0 ?restu3x5
        case hyu3x5 => first | (intro w hSw; (try dsimp only at hSw); go_simp; done) | (intro w hSw; (try dsimp only at hSw); go_simp; with_reducible rfl)
        (try simp only [Act.put, List.setIfInBounds_toArray, List.set_cons_zero, List.set_cons_succ])
        refine wpAnyH_take (i := 9) (oi := { dst := some 35, op := Go.Op.move (Go.Operand.tmp 0), type := 23, pos := "l6_jobs.go:47", after := #[], guard := none }) (v := ?vu3x9) rfl (by kernel_rfl) (by kernel_rfl) (by kernel_rfl) (fun _ _ _ h => h) (Or.inl ⟨by rfl, ?hyu3x9⟩) hHeld0 ?restu3x9
        case hyu3x9 => first | (intro w hSw; (try dsimp only at hSw); go_simp; done) | (intro w hSw; (try dsimp only at hSw); go_simp; with_reducible rfl)
        (try simp only [Act.put, List.setIfInBounds_toArray, List.set_cons_zero, List.set_cons_succ])
        refine wpAnyH_take (i := 10) (oi := { dst := some 36, op := Go.Op.move (Go.Operand.tmp 4), type := 3, pos := "l6_jobs.go:47", after := #[], guard := none }) (v := ?vu3x10) rfl (by kernel_rfl) (by kernel_rfl) (by kernel_rfl) (fun _ _ _ h => h) (Or.inl ⟨by rfl, ?hyu3x10⟩) hHeld0 ?restu3x10
        case hyu3x10 => first | (intro w hSw; (try dsimp only at hSw); go_simp; done) | (intro w hSw; (try dsimp only at hSw); go_simp; with_reducible rfl)
        (try simp only [Act.put, List.setIfInBounds_toArray, List.set_cons_zero, List.set_cons_succ])
        refine wpAnyH_take (i := 11) (oi := { dst := some 37, op := Go.Op.indexAddr 23 (Go.Operand.tmp 35) (Go.Operand.tmp 36), type := 0, pos := "l6_jobs.go:47", after := #[{ on := 9, ground := Go.Ground.data }, { on := 10, ground := Go.Ground.data }], guard := none }) (v := ?vu3x11) rfl (by kernel_rfl) (by kernel_rfl) (by kernel_rfl) (fun _ _ _ h => h) (Or.inl ⟨by rfl, ?hyu3x11⟩) hHeld0 ?restu3x11
        case hyu3x11 => first | (intro w hSw; (try dsimp only at hSw); go_simp; done) | (intro w hSw; (try dsimp only at hSw); go_simp; with_reducible rfl)
        (try simp only [Act.put, List.setIfInBounds_toArray, List.set_cons_zero, List.set_cons_succ])
        refine wpAnyH_take (i := 12) (oi := { dst := some 38, op := Go.Op.fieldAddr 35 (Go.Operand.tmp 37) 1, type := 0, pos := "l6_jobs.go:47", after := #[{ on := 11, ground := Go.Ground.data }], guard := none }) (v := ?vu3x12) rfl (by kernel_rfl) (by kernel_rfl) (by kernel_rfl) (fun _ _ _ h => h) (Or.inl ⟨by rfl, ?hyu3x12⟩) hHeld0 ?restu3x12
        case hyu3x12 => first | (intro w hSw; (try dsimp only at hSw); go_simp; done) | (intro w hSw; (try dsimp only at hSw); go_simp; with_reducible rfl)
        (try simp only [Act.put, List.setIfInBounds_toArray, List.set_cons_zero, List.set_cons_succ])
        refine wpAnyH_take (i := 13) (oi := { dst := some 39, op := Go.Op.load 3 (Go.Operand.tmp 38), type := 3, pos := "l6_jobs.go:47", after := #[{ on := 12, ground := Go.Ground.data }], guard := none }) (v := ?vu3x13) rfl (by kernel_rfl) (by kernel_rfl) (by kernel_rfl) (fun _ _ _ h => h) (Or.inl ⟨by rfl, ?hyu3x13⟩) hHeld0 ?restu3x13
        case hyu3x13 => first | (intro w hSw; (try dsimp only at hSw); go_simp; done) | (intro w hSw; (try dsimp only at hSw); go_simp; with_reducible rfl)
        (try simp only [Act.put, List.setIfInBounds_toArray, List.set_cons_zero, List.set_cons_succ])
        refine wpAnyH_take (i := 17) (oi := { dst := some 43, op := Go.Op.move (Go.Operand.tmp 0), type := 23, pos := "l6_jobs.go:47", after := #[], guard := none }) (v := ?vu3x17) rfl (by kernel_rfl) (by kernel_rfl) (by kernel_rfl) (fun _ _ _ h => h) (Or.inl ⟨by rfl, ?hyu3x17⟩) hHeld0 ?restu3x17
        case hyu3x17 => first | (intro w hSw; (try dsimp only at hSw); go_simp; done) | (intro w hSw; (try dsimp only at hSw); go_simp; with_reducible rfl)
        (try simp only [Act.put, List.setIfInBounds_toArray, List.set_cons_zero, List.set_cons_succ])
        refine wpAnyH_take (i := 18) (oi := { dst := some 44, op := Go.Op.move (Go.Operand.tmp 4), type := 3, pos := "l6_jobs.go:47", after := #[], guard := none }) (v := ?vu3x18) rfl (by kernel_rfl) (by kernel_rfl) (by kernel_rfl) (fun _ _ _ h => h) (Or.inl ⟨by rfl, ?hyu3x18⟩) hHeld0 ?restu3x18
        case hyu3x18 => first | (intro w hSw; (try dsimp only at hSw); go_simp; done) | (intro w hSw; (try dsimp only at hSw); go_simp; with_reducible rfl)
        (try simp only [Act.put, List.setIfInBounds_toArray, List.set_cons_zero, List.set_cons_succ])
        refine wpAnyH_take (i := 19) (oi := { dst := some 45, op := Go.Op.indexAddr 23 (Go.Operand.tmp 43) (Go.Operand.tmp 44), type := 0, pos := "l6_jobs.go:47", after := #[{ on := 17, ground := Go.Ground.data }, { on := 18, ground := Go.Ground.data }], guard := none }) (v := ?vu3x19) rfl (by kernel_rfl) (by kernel_rfl) (by kernel_rfl) (fun _ _ _ h => h) (Or.inl ⟨by rfl, ?hyu3x19⟩) hHeld0 ?restu3x19
        case hyu3x19 => first | (intro w hSw; (try dsimp only at hSw); go_simp; done) | (intro w hSw; (try dsimp only at hSw); go_simp; with_reducible rfl)
        (try simp only [Act.put, List.setIfInBounds_toArray, List.set_cons_zero, List.set_cons_succ])
        refine wpAnyH_take (i := 20) (oi := { dst := some 46, op := Go.Op.fieldAddr 35 (Go.Operand.tmp 45) 2, type := 0, pos := "l6_jobs.go:47", after := #[{ on := 19, ground := Go.Ground.data }], guard := none }) (v := ?vu3x20) rfl (by kernel_rfl) (by kernel_rfl) (by kernel_rfl) (fun _ _ _ h => h) (Or.inl ⟨by rfl, ?hyu3x20⟩) hHeld0 ?restu3x20
        case hyu3x20 => first | (intro w hSw; (try dsimp only at hSw); go_simp; done) | (intro w hSw; (try dsimp only at hSw); go_simp; with_reducible rfl)
        (try simp only [Act.put, List.setIfInBounds_toArray, List.set_cons_zero, List.set_cons_succ])
        refine wpAnyH_take (i := 21) (oi := { dst := some 47, op := Go.Op.load 3 (Go.Operand.tmp 46), type := 3, pos := "l6_jobs.go:47", after := #[{ on := 20, ground := Go.Ground.data }], guard := none }) (v := ?vu3x21) rfl (by kernel_rfl) (by kernel_rfl) (by kernel_rfl) (fun _ _ _ h => h) (Or.inl ⟨by rfl, ?hyu3x21⟩) hHeld0 ?restu3x21
        case hyu3x21 => first | (intro w hSw; (try dsimp only at hSw); go_simp; done) | (intro w hSw; (try dsimp only at hSw); go_simp; with_reducible rfl)
        (try simp only [Act.put, List.setIfInBounds_toArray, List.set_cons_zero, List.set_cons_succ])
        refine wpAnyH_ready (rs := [6]) (by kernel_rfl) (by simp) ?_
        refine AllReadyH.cons (o := { dst := some 32, op := Go.Op.call { callee := Go.Callee.value (Go.Operand.func 33), args := #[Go.Operand.tmp 31], argTypes := #[3] }, type := 9, pos := "l6_jobs.go:47", after := #[{ on := 5, ground := Go.Ground.data }], guard := none }) rfl (fun K hK => ?_) AllReadyH.nil
        go_simp
        (go_at_call 33; refine (l11Dec_any _ x (by omega)).mono ?_; rintro e w6 ⟨rfl, hb⟩; have HB6 := Lib.hid (show Below w5.heap.size w5 w6 from bl_trans (by repeat (first | with_reducible exact Below.refl _ _ | with_reducible refine bl_drewN ?_ _ | with_reducible refine Below.drew ?_)) hb); clear hb)
        (try go_wp2_with fail)
        refine hK.out _ _ (by exact And.intro ((HB6.out.cell (p := ⟨bj, oj + q * 3, none⟩) hbj5).trans HC.out.1) (And.intro ((HB6.out.cell (p := ⟨bj, oj + q * 3 + 1, none⟩) hbj5).trans HC.out.2.1) ((HB6.out.cell (p := ⟨bj, oj + q * 3 + 2, none⟩) hbj5).trans HC.out.2.2))) (fun hHeld1 => ?_)
        clear hK K
        (try simp only [Act.put, List.setIfInBounds_toArray, List.set_cons_zero, List.set_cons_succ])
        refine wpAnyH_take (i := 7) (oi := { dst := some 33, op := Go.Op.binOp Go.BinOp.add 9 (Go.Operand.tmp 26) (Go.Operand.tmp 32) 9, type := 9, pos := "l6_jobs.go:47", after := #[{ on := 0, ground := Go.Ground.data }, { on := 6, ground := Go.Ground.data }], guard := none }) (v := ?vu3x7) rfl (by kernel_rfl) (by kernel_rfl) (by kernel_rfl) (fun _ _ _ h => h) (Or.inl ⟨by rfl, ?hyu3x7⟩) hHeld1 ?restu3x7
        case hyu3x7 => first | (intro w hSw; (try dsimp only at hSw); go_simp; done) | (intro w hSw; (try dsimp only at hSw); go_simp; with_reducible rfl)
        (try simp only [Act.put, List.setIfInBounds_toArray, List.set_cons_zero, List.set_cons_succ])
        refine wpAnyH_take (i := 8) (oi := { dst := some 34, op := Go.Op.binOp Go.BinOp.add 9 (Go.Operand.tmp 33) (Go.Operand.const (Go.Value.string { data := #[64] })) 9, type := 9, pos := "l6_jobs.go:47", after := #[{ on := 7, ground := Go.Ground.data }], guard := none }) (v := ?vu3x8) rfl (by kernel_rfl) (by kernel_rfl) (by kernel_rfl) (fun _ _ _ h => h) (Or.inl ⟨by rfl, ?hyu3x8⟩) hHeld1 ?restu3x8
        case hyu3x8 => first | (intro w hSw; (try dsimp only at hSw); go_simp; done) | (intro w hSw; (try dsimp only at hSw); go_simp; with_reducible rfl)
        (try simp only [Act.put, List.setIfInBounds_toArray, List.set_cons_zero, List.set_cons_succ])
        refine wpAnyH_ready (rs := [14]) (by kernel_rfl) (by simp) ?_
        refine AllReadyH.cons (o := { dst := some 40, op := Go.Op.call { callee := Go.Callee.value (Go.Operand.func 33), args := #[Go.Operand.tmp 39], argTypes := #[3] }, type := 9, pos := "l6_jobs.go:47", after := #[{ on := 13, ground := Go.Ground.data }, { on := 6, ground := Go.Ground.chain }], guard := none }) rfl (fun K hK => ?_) AllReadyH.nil
        go_simp
        (go_at_call 33; refine (l11Dec_any _ y (by omega)).mono ?_; rintro e w7 ⟨rfl, hb⟩; have HB7 := Lib.hid (show Below w5.heap.size w5 w7 from bl_trans (by repeat (first | with_reducible exact HB6.out | with_reducible refine bl_drewN ?_ _ | with_reducible refine Below.drew ?_)) hb); clear hb)
        (try go_wp2_with fail)
        refine hK.out _ _ (by exact And.intro ((HB7.out.cell (p := ⟨bj, oj + q * 3, none⟩) hbj5).trans HC.out.1) (And.intro ((HB7.out.cell (p := ⟨bj, oj + q * 3 + 1, none⟩) hbj5).trans HC.out.2.1) ((HB7.out.cell (p := ⟨bj, oj + q * 3 + 2, none⟩) hbj5).trans HC.out.2.2))) (fun hHeld2 => ?_)
        clear hK K
        (try simp only [Act.put, List.setIfInBounds_toArray, List.set_cons_zero, List.set_cons_succ])
        refine wpAnyH_take (i := 15) (oi := { dst := some 41, op := Go.Op.binOp Go.BinOp.add 9 (Go.Operand.tmp 34) (Go.Operand.tmp 40) 9, type := 9, pos := "l6_jobs.go:47", after := #[{ on := 8, ground := Go.Ground.data }, { on := 14, ground := Go.Ground.data }], guard := none }) (v := ?vu3x15) rfl (by kernel_rfl) (by kernel_rfl) (by kernel_rfl) (fun _ _ _ h => h) (Or.inl ⟨by rfl, ?hyu3x15⟩) hHeld2 ?restu3x15
        case hyu3x15 => first | (intro w hSw; (try dsimp only at hSw); go_simp; done) | (intro w hSw; (try dsimp only at hSw); go_simp; with_reducible rfl)
        (try simp only [Act.put, List.setIfInBounds_toArray, List.set_cons_zero, List.set_cons_succ])
        refine wpAnyH_take (i := 16) (oi := { dst := some 42, op := Go.Op.binOp Go.BinOp.add 9 (Go.Operand.tmp 41) (Go.Operand.const (Go.Value.string { data := #[58] })) 9, type := 9, pos := "l6_jobs.go:47", after := #[{ on := 15, ground := Go.Ground.data }], guard := none }) (v := ?vu3x16) rfl (by kernel_rfl) (by kernel_rfl) (by kernel_rfl) (fun _ _ _ h => h) (Or.inl ⟨by rfl, ?hyu3x16⟩) hHeld2 ?restu3x16
        case hyu3x16 => first | (intro w hSw; (try dsimp only at hSw); go_simp; done) | (intro w hSw; (try dsimp only at hSw); go_simp; with_reducible rfl)
        (try simp only [Act.put, List.setIfInBounds_toArray, List.set_cons_zero, List.set_cons_succ])
        refine wpAnyH_ready (rs := [22]) (by kernel_rfl) (by simp) ?_
        refine AllReadyH.cons (o := { dst := some 48, op := Go.Op.call { callee := Go.Callee.value (Go.Operand.func 33), args := #[Go.Operand.tmp 47], argTypes := #[3] }, type := 9, pos := "l6_jobs.go:47", after := #[{ on := 21, ground := Go.Ground.data }, { on := 14, ground := Go.Ground.chain }], guard := none }) rfl (fun K hK => ?_) AllReadyH.nil
        go_simp
        (go_at_call 33; refine (l11Dec_any _ z (by omega)).mono ?_; rintro e w8 ⟨rfl, hb⟩; have HB8 := Lib.hid (show Below w5.heap.size w5 w8 from bl_trans (by repeat (first | with_reducible exact HB7.out | with_reducible refine bl_drewN ?_ _ | with_reducible refine Below.drew ?_)) hb); clear hb)
        (try go_wp2_with fail)
        refine hK.out _ _ (by exact And.intro ((HB8.out.cell (p := ⟨bj, oj + q * 3, none⟩) hbj5).trans HC.out.1) (And.intro ((HB8.out.cell (p := ⟨bj, oj + q * 3 + 1, none⟩) hbj5).trans HC.out.2.1) ((HB8.out.cell (p := ⟨bj, oj + q * 3 + 2, none⟩) hbj5).trans HC.out.2.2))) (fun hHeld3 => ?_)
        clear hK K
        (try simp only [Act.put, List.setIfInBounds_toArray, List.set_cons_zero, List.set_cons_succ])
        refine wpAnyH_take (i := 23) (oi := { dst := some 49, op := Go.Op.binOp Go.BinOp.add 9 (Go.Operand.tmp 42) (Go.Operand.tmp 48) 9, type := 9, pos := "l6_jobs.go:47", after := #[{ on := 16, ground := Go.Ground.data }, { on := 22, ground := Go.Ground.data }], guard := none }) (v := ?vu3x23) rfl (by kernel_rfl) (by kernel_rfl) (by kernel_rfl) (fun _ _ _ h => h) (Or.inl ⟨by rfl, ?hyu3x23⟩) hHeld3 ?restu3x23
        case hyu3x23 => first | (intro w hSw; (try dsimp only at hSw); go_simp; done) | (intro w hSw; (try dsimp only at hSw); go_simp; with_reducible rfl)
        (try simp only [Act.put, List.setIfInBounds_toArray, List.set_cons_zero, List.set_cons_succ])
        refine wpAnyH_take (i := 24) (oi := { dst := some 3, op := Go.Op.assign (Go.Operand.tmp 49), type := 9, pos := "l6_jobs.go:47", after := #[{ on := 23, ground := Go.Ground.data }, { on := 22, ground := Go.Ground.chain }, { on := 0, ground := Go.Ground.phase }, { on := 1, ground := Go.Ground.phase }, { on := 2, ground := Go.Ground.phase }, { on := 3, ground := Go.Ground.phase }, { on := 4, ground := Go.Ground.phase }, { on := 5, ground := Go.Ground.phase }, { on := 6, ground := Go.Ground.phase }, { on := 7, ground := Go.Ground.phase }, { on := 8, ground := Go.Ground.phase }, { on := 9, ground := Go.Ground.phase }, { on := 10, ground := Go.Ground.phase }, { on := 11, ground := Go.Ground.phase }, { on := 12, ground := Go.Ground.phase }, { on := 13, ground := Go.Ground.phase }, { on := 14, ground := Go.Ground.phase }, { on := 15, ground := Go.Ground.phase }, { on := 16, ground := Go.Ground.phase }, { on := 17, ground := Go.Ground.phase }, { on := 18, ground := Go.Ground.phase }, { on := 19, ground := Go.Ground.phase }, { on := 20, ground := Go.Ground.phase }, { on := 21, ground := Go.Ground.phase }, { on := 22, ground := Go.Ground.phase }, { on := 23, ground := Go.Ground.phase }], guard := none }) (v := ?vu3x24) rfl (by kernel_rfl) (by kernel_rfl) (by kernel_rfl) (fun _ _ _ h => h) (Or.inl ⟨by rfl, ?hyu3x24⟩) hHeld3 ?restu3x24
        case hyu3x24 => first | (intro w hSw; (try dsimp only at hSw); go_simp; done) | (intro w hSw; (try dsimp only at hSw); go_simp; with_reducible rfl)
        (try simp only [Act.put, List.setIfInBounds_toArray, List.set_cons_zero, List.set_cons_succ])
        refine wpAnyH_done (by kernel_rfl) ?_ _
        have HE := Lib.hid (bl_trans HB5.out HB8.out)
        go_wp2
        go_roundw
        case rel => exact ⟨q + 1, o ++ 32 :: textJ j, by omega, by go_num, congrArg Value.string (by rw [HTX.out]; exact ByteArray.ext (by simp [ByteArray.data_append])), Lib.hid HN.out.symm, HW2, HE⟩
        case measure => simp [intOf]; omega
    · obtain rfl : q = n := by omega
      have hall : js.take q = js := List.take_of_length_le (by rw [HM.out]; exact Nat.le_refl _)
      have hv : fmtJ js = o := by
        unfold fmtJ
        rw [wrsB_iff.2 ⟨by rw [HM.out]; exact d2, by have := HW.out; rw [hall] at this; exact this⟩, if_pos rfl, HO.out, hall]
      have HV := Lib.hid hv
      clear hv
      go_wp2
      go_ret
      exact ⟨by rw [HV.out]; rfl, HB.out⟩

end Go.Proofs.YthdclaljgimclaaDoor
