import Derived.Test.YtgponahmkjohiabGreatDoorT2NG
import Derived.Test.YtgponahmkjohiabGreatDoorT2MsF
namespace Go.Proofs.YtgponahmkjohiabGreatDoor
open Go.RowKit
set_option linter.unusedVariables false
theorem OwnZ.keptAp {w w' : World} {B : Nat} {v : Value} {zs : List Int} {row : Option Nat} (h : OwnZ w B v zs) (hg : w.grownBy w' row) (hne : ∀ k, v.ownBlock = some k → row ≠ some k) : OwnZ w' B v zs := by
  refine World.ownsRow.kept h hg ?_
  rcases he : v.ownBlock with _ | k
  · exact .inl rfl
  · exact .inr (fun e => hne k he e.symm)
/-- What the marks written into a run leave: the marks, each in its list. -/
def MarkRnA (B k0 : Nat) (v1 v2 v3 : Value) (n1 n2 n3 : Nat) (w : World) (e : Ending) (w' : World) : Prop :=
  e = .returned (.int .i64 ((k0 + n1 + n2 + n3 : Nat) : Int)) ∧ OwnZ w' B v1 (marksZ k0 n1) ∧ OwnZ w' B v2 (marksZ (k0 + n1) n2) ∧ OwnZ w' B v3 (marksZ (k0 + n1 + n2) n3) ∧ Below B w w' ∧ w.heap.size ≤ w'.heap.size ∧
    (∀ B' v us, (∀ k, v.ownBlock = some k → k < B) → OwnZ w B' v us → OwnZ w' B' v us) ∧
    (∀ g t cs, Blk w g t cs → v1.ownBlock ≠ some g → v2.ownBlock ≠ some g → v3.ownBlock ≠ some g → Blk w' g t cs)
set_option maxHeartbeats 2000000 in
theorem heldZ3_any (w : World) (A : Option Addr) (n c k0 : Nat) (h : Zs w w.heap.size A n (marksZ k0 n)) (hn : n ≤ 1048576) (hk0 : k0 ≤ 4000000) :
    Calls Tryz.prog 82 #[.slice A n c, .int .i64 k0] w fun e w' => e = .returned (.int .i64 ((k0 + n : Nat) : Int)) ∧ w = w' := by
  have H := Lib.hid h
  clear h
  go_enter Tryz.func82, Tryz.ntmps82
  go_wp2
  go_loop [1, 5] (fun q i => ∃ j : Nat, j ≤ n ∧ i = .int .i64 j ∧ q = .int .i64 ((k0 + j : Nat) : Int)) (fun _ i => n - (intOf i).toNat)
  case atStart => exact ⟨0, Nat.zero_le _, rfl, rfl⟩
  case round =>
    obtain ⟨j, hj, rfl, rfl⟩ := hrel
    by_cases hlt : j < n
    · obtain ⟨b, o, rfl, hbl, c0⟩ := H.out.at_ j _ (marksZ_get hlt)
      have e0 : w.cell? ⟨b, o + j, none⟩ = some (.int .i64 ((k0 : Int) + (j : Int))) := c0
      clear c0
      have hji : (j : Int) < (n : Int) := by omega
      go_wp2
      go_round
      case rel => exact ⟨j + 1, by omega, by go_num, by go_num⟩
      case measure => simp [intOf]; omega
    · obtain rfl : j = n := by omega
      go_wp2
      go_ret
      exact ⟨rfl, rfl⟩
set_option maxHeartbeats 2000000 in
theorem markRun_apart (w : World) (B : Nat) (A1 : Option Addr) (c1 : Nat) (A2 : Option Addr) (c2 : Nat) (A3 : Option Addr) (c3 : Nat) (hi : Bool) (en tr sw : List Int) (k0 : Nat)
    (o1 : OwnZ w B (.slice A1 en.length c1) en) (o2 : OwnZ w B (.slice A2 tr.length c2) tr) (o3 : OwnZ w B (.slice A3 sw.length c3) sw)
    (a12 : apart (.slice A1 en.length c1) (.slice A2 tr.length c2)) (a13 : apart (.slice A1 en.length c1) (.slice A3 sw.length c3)) (a23 : apart (.slice A2 tr.length c2) (.slice A3 sw.length c3))
    (hB : B ≤ w.heap.size) (m1 : en.length ≤ 1048576) (m2 : tr.length ≤ 1048576) (m3 : sw.length ≤ 1048576) (hk0 : k0 ≤ 30000000) :
    Calls Tryz.prog 39 #[.agg #[.slice A1 en.length c1, .slice A2 tr.length c2, .slice A3 sw.length c3, .bool hi], .int .i64 k0] w (MarkRnA B k0 (.slice A1 en.length c1) (.slice A2 tr.length c2) (.slice A3 sw.length c3) en.length tr.length sw.length w) := by
  have hsz := (World.size_alloc w (.cells #[.slice A1 en.length c1, .slice A2 tr.length c2, .slice A3 sw.length c3, .bool hi] 29))
  have b0 := Blk.new w 29 #[.slice A1 en.length c1, .slice A2 tr.length c2, .slice A3 sw.length c3, .bool hi]
  have q1 : ∀ k, (Value.slice A1 en.length c1).ownBlock = some k → B ≤ k ∧ k < w.heap.size := fun k e => World.ownsRow.lt o1 k e
  have q2 : ∀ k, (Value.slice A2 tr.length c2).ownBlock = some k → B ≤ k ∧ k < w.heap.size := fun k e => World.ownsRow.lt o2 k e
  have q3 : ∀ k, (Value.slice A3 sw.length c3).ownBlock = some k → B ≤ k ∧ k < w.heap.size := fun k e => World.ownsRow.lt o3 k e
  obtain ⟨wa, hwa⟩ : ∃ wa, w.alloc (.cells #[.slice A1 en.length c1, .slice A2 tr.length c2, .slice A3 sw.length c3, .bool hi] 29) = wa := ⟨_, rfl⟩
  have HBa : Hid (Below B w wa) := Lib.hid (by rw [← hwa]; exact bl_less (bl_alloc (Below.refl w.heap.size w) _) (by omega))
  have HD : Hid (∀ B' v us, OwnZ w B' v us → OwnZ wa B' v us) := Lib.hid (fun B' v us h => by rw [← hwa]; exact h.alloc _)
  have HK : Hid (∀ g t cs, Blk w g t cs → Blk wa g t cs) := Lib.hid (fun g t cs h => by rw [← hwa]; exact h.alloc _)
  have O1 := Lib.hid (HD.out _ _ _ o1)
  have O2 := Lib.hid (HD.out _ _ _ o2)
  have O3 := Lib.hid (HD.out _ _ _ o3)
  rw [hwa] at b0 hsz
  have bA := Lib.hid b0
  have Q1 := Lib.hid q1
  have Q2 := Lib.hid q2
  have Q3 := Lib.hid q3
  have P12 := Lib.hid a12
  have P13 := Lib.hid a13
  have P23 := Lib.hid a23
  clear o1 o2 o3 b0 q1 q2 q3 a12 a13 a23
  have cA := bA.out.cell
  go_enter Tryz.func39, Tryz.ntmps39
  go_wp2_with fail
  try rw [hwa]
  refine (markZ_own _ B A1 c1 k0 en O1.out m1 (by omega)).mono ?_
  rintro e w1 ⟨rfl, ho, hg⟩
  have hs1 : wa.heap.size ≤ w1.heap.size := hg.size
  have G1 := Lib.hid hg
  have M1 := Lib.hid ho
  have bA1 := Lib.hid (bA.out.grown hg (fun e => by have := (Q1.out _ e.symm).2; omega))
  have O21 := Lib.hid (O2.out.keptAp hg P12.out.symm)
  have O31 := Lib.hid (O3.out.keptAp hg P13.out.symm)
  clear hg ho cA
  have cA := bA1.out.cell
  go_wp2_with fail
  refine (markZ_own _ B A2 c2 (k0 + en.length) tr O21.out m2 (by omega)).mono ?_
  rintro e w2 ⟨rfl, ho, hg⟩
  have hs2 : w1.heap.size ≤ w2.heap.size := hg.size
  have G2 := Lib.hid hg
  have M12 := Lib.hid (M1.out.keptAp hg P12.out)
  have M2 := Lib.hid ho
  have bA2 := Lib.hid (bA1.out.grown hg (fun e => by have := (Q2.out _ e.symm).2; omega))
  have O32 := Lib.hid (O31.out.keptAp hg P23.out.symm)
  clear hg ho cA
  have cA := bA2.out.cell
  go_wp2_with fail
  refine (markZ_own _ B A3 c3 (k0 + en.length + tr.length) sw O32.out m3 (by omega)).mono ?_
  rintro e w3 ⟨rfl, ho, hg⟩
  have hs3 : w2.heap.size ≤ w3.heap.size := hg.size
  have G3 := Lib.hid hg
  have M13 := Lib.hid (M12.out.keptAp hg P13.out)
  have M23 := Lib.hid (M2.out.keptAp hg P23.out)
  have M3 := Lib.hid ho
  clear hg ho cA
  go_wp2
  go_ret
  refine ⟨rfl, M13.out, M23.out, M3.out, ?_, by omega, fun B' v us hv h => ?_, fun g t cs h h1 h2 h3 => ?_⟩
  · have X1 := HBa.out.grown G1.out (by omega) (fun k e => (Q1.out k e).1)
    have X2 := X1.grown G2.out (by omega) (fun k e => (Q2.out k e).1)
    exact X2.grown G3.out (by omega) (fun k e => (Q3.out k e).1)
  · have X1 := (HD.out B' v us h).kept_dn G1.out hv (fun k e => (Q1.out k e).1)
    have X2 := X1.kept_dn G2.out hv (fun k e => (Q2.out k e).1)
    exact X2.kept_dn G3.out hv (fun k e => (Q3.out k e).1)
  · exact (((HK.out g t cs h).grown G1.out (fun e => h1 e.symm)).grown G2.out (fun e => h2 e.symm)).grown G3.out (fun e => h3 e.symm)
set_option maxHeartbeats 2000000 in
theorem heldRun_any (w : World) (A1 : Option Addr) (n1 c1 : Nat) (A2 : Option Addr) (n2 c2 : Nat) (A3 : Option Addr) (n3 c3 : Nat) (hi : Bool) (k0 : Nat)
    (h1 : Zs w w.heap.size A1 n1 (marksZ k0 n1)) (h2 : Zs w w.heap.size A2 n2 (marksZ (k0 + n1) n2)) (h3 : Zs w w.heap.size A3 n3 (marksZ (k0 + n1 + n2) n3)) (m1 : n1 ≤ 1048576) (m2 : n2 ≤ 1048576) (m3 : n3 ≤ 1048576) (hk0 : k0 ≤ 10) :
    Calls Tryz.prog 40 #[.agg #[.slice A1 n1 c1, .slice A2 n2 c2, .slice A3 n3 c3, .bool hi], .int .i64 k0] w fun e w' => e = .returned (.int .i64 ((k0 + n1 + n2 + n3 : Nat) : Int)) ∧ Below w.heap.size w w' := by
  have b0 := Blk.new w 29 #[.slice A1 n1 c1, .slice A2 n2 c2, .slice A3 n3 c3, .bool hi]
  have hb0 := bl_alloc (Below.refl w.heap.size w) (.cells #[.slice A1 n1 c1, .slice A2 n2 c2, .slice A3 n3 c3, .bool hi] 29)
  have H1 := Lib.hid ((h1.below hb0).more hb0.size)
  have H2 := Lib.hid ((h2.below hb0).more hb0.size)
  have H3 := Lib.hid ((h3.below hb0).more hb0.size)
  have HB := Lib.hid hb0
  obtain ⟨wa, hwa⟩ : ∃ wa, w.alloc (.cells #[.slice A1 n1 c1, .slice A2 n2 c2, .slice A3 n3 c3, .bool hi] 29) = wa := ⟨_, rfl⟩
  rw [hwa] at H1 H2 H3 HB b0
  clear h1 h2 h3 hb0
  have cA := b0.cell
  have d1 : decide (((k0 + n1 : Nat) : Int) < 0) = false := decide_eq_false (by omega)
  have d2 : decide (((k0 + n1 + n2 : Nat) : Int) < 0) = false := decide_eq_false (by omega)
  have d3 : decide (((k0 + n1 + n2 + n3 : Nat) : Int) < 0) = false := decide_eq_false (by omega)
  go_enter Tryz.func40, Tryz.ntmps40
  go_wp2_with fail
  try rw [hwa]
  refine (heldZ3_any _ A1 n1 c1 k0 H1.out m1 (by omega)).mono ?_
  rintro e w1 ⟨rfl, rfl⟩
  go_wp2_with fail
  refine (heldZ3_any _ A2 n2 c2 (k0 + n1) H2.out m2 (by omega)).mono ?_
  rintro e w1 ⟨rfl, rfl⟩
  go_wp2_with fail
  refine (heldZ3_any _ A3 n3 c3 (k0 + n1 + n2) H3.out m3 (by omega)).mono ?_
  rintro e w1 ⟨rfl, rfl⟩
  go_wp2
  go_ret
  exact ⟨rfl, HB.out⟩
end Go.Proofs.YtgponahmkjohiabGreatDoor
