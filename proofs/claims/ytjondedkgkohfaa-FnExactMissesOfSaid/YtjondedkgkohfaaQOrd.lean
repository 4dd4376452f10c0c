/- Contracts of the program's order of jobs: its keys, comingOrder, before. Nothing that was there is written. -/
import Derived.Test.YtjondedkgkohfaaSJa
import Derived.LoopTactic
import Derived.Deep.RegionHeld3
namespace Go.Proofs.Ytjondedkgkohfaa
open Go.RowKit
set_option linter.unusedVariables false

theorem key0_any (ta tm ne : Int) (w : World) : Calls Try.prog 90 #[.agg #[.int .i64 ta, .int .i64 tm, .int .i64 ne]] w fun e w' => e = .returned (.int .i64 tm) ∧ Below w.heap.size w w' := by
  go_enter Try.func90, Try.ntmps90
  go_wp2
  go_ret
  exact ⟨rfl, (by repeat (first | exact Below.refl _ _ | refine bl_drewN ?_ _ | refine Below.drew ?_ | refine bl_alloc ?_ _))⟩
theorem key1_any (ta tm ne : Int) (w : World) : Calls Try.prog 91 #[.agg #[.int .i64 ta, .int .i64 tm, .int .i64 ne]] w fun e w' => e = .returned (.int .i64 ta) ∧ Below w.heap.size w w' := by
  go_enter Try.func91, Try.ntmps91
  go_wp2
  go_ret
  exact ⟨rfl, (by repeat (first | exact Below.refl _ _ | refine bl_drewN ?_ _ | refine Below.drew ?_ | refine bl_alloc ?_ _))⟩
/-- In block g lie the two keys. -/
structure OrdAt (w : World) (g : Nat) : Prop where
  lt : g < w.heap.size
  c0 : w.cell? ⟨g, 0, none⟩ = some (.func (.func 90) #[] #[])
  c1 : w.cell? ⟨g, 1, none⟩ = some (.func (.func 91) #[] #[])
theorem OrdAt.below {w w' : World} {g : Nat} (h : OrdAt w g) (hb : Below w.heap.size w w') : OrdAt w' g :=
  ⟨Nat.lt_of_lt_of_le h.lt hb.size, (hb.cell (p := ⟨g, 0, none⟩) h.lt).trans h.c0, (hb.cell (p := ⟨g, 1, none⟩) h.lt).trans h.c1⟩
theorem OrdAt.alloc {w : World} {g : Nat} (h : OrdAt w g) (x : Obj) : OrdAt (w.alloc x) g := h.below (bl_alloc (Below.refl _ _) _)
theorem OrdAt.drew {w : World} {g : Nat} (h : OrdAt w g) : OrdAt w.drew g := h.below (Below.drew (Below.refl _ _))
theorem OrdAt.drewN {w : World} {g : Nat} (h : OrdAt w g) (k : Nat) : OrdAt (w.drewN k) g := h.below (bl_drewN (Below.refl _ _) k)
def ordV (g : Nat) : Value := .slice (some ⟨g, 0, none⟩) 2 2
/-- comingOrder: a new block with the two keys. -/
def OrdRes (w : World) (e : Ending) (w' : World) : Prop := ∃ g, e = .returned (ordV g) ∧ OrdAt w' g ∧ w.heap.size ≤ g ∧ Below w.heap.size w w'
theorem iOrder_is (w : World) : Calls Try.prog 76 #[] w (OrdRes w) := by
  go_enter Try.func76, Try.ntmps76
  go_wp2
  go_ret
  exact ⟨w.heap.size, rfl, ⟨by simp, (Blk.new w _ _).cell 0, (Blk.new w _ _).cell 1⟩, Nat.le_refl _, (by repeat (first | exact Below.refl _ _ | refine bl_drewN ?_ _ | refine Below.drew ?_ | refine bl_alloc ?_ _))⟩

set_option maxHeartbeats 2000000 in
theorem iBef_is (w : World) (g : Nat) (ho : OrdAt w g) (a j : Jb) (b : Bool) (hb : befB a j = b) :
    Calls Try.prog 77 #[ordV g, a.val, j.val] w (BRes b w) := by
  have HO := Lib.hid ho
  have hgl := ho.lt
  clear ho
  unfold Jb.val ordV
  obtain ⟨ta, tm, te⟩ := a
  obtain ⟨sa, sm, se⟩ := j
  dsimp only
  have HV := Lib.hid hb
  clear hb
  go_enter Try.func77, Try.ntmps77
  go_wp2
  go_loopw [13] (fun i wr => ∃ k : Nat, k ≤ 2 ∧ i = .int .i64 k ∧ Hid (1 ≤ k → tm = sm) ∧ Hid (2 ≤ k → ta = sa) ∧ Hid (Below w.heap.size w wr) ∧ Hid (Blk wr w.heap.size 35 #[.int .i64 ta, .int .i64 tm, .int .i64 te]) ∧ Hid (Blk wr (w.heap.size + 1) 35 #[.int .i64 sa, .int .i64 sm, .int .i64 se])) (fun i _ => 2 - (intOf i).toNat)
  case atStart => exact ⟨0, by omega, rfl, Lib.hid (by omega), Lib.hid (by omega), Lib.hid (by repeat (first | exact Below.refl _ _ | refine bl_drewN ?_ _ | refine Below.drew ?_ | refine bl_alloc ?_ _)), Lib.hid ((Blk.new w _ _).alloc _), Lib.hid (by have h := Blk.new (w.alloc (.cells #[.int .i64 ta, .int .i64 tm, .int .i64 te] 35)) 35 #[.int .i64 sa, .int .i64 sm, .int .i64 se]; simpa using h)⟩
  case round =>
    obtain ⟨k, hk, rfl, h1, h2, HB, HBA, HBB⟩ := hrel
    have hOr := HO.out.below HB.out
    have g0 := hOr.c0
    have g1 := hOr.c1
    have lA := HBA.out.lt
    have lB := HBB.out.lt
    clear hOr
    obtain rfl | rfl | rfl : k = 0 ∨ k = 1 ∨ k = 2 := by omega
    · clear g1
      have p0 := HBA.out.cell 0
      have p1 := HBA.out.cell 1
      have p2 := HBA.out.cell 2
      have s0 := HBB.out.cell 0
      have s1 := HBB.out.cell 1
      have s2 := HBB.out.cell 2
      go_wp2
      go_region_held3 (fun W => W.cell? ⟨w.heap.size, 0, none⟩ = some (.int .i64 ta) ∧ W.cell? ⟨w.heap.size, 1, none⟩ = some (.int .i64 tm) ∧ W.cell? ⟨w.heap.size, 2, none⟩ = some (.int .i64 te) ∧ W.cell? ⟨w.heap.size + 1, 0, none⟩ = some (.int .i64 sa) ∧ W.cell? ⟨w.heap.size + 1, 1, none⟩ = some (.int .i64 sm) ∧ W.cell? ⟨w.heap.size + 1, 2, none⟩ = some (.int .i64 se)) (first | assumption | (simp [go_sem, *]; done))
        ((first
          | (have uu := HBA; clear uu; go_at_call 90; refine (key0_any _ _ _ _).mono ?_; rintro e w2 ⟨rfl, hb⟩; have HD := Lib.hid (show Below wr.heap.size wr w2 from bl_trans (by repeat (first | exact Below.refl _ _ | with_reducible refine Below.drew ?_ | with_reducible refine bl_drewN ?_ _)) hb); have q0 := (HBA.out.below HD.out HBA.out.lt).cell 0; have q1 := (HBA.out.below HD.out HBA.out.lt).cell 1; have q2 := (HBA.out.below HD.out HBA.out.lt).cell 2; have r0 := (HBB.out.below HD.out HBB.out.lt).cell 0; have r1 := (HBB.out.below HD.out HBB.out.lt).cell 1; have r2 := (HBB.out.below HD.out HBB.out.lt).cell 2; have HBA2 := Lib.hid (HBA.out.below HD.out HBA.out.lt); have HBB2 := Lib.hid (HBB.out.below HD.out HBB.out.lt); clear HBA HBB hb p0 p1 p2 s0 s1 s2)
          | (have uu := HBA2; clear uu; go_at_call 90; refine (key0_any _ _ _ _).mono ?_; rintro e w3 ⟨rfl, hb⟩; have HD2 := Lib.hid (show Below wr.heap.size wr w3 from bl_trans (by repeat (first | with_reducible exact HD.out | with_reducible refine Below.drew ?_ | with_reducible refine bl_drewN ?_ _)) hb); have HBA3 := Lib.hid (show Blk w3 w.heap.size 35 #[.int .i64 ta, .int .i64 tm, .int .i64 te] from HBA2.out.below (bl_trans (by repeat (first | exact Below.refl _ _ | with_reducible refine Below.drew ?_ | with_reducible refine bl_drewN ?_ _)) hb) HBA2.out.lt); have HBB3 := Lib.hid (show Blk w3 (w.heap.size + 1) 35 #[.int .i64 sa, .int .i64 sm, .int .i64 se] from HBB2.out.below (bl_trans (by repeat (first | exact Below.refl _ _ | with_reducible refine Below.drew ?_ | with_reducible refine bl_drewN ?_ _)) hb) HBB2.out.lt); have t0 := HBA3.out.cell 0; have t1 := HBA3.out.cell 1; have t2 := HBA3.out.cell 2; have v0 := HBB3.out.cell 0; have v1 := HBB3.out.cell 1; have v2 := HBB3.out.cell 2; clear HBA2 HBB2 hb q0 q1 q2 r0 r1 r2)))
      all_goals
        by_cases hx : tm = sm
        · have tx : (tm != sm) = false := by simp; exact hx
          have HX := Lib.hid hx
          clear hx
          go_wp2
          go_roundw
          case rel => exact ⟨1, by omega, by go_num, Lib.hid fun _ => HX.out, Lib.hid (by omega), Lib.hid (bl_trans HB.out (HD2.out.mono (by omega))), HBA3, HBB3⟩
          case measure => simp [intOf]
        · have tx : (tm != sm) = true := by simp; exact hx
          have HX := Lib.hid hx
          clear hx
          go_wp2
          go_ret
          exact ⟨by
            have hv := HV.out
            unfold befB at hv
            dsimp only at hv
            rw [← hv]
            rw [decide_eq_false (fun h => HX.out h)]; simp, (by repeat (first | with_reducible exact (bl_trans HB.out (HD2.out.mono (by omega))) | with_reducible refine Below.drew ?_ | with_reducible refine bl_drewN ?_ _ | with_reducible refine bl_alloc ?_ _))⟩
    · clear g0
      have p0 := HBA.out.cell 0
      have p1 := HBA.out.cell 1
      have p2 := HBA.out.cell 2
      have s0 := HBB.out.cell 0
      have s1 := HBB.out.cell 1
      have s2 := HBB.out.cell 2
      go_wp2
      go_region_held3 (fun W => W.cell? ⟨w.heap.size, 0, none⟩ = some (.int .i64 ta) ∧ W.cell? ⟨w.heap.size, 1, none⟩ = some (.int .i64 tm) ∧ W.cell? ⟨w.heap.size, 2, none⟩ = some (.int .i64 te) ∧ W.cell? ⟨w.heap.size + 1, 0, none⟩ = some (.int .i64 sa) ∧ W.cell? ⟨w.heap.size + 1, 1, none⟩ = some (.int .i64 sm) ∧ W.cell? ⟨w.heap.size + 1, 2, none⟩ = some (.int .i64 se)) (first | assumption | (simp [go_sem, *]; done))
        ((first
          | (have uu := HBA; clear uu; go_at_call 91; refine (key1_any _ _ _ _).mono ?_; rintro e w2 ⟨rfl, hb⟩; have HD := Lib.hid (show Below wr.heap.size wr w2 from bl_trans (by repeat (first | exact Below.refl _ _ | with_reducible refine Below.drew ?_ | with_reducible refine bl_drewN ?_ _)) hb); have q0 := (HBA.out.below HD.out HBA.out.lt).cell 0; have q1 := (HBA.out.below HD.out HBA.out.lt).cell 1; have q2 := (HBA.out.below HD.out HBA.out.lt).cell 2; have r0 := (HBB.out.below HD.out HBB.out.lt).cell 0; have r1 := (HBB.out.below HD.out HBB.out.lt).cell 1; have r2 := (HBB.out.below HD.out HBB.out.lt).cell 2; have HBA2 := Lib.hid (HBA.out.below HD.out HBA.out.lt); have HBB2 := Lib.hid (HBB.out.below HD.out HBB.out.lt); clear HBA HBB hb p0 p1 p2 s0 s1 s2)
          | (have uu := HBA2; clear uu; go_at_call 91; refine (key1_any _ _ _ _).mono ?_; rintro e w3 ⟨rfl, hb⟩; have HD2 := Lib.hid (show Below wr.heap.size wr w3 from bl_trans (by repeat (first | with_reducible exact HD.out | with_reducible refine Below.drew ?_ | with_reducible refine bl_drewN ?_ _)) hb); have HBA3 := Lib.hid (show Blk w3 w.heap.size 35 #[.int .i64 ta, .int .i64 tm, .int .i64 te] from HBA2.out.below (bl_trans (by repeat (first | exact Below.refl _ _ | with_reducible refine Below.drew ?_ | with_reducible refine bl_drewN ?_ _)) hb) HBA2.out.lt); have HBB3 := Lib.hid (show Blk w3 (w.heap.size + 1) 35 #[.int .i64 sa, .int .i64 sm, .int .i64 se] from HBB2.out.below (bl_trans (by repeat (first | exact Below.refl _ _ | with_reducible refine Below.drew ?_ | with_reducible refine bl_drewN ?_ _)) hb) HBB2.out.lt); have t0 := HBA3.out.cell 0; have t1 := HBA3.out.cell 1; have t2 := HBA3.out.cell 2; have v0 := HBB3.out.cell 0; have v1 := HBB3.out.cell 1; have v2 := HBB3.out.cell 2; clear HBA2 HBB2 hb q0 q1 q2 r0 r1 r2)))
      all_goals
        by_cases hx : ta = sa
        · have tx : (ta != sa) = false := by simp; exact hx
          have HX := Lib.hid hx
          clear hx
          go_wp2
          go_roundw
          case rel => exact ⟨2, by omega, by go_num, Lib.hid fun _ => h1.out (by omega), Lib.hid fun _ => HX.out, Lib.hid (bl_trans HB.out (HD2.out.mono (by omega))), HBA3, HBB3⟩
          case measure => simp [intOf]
        · have tx : (ta != sa) = true := by simp; exact hx
          have HX := Lib.hid hx
          clear hx
          go_wp2
          go_ret
          exact ⟨by
            have hv := HV.out
            unfold befB at hv
            dsimp only at hv
            rw [← hv]
            have e1 : tm = sm := h1.out (by omega)
            rw [decide_eq_true e1]; subst e1; simp, (by repeat (first | with_reducible exact (bl_trans HB.out (HD2.out.mono (by omega))) | with_reducible refine Below.drew ?_ | with_reducible refine bl_drewN ?_ _ | with_reducible refine bl_alloc ?_ _))⟩
    · clear g0 g1
      go_wp2
      go_ret
      exact ⟨by
        have hv := HV.out
        unfold befB at hv
        dsimp only at hv
        have e1 : tm = sm := h1.out (by omega)
        have e2 : ta = sa := h2.out (by omega)
        subst e1 e2
        rw [← hv]; simp, HB.out⟩

end Go.Proofs.Ytjondedkgkohfaa
