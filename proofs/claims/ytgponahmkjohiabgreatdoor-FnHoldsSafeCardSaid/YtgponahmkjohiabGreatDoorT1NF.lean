import Derived.Shelf.Abstract
import Derived.WalkMore
import Derived.LoopTactic
import Derived.Deep.RegionHeld3
import Derived.Deep.RegionWith
import Derived.Test.YtgponahmkjohiabGreatDoorT1Pk6
namespace Go.Proofs.YtgponahmkjohiabGreatDoor
section
open Go.RowKit
set_option linter.unusedVariables false
set_option maxRecDepth 100000 in
set_option maxHeartbeats 4000000 in
theorem iPlJ_is (w : World) (A2 : Option Addr) (m c2 : Nat) (js : List Jb) (h2 : Jbs w w.heap.size A2 m js) (hm : m ≤ 1100000) (k : Nat) (cap : Array Value) (P : Nat → Bool)
    (ek : ∀ args w, (callFunc k args).run Tryz.prog w = .ok (.enter k args) w)
    (hfn : ∀ (W : World) (q : Nat) (j : Jb), js[q]? = some j → Below w.heap.size w W → Calls Tryz.prog k (#[.int .i64 (q : Int), j.val] ++ cap) W fun e W' => e = .returned (.bool (P q)) ∧ Below W.heap.size W W') :
    Calls Tryz.prog 59 #[.slice A2 m c2, .func (.func k) #[] cap] w (ZsRes (placesI P m) w) := by
  obtain ⟨i0, hi, hz0, hz1, hz2⟩ := info_parts info_int
  have J := Lib.hid h2
  have HM := Lib.hid h2.len
  have HFN := Lib.hid hfn
  clear h2 hfn
  go_enter Tryz.func59, Tryz.ntmps59
  go_wp2
  go_loopw [5, 10] (fun v i wr => ∃ q : Nat, ∃ zs : List Int, q ≤ m ∧ i = .int .i64 q ∧ zs.length ≤ q ∧ Hid (zs = placesI P q) ∧ Hid (OwnZ wr w.heap.size v zs) ∧ Hid (Below w.heap.size w wr)) (fun _ i _ => m - (intOf i).toNat)
  case atStart => exact ⟨0, [], Nat.zero_le _, rfl, Nat.le_refl _, Lib.hid rfl, Lib.hid ⟨rfl, .inl ⟨rfl, rfl⟩⟩, Lib.hid (Below.refl _ _)⟩
  case round =>
    obtain ⟨q, zs, hq, rfl, hzl, HZ, HO, HB⟩ := hrel
    obtain ⟨A3, c3, rfl⟩ := HO.out.form
    by_cases hqm : q < m
    · have q2 : (q : Int) < (m : Int) := by omega
      obtain ⟨j, hj⟩ : ∃ j, js[q]? = some j := ⟨js[q]'(by rw [HM.out]; exact hqm), List.getElem?_eq_getElem _⟩
      obtain ⟨bj, oj, rfl, hbj, a0, a1, a2⟩ := (J.out.below HB.out).at_ q j hj
      obtain ⟨ta, tm, ne⟩ := j
      dsimp only at a0 a1 a2
      have hw1 : w.heap.size ≤ wr.heap.size := HB.out.size
      have cJ := (Blk.new wr 46 #[.int .i64 ta, .int .i64 tm, .int .i64 ne]).cell
      obtain ⟨b, hPb⟩ : ∃ b, P q = b := ⟨_, rfl⟩
      have HPB := Lib.hid hPb
      have hc := HFN.out (wr.alloc (.cells #[.int .i64 ta, .int .i64 tm, .int .i64 ne] 46)) q _ hj (bl_alloc HB.out _)
      rw [hPb] at hc
      have HC := Lib.hid hc
      clear hj hPb hc
      go_wp2_with fail
      go_at_fn k
      refine HC.out.mono ?_
      rintro e w5 ⟨rfl, hb⟩
      have HB5 := Lib.hid (show Below w.heap.size w w5 from bl_trans (bl_alloc HB.out _) hb)
      have HO5 := Lib.hid (show OwnZ w5 w.heap.size (.slice A3 zs.length c3) zs from (HO.out.alloc _).below hb)
      have hs5 : w.heap.size ≤ w5.heap.size := HB5.out.size
      clear hb HC
      cases b
      · have HN := Lib.hid (places_no HPB.out)
        go_wp2
        go_roundw
        case rel => exact ⟨q + 1, zs, by omega, by go_num, by omega, Lib.hid (by rw [HN.out, HZ.out]), HO5, HB5⟩
        case measure => simp [intOf]; omega
      · have HN := Lib.hid (places_yes HPB.out)
        go_wp2_with (at_builtin; refine wpList_append_own _ rfl (.tmp 19) (.tmp 21) 27 rfl w.heap.size 3 i0 _ 1 8 Tryz.underlying27 hi hz0 hz1 hz2 rfl (by decide) _ zs.length (zs.map (Value.int .i64)) rfl (HO5.out.alloc _) ⟨w5.heap.size, 0, none⟩ 1 1 [Value.int .i64 (q : Int)] rfl rfl (cell_new1_at _ _ _ _ rfl) (by intro u hu; rw [List.mem_singleton.1 hu]; rfl) (by unfold maxLen; omega) (by omega) (by simp; omega) ?_; intro v2 w9 hown2 hgrow2 _; have HO2 := Lib.hid (show OwnZ w9 w.heap.size v2 (zs ++ [(q : Int)]) from OwnZ.snoc hown2); have HB9 := Lib.hid ((bl_alloc HB5.out _).grown hgrow2 (by simp; omega) (fun k e => (World.ownsRow.lt HO5.out k e).1)); clear hown2 hgrow2)
        go_wp2
        go_roundw
        case rel => exact ⟨q + 1, zs ++ [(q : Int)], by omega, by go_num, by simp; omega, Lib.hid (by rw [HN.out, HZ.out]), HO2, HB9⟩
        case measure => simp [intOf]; omega
    · obtain rfl : q = m := by omega
      go_wp2
      go_ret
      rw [← HZ.out]
      exact ⟨A3, c3, rfl, HO.out, HB.out⟩
end
section
open Go.RowKit
set_option linter.unusedVariables false
theorem key0_any (ta tm ne : Int) (w : World) : Calls Tryz.prog 91 #[.agg #[.int .i64 ta, .int .i64 tm, .int .i64 ne]] w fun e w' => e = .returned (.int .i64 tm) ∧ Below w.heap.size w w' := by
  go_enter Tryz.func91, Tryz.ntmps91
  go_wp2
  go_ret
  exact ⟨rfl, (by repeat (first | exact Below.refl _ _ | refine bl_drewN ?_ _ | refine Below.drew ?_ | refine bl_alloc ?_ _))⟩
theorem key1_any (ta tm ne : Int) (w : World) : Calls Tryz.prog 90 #[.agg #[.int .i64 ta, .int .i64 tm, .int .i64 ne]] w fun e w' => e = .returned (.int .i64 ta) ∧ Below w.heap.size w w' := by
  go_enter Tryz.func90, Tryz.ntmps90
  go_wp2
  go_ret
  exact ⟨rfl, (by repeat (first | exact Below.refl _ _ | refine bl_drewN ?_ _ | refine Below.drew ?_ | refine bl_alloc ?_ _))⟩
/-- In block g lie the two keys. -/
structure OrdAt (w : World) (g : Nat) : Prop where
  lt : g < w.heap.size
  c0 : w.cell? ⟨g, 0, none⟩ = some (.func (.func 91) #[] #[])
  c1 : w.cell? ⟨g, 1, none⟩ = some (.func (.func 90) #[] #[])
theorem OrdAt.below {w w' : World} {g : Nat} (h : OrdAt w g) (hb : Below w.heap.size w w') : OrdAt w' g :=
  ⟨Nat.lt_of_lt_of_le h.lt hb.size, (hb.cell (p := ⟨g, 0, none⟩) h.lt).trans h.c0, (hb.cell (p := ⟨g, 1, none⟩) h.lt).trans h.c1⟩
theorem OrdAt.alloc {w : World} {g : Nat} (h : OrdAt w g) (x : Obj) : OrdAt (w.alloc x) g := h.below (bl_alloc (Below.refl _ _) _)
theorem OrdAt.drew {w : World} {g : Nat} (h : OrdAt w g) : OrdAt w.drew g := h.below (Below.drew (Below.refl _ _))
theorem OrdAt.drewN {w : World} {g : Nat} (h : OrdAt w g) (k : Nat) : OrdAt (w.drewN k) g := h.below (bl_drewN (Below.refl _ _) k)
def ordV (g : Nat) : Value := .slice (some ⟨g, 0, none⟩) 2 2
/-- comingOrder: a new block with the two keys. -/
def OrdRes (w : World) (e : Ending) (w' : World) : Prop := ∃ g, e = .returned (ordV g) ∧ OrdAt w' g ∧ w.heap.size ≤ g ∧ Below w.heap.size w w'
theorem iOrder_is (w : World) : Calls Tryz.prog 54 #[] w (OrdRes w) := by
  go_enter Tryz.func54, Tryz.ntmps54
  go_wp2
  go_ret
  exact ⟨w.heap.size, rfl, ⟨by simp, (Blk.new w _ _).cell 0, (Blk.new w _ _).cell 1⟩, Nat.le_refl _, (by repeat (first | exact Below.refl _ _ | refine bl_drewN ?_ _ | refine Below.drew ?_ | refine bl_alloc ?_ _))⟩
set_option maxHeartbeats 2000000 in
theorem iBef_is (w : World) (g : Nat) (ho : OrdAt w g) (a j : Jb) (b : Bool) (hb : befB a j = b) :
    Calls Tryz.prog 55 #[ordV g, a.val, j.val] w (BRes b w) := by
  have HO := Lib.hid ho
  have hgl := ho.lt
  clear ho
  unfold Jb.val ordV
  obtain ⟨ta, tm, te⟩ := a
  obtain ⟨sa, sm, se⟩ := j
  dsimp only
  have HV := Lib.hid hb
  clear hb
  go_enter Tryz.func55, Tryz.ntmps55
  go_wp2
  go_loopw [13] (fun i wr => ∃ k : Nat, k ≤ 2 ∧ i = .int .i64 k ∧ Hid (1 ≤ k → tm = sm) ∧ Hid (2 ≤ k → ta = sa) ∧ Hid (Below w.heap.size w wr) ∧ Hid (Blk wr w.heap.size 46 #[.int .i64 ta, .int .i64 tm, .int .i64 te]) ∧ Hid (Blk wr (w.heap.size + 1) 46 #[.int .i64 sa, .int .i64 sm, .int .i64 se])) (fun i _ => 2 - (intOf i).toNat)
  case atStart => exact ⟨0, by omega, rfl, Lib.hid (by omega), Lib.hid (by omega), Lib.hid (by repeat (first | exact Below.refl _ _ | refine bl_drewN ?_ _ | refine Below.drew ?_ | refine bl_alloc ?_ _)), Lib.hid ((Blk.new w _ _).alloc _), Lib.hid (by have h := Blk.new (w.alloc (.cells #[.int .i64 ta, .int .i64 tm, .int .i64 te] 46)) 46 #[.int .i64 sa, .int .i64 sm, .int .i64 se]; simpa using h)⟩
  case round =>
    obtain ⟨k, hk, rfl, h1, h2, HB, HBA, HBB⟩ := hrel
    have hOr := HO.out.below HB.out
    have g0 := hOr.c0
    have g1 := hOr.c1
    have lA := HBA.out.lt
    have lB := HBB.out.lt
    clear hOr
    obtain rfl | rfl | rfl : k = 0 ∨ k = 1 ∨ k = 2 := by omega
    · clear g1
      have p0 := HBA.out.cell 0
      have p1 := HBA.out.cell 1
      have p2 := HBA.out.cell 2
      have s0 := HBB.out.cell 0
      have s1 := HBB.out.cell 1
      have s2 := HBB.out.cell 2
      go_wp2
      go_region_held3 (fun W => W.cell? ⟨w.heap.size, 0, none⟩ = some (.int .i64 ta) ∧ W.cell? ⟨w.heap.size, 1, none⟩ = some (.int .i64 tm) ∧ W.cell? ⟨w.heap.size, 2, none⟩ = some (.int .i64 te) ∧ W.cell? ⟨w.heap.size + 1, 0, none⟩ = some (.int .i64 sa) ∧ W.cell? ⟨w.heap.size + 1, 1, none⟩ = some (.int .i64 sm) ∧ W.cell? ⟨w.heap.size + 1, 2, none⟩ = some (.int .i64 se)) (first | assumption | (simp [go_sem, *]; done))
        ((first
          | (have uu := HBA; clear uu; go_at_call 91; refine (key0_any _ _ _ _).mono ?_; rintro e w2 ⟨rfl, hb⟩; have HD := Lib.hid (show Below wr.heap.size wr w2 from bl_trans (by repeat (first | exact Below.refl _ _ | with_reducible refine Below.drew ?_ | with_reducible refine bl_drewN ?_ _)) hb); have q0 := (HBA.out.below HD.out HBA.out.lt).cell 0; have q1 := (HBA.out.below HD.out HBA.out.lt).cell 1; have q2 := (HBA.out.below HD.out HBA.out.lt).cell 2; have r0 := (HBB.out.below HD.out HBB.out.lt).cell 0; have r1 := (HBB.out.below HD.out HBB.out.lt).cell 1; have r2 := (HBB.out.below HD.out HBB.out.lt).cell 2; have HBA2 := Lib.hid (HBA.out.below HD.out HBA.out.lt); have HBB2 := Lib.hid (HBB.out.below HD.out HBB.out.lt); clear HBA HBB hb p0 p1 p2 s0 s1 s2)
          | (have uu := HBA2; clear uu; go_at_call 91; refine (key0_any _ _ _ _).mono ?_; rintro e w3 ⟨rfl, hb⟩; have HD2 := Lib.hid (show Below wr.heap.size wr w3 from bl_trans (by repeat (first | with_reducible exact HD.out | with_reducible refine Below.drew ?_ | with_reducible refine bl_drewN ?_ _)) hb); have HBA3 := Lib.hid (show Blk w3 w.heap.size 46 #[.int .i64 ta, .int .i64 tm, .int .i64 te] from HBA2.out.below (bl_trans (by repeat (first | exact Below.refl _ _ | with_reducible refine Below.drew ?_ | with_reducible refine bl_drewN ?_ _)) hb) HBA2.out.lt); have HBB3 := Lib.hid (show Blk w3 (w.heap.size + 1) 46 #[.int .i64 sa, .int .i64 sm, .int .i64 se] from HBB2.out.below (bl_trans (by repeat (first | exact Below.refl _ _ | with_reducible refine Below.drew ?_ | with_reducible refine bl_drewN ?_ _)) hb) HBB2.out.lt); have t0 := HBA3.out.cell 0; have t1 := HBA3.out.cell 1; have t2 := HBA3.out.cell 2; have v0 := HBB3.out.cell 0; have v1 := HBB3.out.cell 1; have v2 := HBB3.out.cell 2; clear HBA2 HBB2 hb q0 q1 q2 r0 r1 r2)))
      all_goals
        by_cases hx : tm = sm
        · have tx : (tm != sm) = false := by simp; exact hx
          have HX := Lib.hid hx
          clear hx
          go_wp2
          go_roundw
          case rel => exact ⟨1, by omega, by go_num, Lib.hid fun _ => HX.out, Lib.hid (by omega), Lib.hid (bl_trans HB.out (HD2.out.mono (by omega))), HBA3, HBB3⟩
          case measure => simp [intOf]
        · have tx : (tm != sm) = true := by simp; exact hx
          have HX := Lib.hid hx
          clear hx
          go_wp2
          go_ret
          exact ⟨by
            have hv := HV.out
            unfold befB at hv
            dsimp only at hv
            rw [← hv]
            rw [decide_eq_false (fun h => HX.out h)]; simp, (by repeat (first | with_reducible exact (bl_trans HB.out (HD2.out.mono (by omega))) | with_reducible refine Below.drew ?_ | with_reducible refine bl_drewN ?_ _ | with_reducible refine bl_alloc ?_ _))⟩
    · clear g0
      have p0 := HBA.out.cell 0
      have p1 := HBA.out.cell 1
      have p2 := HBA.out.cell 2
      have s0 := HBB.out.cell 0
      have s1 := HBB.out.cell 1
      have s2 := HBB.out.cell 2
      go_wp2
      go_region_held3 (fun W => W.cell? ⟨w.heap.size, 0, none⟩ = some (.int .i64 ta) ∧ W.cell? ⟨w.heap.size, 1, none⟩ = some (.int .i64 tm) ∧ W.cell? ⟨w.heap.size, 2, none⟩ = some (.int .i64 te) ∧ W.cell? ⟨w.heap.size + 1, 0, none⟩ = some (.int .i64 sa) ∧ W.cell? ⟨w.heap.size + 1, 1, none⟩ = some (.int .i64 sm) ∧ W.cell? ⟨w.heap.size + 1, 2, none⟩ = some (.int .i64 se)) (first | assumption | (simp [go_sem, *]; done))
        ((first
          | (have uu := HBA; clear uu; go_at_call 90; refine (key1_any _ _ _ _).mono ?_; rintro e w2 ⟨rfl, hb⟩; have HD := Lib.hid (show Below wr.heap.size wr w2 from bl_trans (by repeat (first | exact Below.refl _ _ | with_reducible refine Below.drew ?_ | with_reducible refine bl_drewN ?_ _)) hb); have q0 := (HBA.out.below HD.out HBA.out.lt).cell 0; have q1 := (HBA.out.below HD.out HBA.out.lt).cell 1; have q2 := (HBA.out.below HD.out HBA.out.lt).cell 2; have r0 := (HBB.out.below HD.out HBB.out.lt).cell 0; have r1 := (HBB.out.below HD.out HBB.out.lt).cell 1; have r2 := (HBB.out.below HD.out HBB.out.lt).cell 2; have HBA2 := Lib.hid (HBA.out.below HD.out HBA.out.lt); have HBB2 := Lib.hid (HBB.out.below HD.out HBB.out.lt); clear HBA HBB hb p0 p1 p2 s0 s1 s2)
          | (have uu := HBA2; clear uu; go_at_call 90; refine (key1_any _ _ _ _).mono ?_; rintro e w3 ⟨rfl, hb⟩; have HD2 := Lib.hid (show Below wr.heap.size wr w3 from bl_trans (by repeat (first | with_reducible exact HD.out | with_reducible refine Below.drew ?_ | with_reducible refine bl_drewN ?_ _)) hb); have HBA3 := Lib.hid (show Blk w3 w.heap.size 46 #[.int .i64 ta, .int .i64 tm, .int .i64 te] from HBA2.out.below (bl_trans (by repeat (first | exact Below.refl _ _ | with_reducible refine Below.drew ?_ | with_reducible refine bl_drewN ?_ _)) hb) HBA2.out.lt); have HBB3 := Lib.hid (show Blk w3 (w.heap.size + 1) 46 #[.int .i64 sa, .int .i64 sm, .int .i64 se] from HBB2.out.below (bl_trans (by repeat (first | exact Below.refl _ _ | with_reducible refine Below.drew ?_ | with_reducible refine bl_drewN ?_ _)) hb) HBB2.out.lt); have t0 := HBA3.out.cell 0; have t1 := HBA3.out.cell 1; have t2 := HBA3.out.cell 2; have v0 := HBB3.out.cell 0; have v1 := HBB3.out.cell 1; have v2 := HBB3.out.cell 2; clear HBA2 HBB2 hb q0 q1 q2 r0 r1 r2)))
      all_goals
        by_cases hx : ta = sa
        · have tx : (ta != sa) = false := by simp; exact hx
          have HX := Lib.hid hx
          clear hx
          go_wp2
          go_roundw
          case rel => exact ⟨2, by omega, by go_num, Lib.hid fun _ => h1.out (by omega), Lib.hid fun _ => HX.out, Lib.hid (bl_trans HB.out (HD2.out.mono (by omega))), HBA3, HBB3⟩
          case measure => simp [intOf]
        · have tx : (ta != sa) = true := by simp; exact hx
          have HX := Lib.hid hx
          clear hx
          go_wp2
          go_ret
          exact ⟨by
            have hv := HV.out
            unfold befB at hv
            dsimp only at hv
            rw [← hv]
            have e1 : tm = sm := h1.out (by omega)
            rw [decide_eq_true e1]; subst e1; simp, (by repeat (first | with_reducible exact (bl_trans HB.out (HD2.out.mono (by omega))) | with_reducible refine Below.drew ?_ | with_reducible refine bl_drewN ?_ _ | with_reducible refine bl_alloc ?_ _))⟩
    · clear g0 g1
      go_wp2
      go_ret
      exact ⟨by
        have hv := HV.out
        unfold befB at hv
        dsimp only at hv
        have e1 : tm = sm := h1.out (by omega)
        have e2 : ta = sa := h2.out (by omega)
        subst e1 e2
        rw [← hv]; simp, HB.out⟩
end
section
open Go.RowKit
set_option linter.unusedVariables false
def inB (j : Jb) (n m : Int) : Bool := decide (0 ≤ j.ta) && (decide (j.ta < n) && (decide (0 ≤ j.tm) && (decide (j.tm ≤ 200) && (decide (1 ≤ j.ne) && decide (j.ne ≤ m)))))
theorem inB_iff {j : Jb} {n m : Int} : inB j n m = true ↔ 0 ≤ j.ta ∧ j.ta < n ∧ 0 ≤ j.tm ∧ j.tm ≤ 200 ∧ 1 ≤ j.ne ∧ j.ne ≤ m := by unfold inB; simp
theorem inB_job (ts : List Tk) (j : Jb) : inB j (ts.length : Int) (tkOf ts j.ta).hi = jobB ts j := rfl
set_option maxHeartbeats 2000000 in
theorem iWithin_is (w : World) (j : Jb) (n m : Int) (b : Bool) (hb : inB j n m = b) :
    Calls Tryz.prog 128 #[j.val, .int .i64 n, .int .i64 m] w (BRes b w) := by
  unfold Jb.val
  obtain ⟨ta, tm, ne⟩ := j
  dsimp only
  by_cases h1 : 0 ≤ ta
  rotate_left
  · obtain rfl : b = false := by rw [← hb]; exact no_of fun hx => by have := inB_iff.1 hx; dsimp only at *; omega
    have d := decide_eq_false h1
    clear hb
    go_enter Tryz.func128, Tryz.ntmps128
    go_wp2
    (try (go_quiet (fail); go_wp2))
    go_ret
    exact ⟨rfl, (by repeat (first | exact Below.refl _ _ | refine bl_drewN ?_ _ | refine Below.drew ?_ | refine bl_alloc ?_ _))⟩
  have dh1 := decide_eq_true h1
  by_cases h2 : ta < n
  rotate_left
  · obtain rfl : b = false := by rw [← hb]; exact no_of fun hx => by have := inB_iff.1 hx; dsimp only at *; omega
    have d := decide_eq_false h2
    clear hb
    go_enter Tryz.func128, Tryz.ntmps128
    go_wp2
    (try (go_quiet (fail); go_wp2))
    go_ret
    exact ⟨rfl, (by repeat (first | exact Below.refl _ _ | refine bl_drewN ?_ _ | refine Below.drew ?_ | refine bl_alloc ?_ _))⟩
  have dh2 := decide_eq_true h2
  by_cases h3 : 0 ≤ tm
  rotate_left
  · obtain rfl : b = false := by rw [← hb]; exact no_of fun hx => by have := inB_iff.1 hx; dsimp only at *; omega
    have d := decide_eq_false h3
    clear hb
    go_enter Tryz.func128, Tryz.ntmps128
    go_wp2
    (try (go_quiet (fail); go_wp2))
    go_ret
    exact ⟨rfl, (by repeat (first | exact Below.refl _ _ | refine bl_drewN ?_ _ | refine Below.drew ?_ | refine bl_alloc ?_ _))⟩
  have dh3 := decide_eq_true h3
  by_cases h4 : tm ≤ 200
  rotate_left
  · obtain rfl : b = false := by rw [← hb]; exact no_of fun hx => by have := inB_iff.1 hx; dsimp only at *; omega
    have d := decide_eq_false h4
    clear hb
    go_enter Tryz.func128, Tryz.ntmps128
    go_wp2
    (try (go_quiet (fail); go_wp2))
    go_ret
    exact ⟨rfl, (by repeat (first | exact Below.refl _ _ | refine bl_drewN ?_ _ | refine Below.drew ?_ | refine bl_alloc ?_ _))⟩
  have dh4 := decide_eq_true h4
  by_cases h5 : 1 ≤ ne
  rotate_left
  · obtain rfl : b = false := by rw [← hb]; exact no_of fun hx => by have := inB_iff.1 hx; dsimp only at *; omega
    have d := decide_eq_false h5
    clear hb
    go_enter Tryz.func128, Tryz.ntmps128
    go_wp2
    (try (go_quiet (fail); go_wp2))
    go_ret
    exact ⟨rfl, (by repeat (first | exact Below.refl _ _ | refine bl_drewN ?_ _ | refine Below.drew ?_ | refine bl_alloc ?_ _))⟩
  have dh5 := decide_eq_true h5
  by_cases h6 : ne ≤ m
  rotate_left
  · obtain rfl : b = false := by rw [← hb]; exact no_of fun hx => by have := inB_iff.1 hx; dsimp only at *; omega
    have d := decide_eq_false h6
    clear hb
    go_enter Tryz.func128, Tryz.ntmps128
    go_wp2
    (try (go_quiet (fail); go_wp2))
    go_ret
    exact ⟨rfl, (by repeat (first | exact Below.refl _ _ | refine bl_drewN ?_ _ | refine Below.drew ?_ | refine bl_alloc ?_ _))⟩
  have dh6 := decide_eq_true h6
  obtain rfl : b = true := by rw [← hb]; exact inB_iff.2 ⟨h1, h2, h3, h4, h5, h6⟩
  clear hb
  go_enter Tryz.func128, Tryz.ntmps128
  go_wp2
  (try (go_quiet (fail); go_wp2))
  go_ret
  exact ⟨rfl, (by repeat (first | exact Below.refl _ _ | refine bl_drewN ?_ _ | refine Below.drew ?_ | refine bl_alloc ?_ _))⟩
set_option maxHeartbeats 1000000 in
theorem iNeedT_is (w : World) (lo hi du ev : Int) (cr b : Bool) :
    Calls Tryz.prog 57 #[.agg #[.int .i64 lo, .int .i64 hi, .int .i64 du, .int .i64 ev, .bool cr], .bool b] w fun e w' => e = .returned (.int .i64 (if b then hi else lo)) ∧ Below w.heap.size w w' := by
  cases b <;>
  · go_enter Tryz.func57, Tryz.ntmps57
    go_wp2
    go_ret
    exact ⟨rfl, (by repeat (first | exact Below.refl _ _ | refine bl_drewN ?_ _ | refine Below.drew ?_ | refine bl_alloc ?_ _))⟩
/-- Whether a list is valid and a job is one of it. -/
def isB (ts : List Tk) (j : Jb) : Bool := setB ts && jobB ts j
set_option maxHeartbeats 2000000 in
theorem iIsOf_no (w : World) (A : Option Addr) (n c : Nat) (ts : List Tk) (h : Tks w w.heap.size A n ts) (hn : n ≤ 1048576) (j : Jb) (hb : (setB ts && (decide (0 ≤ j.ta) && decide (j.ta < (n : Int)))) = false) :
    Calls Tryz.prog 87 #[j.val, .slice A n c] w (BRes false w) := by
  have H := Lib.hid h
  have HV := Lib.hid hb
  clear h hb
  unfold Jb.val
  obtain ⟨ta, tm, ne⟩ := j
  dsimp only at HV
  have HBJ := Lib.hid (Blk.new w 46 #[.int .i64 ta, .int .i64 tm, .int .i64 ne])
  go_enter Tryz.func87, Tryz.ntmps87
  go_wp2_with fail
  refine wp_region_held_drew (S := (fun W => W.cell? ⟨w.heap.size, 0, none⟩ = some (.int .i64 ta) ∧ W.cell? ⟨w.heap.size, 1, none⟩ = some (.int .i64 tm) ∧ W.cell? ⟨w.heap.size, 2, none⟩ = some (.int .i64 ne))) (by kernel_rfl) (by exact ⟨HBJ.out.cell 0, HBJ.out.cell 1, HBJ.out.cell 2⟩) (fun hHeld0 => ?_)
  refine wpAnyH_take (i := 0) (oi := { dst := some 5, op := .move (.tmp 1), type := 23, pos := "l6_jobs.go:36", after := #[], guard := none }) (v := ?vu1x0) rfl (by kernel_rfl) (by kernel_rfl) (by kernel_rfl) (fun _ _ _ h => h) (Or.inl ⟨by rfl, ?hyu1x0⟩) hHeld0 ?restu1x0
  case hyu1x0 => first | (intro w hSw; (try dsimp only at hSw); go_simp; done) | (intro w hSw; (try dsimp only at hSw); go_simp; with_reducible rfl)
  (try simp only [Act.put, List.setIfInBounds_toArray, List.set_cons_zero, List.set_cons_succ])
  refine wpAnyH_take (i := 1) (oi := { dst := some 6, op := .fieldAddr 46 (.tmp 2) 0, type := 0, pos := "l6_jobs.go:36", after := #[], guard := none }) (v := ?vu1x1) rfl (by kernel_rfl) (by kernel_rfl) (by kernel_rfl) (fun _ _ _ h => h) (Or.inl ⟨by rfl, ?hyu1x1⟩) hHeld0 ?restu1x1
  case hyu1x1 => first | (intro w hSw; (try dsimp only at hSw); go_simp; done) | (intro w hSw; (try dsimp only at hSw); go_simp; with_reducible rfl)
  (try simp only [Act.put, List.setIfInBounds_toArray, List.set_cons_zero, List.set_cons_succ])
  refine wpAnyH_take (i := 2) (oi := { dst := some 7, op := .load 3 (.tmp 6), type := 3, pos := "l6_jobs.go:36", after := #[⟨1, .data⟩], guard := none }) (v := ?vu1x2) rfl (by kernel_rfl) (by kernel_rfl) (by kernel_rfl) (fun _ _ _ h => h) (Or.inl ⟨by rfl, ?hyu1x2⟩) hHeld0 ?restu1x2
  case hyu1x2 => first | (intro w hSw; (try dsimp only at hSw); go_simp; done) | (intro w hSw; (try dsimp only at hSw); go_simp; with_reducible rfl)
  (try simp only [Act.put, List.setIfInBounds_toArray, List.set_cons_zero, List.set_cons_succ])
  refine wpAnyH_ready (rs := [3]) (by kernel_rfl) (by simp) ?_
  refine AllReadyH.cons (o := { dst := some 8, op := .call { callee := .value (.func 63), args := #[.tmp 5, .tmp 7], argTypes := #[23, 3] }, type := 4, pos := "l6_jobs.go:36", after := #[⟨0, .data⟩, ⟨2, .data⟩], guard := none }) rfl (fun K hK => ?_) AllReadyH.nil
  go_simp
  (go_at_call 63; refine (iHas5_is _ A n c ts ta ((H.out.below (by repeat (first | exact Below.refl _ _ | with_reducible refine Below.drew ?_ | with_reducible refine bl_drewN ?_ _ | with_reducible refine bl_alloc ?_ _))).more (by simp)) hn false HV.out).mono ?_; rintro e w2 ⟨rfl, hb2⟩; have HB2 := Lib.hid (show Below w.heap.size w w2 from bl_trans (by repeat (first | exact Below.refl _ _ | with_reducible refine Below.drew ?_ | with_reducible refine bl_drewN ?_ _ | with_reducible refine bl_alloc ?_ _)) hb2); have HBJ2 := Lib.hid (HBJ.out.below (show Below (w.alloc (.cells #[.int .i64 ta, .int .i64 tm, .int .i64 ne] 46)).heap.size (w.alloc (.cells #[.int .i64 ta, .int .i64 tm, .int .i64 ne] 46)) w2 from bl_trans (by repeat (first | exact Below.refl _ _ | with_reducible refine Below.drew ?_ | with_reducible refine bl_drewN ?_ _ | with_reducible refine bl_alloc ?_ _)) hb2) HBJ.out.lt); clear hb2)
  (try go_wp2_with fail)
  refine hK.out _ _ (by exact ⟨HBJ2.out.cell 0, HBJ2.out.cell 1, HBJ2.out.cell 2⟩) (fun hHeld1 => ?_)
  clear hK K
  (try simp only [Act.put, List.setIfInBounds_toArray, List.set_cons_zero, List.set_cons_succ])
  refine wpAnyH_take (i := 4) (oi := { dst := some 9, op := .move (.tmp 8), type := 4, pos := "l6_jobs.go:36", after := #[⟨3, .data⟩, ⟨3, .chain⟩], guard := none }) (v := ?vu1x4) rfl (by kernel_rfl) (by kernel_rfl) (by kernel_rfl) (fun _ _ _ h => h) (Or.inl ⟨by rfl, ?hyu1x4⟩) hHeld1 ?restu1x4
  case hyu1x4 => first | (intro w hSw; (try dsimp only at hSw); go_simp; done) | (intro w hSw; (try dsimp only at hSw); go_simp; with_reducible rfl)
  (try simp only [Act.put, List.setIfInBounds_toArray, List.set_cons_zero, List.set_cons_succ])
  refine wpAnyH_take (i := 5) (oi := { dst := some 10, op := .load 46 (.tmp 2), type := 46, pos := "l6_jobs.go:36", after := #[⟨4, .guard⟩], guard := some (4, true) }) (v := undef) rfl (by kernel_rfl) (by kernel_rfl) (by kernel_rfl) (fun _ _ _ h => h) (Or.inr ⟨by rfl, by rfl⟩) hHeld1 ?_
  (try simp only [Act.put, List.setIfInBounds_toArray, List.set_cons_zero, List.set_cons_succ])
  refine wpAnyH_take (i := 6) (oi := { dst := some 11, op := .move (.tmp 1), type := 23, pos := "l6_jobs.go:36", after := #[⟨4, .guard⟩], guard := some (4, true) }) (v := undef) rfl (by kernel_rfl) (by kernel_rfl) (by kernel_rfl) (fun _ _ _ h => h) (Or.inr ⟨by rfl, by rfl⟩) hHeld1 ?_
  (try simp only [Act.put, List.setIfInBounds_toArray, List.set_cons_zero, List.set_cons_succ])
  refine wpAnyH_take (i := 7) (oi := { dst := some 12, op := .call { callee := .builtin .len, args := #[.tmp 11], argTypes := #[23] }, type := 3, pos := "l6_jobs.go:36", after := #[⟨6, .data⟩, ⟨4, .guard⟩], guard := some (4, true) }) (v := undef) rfl (by kernel_rfl) (by kernel_rfl) (by kernel_rfl) (fun _ _ _ h => h) (Or.inr ⟨by rfl, by rfl⟩) hHeld1 ?_
  (try simp only [Act.put, List.setIfInBounds_toArray, List.set_cons_zero, List.set_cons_succ])
  refine wpAnyH_take (i := 8) (oi := { dst := some 13, op := .move (.tmp 1), type := 23, pos := "l6_jobs.go:36", after := #[⟨4, .guard⟩], guard := some (4, true) }) (v := undef) rfl (by kernel_rfl) (by kernel_rfl) (by kernel_rfl) (fun _ _ _ h => h) (Or.inr ⟨by rfl, by rfl⟩) hHeld1 ?_
  (try simp only [Act.put, List.setIfInBounds_toArray, List.set_cons_zero, List.set_cons_succ])
  refine wpAnyH_take (i := 9) (oi := { dst := some 14, op := .fieldAddr 46 (.tmp 2) 0, type := 0, pos := "l6_jobs.go:36", after := #[⟨4, .guard⟩], guard := some (4, true) }) (v := undef) rfl (by kernel_rfl) (by kernel_rfl) (by kernel_rfl) (fun _ _ _ h => h) (Or.inr ⟨by rfl, by rfl⟩) hHeld1 ?_
  (try simp only [Act.put, List.setIfInBounds_toArray, List.set_cons_zero, List.set_cons_succ])
  refine wpAnyH_take (i := 10) (oi := { dst := some 15, op := .load 3 (.tmp 14), type := 3, pos := "l6_jobs.go:36", after := #[⟨9, .data⟩, ⟨4, .guard⟩], guard := some (4, true) }) (v := undef) rfl (by kernel_rfl) (by kernel_rfl) (by kernel_rfl) (fun _ _ _ h => h) (Or.inr ⟨by rfl, by rfl⟩) hHeld1 ?_
  (try simp only [Act.put, List.setIfInBounds_toArray, List.set_cons_zero, List.set_cons_succ])
  refine wpAnyH_take (i := 11) (oi := { dst := some 16, op := .indexAddr 23 (.tmp 13) (.tmp 15), type := 0, pos := "l6_jobs.go:36", after := #[⟨8, .data⟩, ⟨10, .data⟩, ⟨4, .guard⟩], guard := some (4, true) }) (v := undef) rfl (by kernel_rfl) (by kernel_rfl) (by kernel_rfl) (fun _ _ _ h => h) (Or.inr ⟨by rfl, by rfl⟩) hHeld1 ?_
  (try simp only [Act.put, List.setIfInBounds_toArray, List.set_cons_zero, List.set_cons_succ])
  refine wpAnyH_take (i := 12) (oi := { dst := some 17, op := .fieldAddr 43 (.tmp 16) 1, type := 0, pos := "l6_jobs.go:36", after := #[⟨11, .data⟩, ⟨4, .guard⟩], guard := some (4, true) }) (v := undef) rfl (by kernel_rfl) (by kernel_rfl) (by kernel_rfl) (fun _ _ _ h => h) (Or.inr ⟨by rfl, by rfl⟩) hHeld1 ?_
  (try simp only [Act.put, List.setIfInBounds_toArray, List.set_cons_zero, List.set_cons_succ])
  refine wpAnyH_take (i := 13) (oi := { dst := some 18, op := .load 3 (.tmp 17), type := 3, pos := "l6_jobs.go:36", after := #[⟨12, .data⟩, ⟨4, .guard⟩], guard := some (4, true) }) (v := undef) rfl (by kernel_rfl) (by kernel_rfl) (by kernel_rfl) (fun _ _ _ h => h) (Or.inr ⟨by rfl, by rfl⟩) hHeld1 ?_
  (try simp only [Act.put, List.setIfInBounds_toArray, List.set_cons_zero, List.set_cons_succ])
  refine wpAnyH_take (i := 14) (oi := { dst := some 19, op := .call { callee := .value (.func 128), args := #[.tmp 10, .tmp 12, .tmp 18], argTypes := #[46, 3, 3] }, type := 4, pos := "l6_jobs.go:36", after := #[⟨5, .data⟩, ⟨7, .data⟩, ⟨13, .data⟩, ⟨4, .chain⟩, ⟨4, .guard⟩], guard := some (4, true) }) (v := undef) rfl (by kernel_rfl) (by kernel_rfl) (by kernel_rfl) (fun _ _ _ h => h) (Or.inr ⟨by rfl, by rfl⟩) hHeld1 ?_
  (try simp only [Act.put, List.setIfInBounds_toArray, List.set_cons_zero, List.set_cons_succ])
  refine wpAnyH_take (i := 15) (oi := { dst := some 20, op := .pick (.tmp 9) (.tmp 19) (.const (.bool false)), type := 4, pos := "l6_jobs.go:36", after := #[⟨4, .data⟩, ⟨14, .data⟩], guard := none }) (v := ?vu1x15) rfl (by kernel_rfl) (by kernel_rfl) (by kernel_rfl) (fun _ _ _ h => h) (Or.inl ⟨by rfl, ?hyu1x15⟩) hHeld1 ?restu1x15
  case hyu1x15 => first | (intro w hSw; (try dsimp only at hSw); go_simp; done) | (intro w hSw; (try dsimp only at hSw); go_simp; with_reducible rfl)
  (try simp only [Act.put, List.setIfInBounds_toArray, List.set_cons_zero, List.set_cons_succ])
  refine wpAnyH_take (i := 16) (oi := { dst := some 4, op := .assign (.tmp 20), type := 4, pos := "l6_jobs.go:36", after := #[⟨15, .data⟩, ⟨14, .chain⟩, ⟨0, .phase⟩, ⟨1, .phase⟩, ⟨2, .phase⟩, ⟨3, .phase⟩, ⟨4, .phase⟩, ⟨5, .phase⟩, ⟨6, .phase⟩, ⟨7, .phase⟩, ⟨8, .phase⟩, ⟨9, .phase⟩, ⟨10, .phase⟩, ⟨11, .phase⟩, ⟨12, .phase⟩, ⟨13, .phase⟩, ⟨14, .phase⟩, ⟨15, .phase⟩], guard := none }) (v := ?vu1x16) rfl (by kernel_rfl) (by kernel_rfl) (by kernel_rfl) (fun _ _ _ h => h) (Or.inl ⟨by rfl, ?hyu1x16⟩) hHeld1 ?restu1x16
  case hyu1x16 => first | (intro w hSw; (try dsimp only at hSw); go_simp; done) | (intro w hSw; (try dsimp only at hSw); go_simp; with_reducible rfl)
  (try simp only [Act.put, List.setIfInBounds_toArray, List.set_cons_zero, List.set_cons_succ])
  refine wpAnyH_done (by kernel_rfl) ?_ _
  (try go_wp2)
  go_ret
  exact ⟨rfl, (by repeat (first | with_reducible exact HB2.out | with_reducible refine Below.drew ?_ | with_reducible refine bl_drewN ?_ _ | with_reducible refine bl_alloc ?_ _))⟩
set_option maxHeartbeats 2000000 in
theorem iIsOf_yes (w : World) (A : Option Addr) (n c : Nat) (ts : List Tk) (h : Tks w w.heap.size A n ts) (hn : n ≤ 1048576) (hs : setB ts = true) (k : Nat) (t : Tk) (ht : ts[k]? = some t) (tm ne : Int) (b : Bool) (hb : inB ⟨(k : Int), tm, ne⟩ (n : Int) t.hi = b) :
    Calls Tryz.prog 87 #[.agg #[.int .i64 (k : Int), .int .i64 tm, .int .i64 ne], .slice A n c] w (BRes b w) := by
  have hk : k < n := by have := (List.getElem?_eq_some_iff.1 ht).1; rw [h.len] at this; exact this
  have HV := Lib.hid (show (setB ts && (decide (0 ≤ (k : Int)) && decide ((k : Int) < (n : Int)))) = true by rw [hs, decide_eq_true (by omega), decide_eq_true (by omega)]; rfl)
  have HC := Lib.hid (fun W : World => iWithin_is W ⟨(k : Int), tm, ne⟩ (n : Int) t.hi b hb)
  unfold Jb.val at HC
  dsimp only at HC
  obtain ⟨bb, o, rfl, hbl, c0, c1, c2, c3, c4⟩ := h.at_ k t ht
  have H := Lib.hid h
  obtain ⟨lo, hi, du, ev, cr⟩ := t
  dsimp only at c0 c1 c2 c3 c4 HC
  clear h hs hb ht c0 c2 c3 c4
  have i1 : (0 : Int) ≤ (k : Int) := by omega
  have i2 : (k : Int) < (n : Int) := by omega
  have hne : bb ≠ w.heap.size := Nat.ne_of_lt hbl
  have HBJ := Lib.hid (Blk.new w 46 #[.int .i64 (k : Int), .int .i64 tm, .int .i64 ne])
  have p0 := HBJ.out.cell 0
  have p1 := HBJ.out.cell 1
  have p2 := HBJ.out.cell 2
  have c1a := fun o' => (World.cell?_alloc_lt w o' ⟨bb, o + k * 5 + 1, none⟩ hbl).trans c1
  go_enter Tryz.func87, Tryz.ntmps87
  go_wp2
  go_region_held3 (fun W => W.cell? ⟨w.heap.size, 0, none⟩ = some (.int .i64 (k : Int)) ∧ W.cell? ⟨w.heap.size, 1, none⟩ = some (.int .i64 tm) ∧ W.cell? ⟨w.heap.size, 2, none⟩ = some (.int .i64 ne) ∧ W.cell? ⟨bb, o + k * 5 + 1, none⟩ = some (.int .i64 hi)) (first | assumption | (simp [go_sem, *]; done))
    ((first
      | (go_at_call 63; refine (iHas5_is _ (some ⟨bb, o, none⟩) n c ts (k : Int) ((H.out.below (by repeat (first | exact Below.refl _ _ | with_reducible refine Below.drew ?_ | with_reducible refine bl_drewN ?_ _ | with_reducible refine bl_alloc ?_ _))).more (by simp)) hn true HV.out).mono ?_; rintro e w2 ⟨rfl, hb2⟩; have HB2 := Lib.hid (show Below w.heap.size w w2 from bl_trans (by repeat (first | exact Below.refl _ _ | with_reducible refine Below.drew ?_ | with_reducible refine bl_drewN ?_ _ | with_reducible refine bl_alloc ?_ _)) hb2); have HBJ2 := Lib.hid (HBJ.out.below (show Below (w.alloc (.cells #[.int .i64 (k : Int), .int .i64 tm, .int .i64 ne] 46)).heap.size (w.alloc (.cells #[.int .i64 (k : Int), .int .i64 tm, .int .i64 ne] 46)) w2 from bl_trans (by repeat (first | exact Below.refl _ _ | with_reducible refine Below.drew ?_ | with_reducible refine bl_drewN ?_ _ | with_reducible refine bl_alloc ?_ _)) hb2) HBJ.out.lt); have q0 := HBJ2.out.cell 0; have q1 := HBJ2.out.cell 1; have q2 := HBJ2.out.cell 2; have q3 := (HB2.out.cell (p := ⟨bb, o + k * 5 + 1, none⟩) hbl).trans c1; clear hb2 p0 p1 p2 c1a)
      | (go_at_call 128; refine (HC.out _).mono ?_; rintro e w3 ⟨rfl, hb3⟩; have HB3 := Lib.hid (show Below w.heap.size w w3 from bl_trans (by repeat (first | with_reducible exact HB2.out | with_reducible refine Below.drew ?_ | with_reducible refine bl_drewN ?_ _ | with_reducible refine bl_alloc ?_ _)) hb3); have HBJ3 := Lib.hid (show Blk w3 w.heap.size 46 #[.int .i64 (k : Int), .int .i64 tm, .int .i64 ne] from HBJ2.out.below (bl_trans (by repeat (first | exact Below.refl _ _ | with_reducible refine Below.drew ?_ | with_reducible refine bl_drewN ?_ _ | with_reducible refine bl_alloc ?_ _)) hb3) HBJ2.out.lt); have s0 := HBJ3.out.cell 0; have s1 := HBJ3.out.cell 1; have s2 := HBJ3.out.cell 2; have s3 := (HB3.out.cell (p := ⟨bb, o + k * 5 + 1, none⟩) hbl).trans c1; clear hb3 q0 q1 q2 q3)))
  all_goals (try go_wp2)
  all_goals go_ret
  all_goals exact ⟨rfl, (by repeat (first | with_reducible exact HB3.out | with_reducible refine Below.drew ?_ | with_reducible refine bl_drewN ?_ _ | with_reducible refine bl_alloc ?_ _))⟩
theorem iIsOf_is (w : World) (A : Option Addr) (n c : Nat) (ts : List Tk) (h : Tks w w.heap.size A n ts) (hn : n ≤ 1048576) (j : Jb) (b : Bool) (hb : isB ts j = b) :
    Calls Tryz.prog 87 #[j.val, .slice A n c] w (BRes b w) := by
  cases hv : setB ts && (decide (0 ≤ j.ta) && decide (j.ta < (n : Int)))
  · obtain rfl : b = false := by
      rw [← hb]
      unfold isB jobB
      rw [h.len]
      cases hs : setB ts
      · rfl
      · rw [hs, Bool.true_and] at hv
        rw [Bool.true_and, ← Bool.and_assoc, hv]
        rfl
    exact iIsOf_no w A n c ts h hn j hv
  · rw [Bool.and_eq_true, Bool.and_eq_true, decide_eq_true_iff, decide_eq_true_iff] at hv
    obtain ⟨hs, h1, h2⟩ := hv
    obtain ⟨k, t, hk, hkl, ht, htk⟩ := tk_get h1 (by rw [h.len]; exact h2)
    obtain ⟨ta, tm, ne⟩ := j
    dsimp only at hk htk
    subst hk
    refine iIsOf_yes w A n c ts h hn hs k t ht tm ne b ?_
    rw [← hb]
    unfold isB
    rw [hs, Bool.true_and, ← inB_job, h.len]
    dsimp only
    rw [htk]
end
section
open Go.RowKit
set_option linter.unusedVariables false
theorem earl_zero (ts : List Tk) : (#[.int .i64 0, .int .i64 0, .int .i64 0, .int .i64 0, .int .i64 0] : Array Value) = (earlV ts []).toArray := by rfl
set_option maxHeartbeats 2000000 in
theorem iKeep_is (w : World) (A : Option Addr) (n c : Nat) (ts : List Tk) (h : Tks w w.heap.size A n ts) (A2 : Option Addr) (m c2 : Nat) (js : List Jb) (h2 : Jbs w w.heap.size A2 m js) (hm : m ≤ 60) (hs : setB ts = true) (hq : seqB ts js = true) (b : Bool) (hb : pairB ts js = b) :
    Calls Tryz.prog 88 #[.slice A n c, .slice A2 m c2] w (BRes b w) := by
  have H := Lib.hid h
  have HL := Lib.hid h.len
  have J := Lib.hid h2
  have HM := Lib.hid h2.len
  have HS := Lib.hid hs
  have HQ := Lib.hid hq
  have HR := Lib.hid hb
  have hn5 : n ≤ 5 := by have := setB_len hs; rw [h.len] at this; exact this
  clear h h2 hs hq hb
  go_enter Tryz.func88, Tryz.ntmps88
  go_wp2
  go_loopw [10] (fun i wr => ∃ k : Nat, k ≤ m ∧ i = .int .i64 k ∧ Hid (pairB ts (js.take k) = true) ∧ Hid (Blk wr w.heap.size 151 (earlV ts (js.take k)).toArray) ∧ Hid (Below w.heap.size w wr)) (fun i _ => m - (intOf i).toNat)
  case atStart => exact ⟨0, Nat.zero_le _, rfl, Lib.hid rfl, Lib.hid (by rw [List.take_zero, ← earl_zero]; exact Blk.new w _ _), Lib.hid (bl_alloc (Below.refl _ _) _)⟩
  case round =>
    obtain ⟨k, hk, rfl, HP, BQ, HB⟩ := hrel
    by_cases hlt : k < m
    · have i2 : (k : Int) < (m : Int) := by omega
      obtain ⟨j, hj⟩ : ∃ j, js[k]? = some j := ⟨js[k]'(by rw [HM.out]; exact hlt), List.getElem?_eq_getElem _⟩
      obtain ⟨bj, oj, rfl, hbj, a0, a1, a2⟩ := (J.out.below HB.out).at_ k j hj
      have hjb : jobB ts j = true := List.all_eq_true.1 (seq_parts.1 HQ.out).1 j (List.mem_of_getElem? hj)
      obtain ⟨b1, b2, b3, b4, b5, b6⟩ := jobB_iff.1 hjb
      have hds := dist_step HS.out HQ.out hj HP.out
      have hrg := earl_range (js := js.take k) HS.out (seq_parts.1 (seq_take k HQ.out)).1 b1 b2
      obtain ⟨ta, tm, ne⟩ := j
      dsimp only at a0 a1 a2 b1 b2 b3 b4 b5 b6 hds hrg
      obtain ⟨x, t, rfl, hx, ht, htk⟩ := tk_get b1 b2
      have hx5 : x < 5 := by have := HL.out; omega
      have hxn : (x : Int) < (n : Int) := by have := HL.out; omega
      have x0 : (0 : Int) ≤ (x : Int) := by omega
      have x5 : (x : Int) < 5 := by omega
      have hok : t.ok = true := by
        have := HS.out; unfold setB at this; simp at this
        exact this.2 t (List.mem_of_getElem? ht)
      have hev : 1 ≤ t.ev ∧ t.ev ≤ 20 := by unfold Tk.ok validB at hok; simp at hok; omega
      obtain ⟨bt, ot, rfl, hbt, _, _, _, t3, _⟩ := (H.out.below HB.out).at_ x t ht
      have hbt4 : bt < wr.heap.size := by have := HB.out.size; omega
      have hwl := BQ.out.lt
      have HST := Lib.hid (fun z (hz : tm + t.ev = z) => earl_set (ts := ts) (js := js.take k) (j := ⟨(x : Int), tm, ne⟩) (z := z) hx5 rfl (by rw [htk]; exact hz))
      have HTAKE := Lib.hid (show js.take (k + 1) = js.take k ++ [⟨(x : Int), tm, ne⟩] by rw [List.take_add_one, hj]; rfl)
      have hC := (BQ.out.cell x).trans (earl_get hx5)
      clear hj hjb ht htk hok b2 b5 b6
      obtain ⟨ea, hea⟩ : ∃ z, earlAt ts (js.take k) (x : Int) = z := ⟨_, rfl⟩
      rw [hea] at hC hds hrg
      clear hea
      obtain ⟨lo, hi', du, ev, cr⟩ := t
      dsimp only at t3 hev HST
      have BQ4 := Lib.hid (show Blk (wr.alloc (.cells #[.int .i64 (x : Int), .int .i64 tm, .int .i64 ne] 46)) w.heap.size 151 (earlV ts (js.take k)).toArray from BQ.out.alloc _)
      have BJ4 := Lib.hid (Blk.new wr 46 #[.int .i64 (x : Int), .int .i64 tm, .int .i64 ne])
      have HB4 := Lib.hid (show Below w.heap.size w (wr.alloc (.cells #[.int .i64 (x : Int), .int .i64 tm, .int .i64 ne] 46)) from bl_alloc HB.out _)
      have s0 := BJ4.out.cell 0
      have s1 := BJ4.out.cell 1
      have s2 := BJ4.out.cell 2
      have s3 : (wr.alloc (.cells #[.int .i64 (x : Int), .int .i64 tm, .int .i64 ne] 46)).cell? ⟨w.heap.size, x, none⟩ = some (.int .i64 ea) := (World.cell?_alloc_lt wr _ ⟨w.heap.size, x, none⟩ hwl).trans hC
      have s4 : (wr.alloc (.cells #[.int .i64 (x : Int), .int .i64 tm, .int .i64 ne] 46)).cell? ⟨bt, ot + x * 5 + 3, none⟩ = some (.int .i64 ev) := (World.cell?_alloc_lt wr _ ⟨bt, ot + x * 5 + 3, none⟩ hbt4).trans t3
      have HDS := Lib.hid hds
      have kw : IntKind.i64.wrap (tm + ev) = tm + ev := IntWalk.i64_in _ (by omega)
      clear hds hC t3
      by_cases hd : tm < ea
      · obtain rfl : b = false := by
          rw [← HR.out]
          refine dist_bad (k + 1) ?_
          rw [HDS.out]
          exact decide_eq_false (by omega)
        have hd' := decide_eq_true hd
        go_wp2
        go_quiet (fail)
        go_wp2
        go_ret
        exact ⟨rfl, (by repeat (first | with_reducible exact HB4.out | with_reducible refine Below.drew ?_ | with_reducible refine bl_drewN ?_ _ | with_reducible refine bl_alloc ?_ _))⟩
      · have HPN : Hid (pairB ts (js.take (k + 1)) = true) := Lib.hid (by rw [HDS.out]; exact decide_eq_true (by omega))
        have hd' := decide_eq_false hd
        go_wp2
        go_quiet (fail)
        go_wp2
        have fx := BQ4.out.frozen x
        have hsz4 : w.heap.size < (wr.alloc (.cells #[.int .i64 (x : Int), .int .i64 tm, .int .i64 ne] 46)).heap.size := BQ4.out.lt
        go_region_held3 (fun W => W.cell? ⟨wr.heap.size, 0, none⟩ = some (.int .i64 (x : Int)) ∧ W.cell? ⟨wr.heap.size, 1, none⟩ = some (.int .i64 tm) ∧ W.cell? ⟨bt, ot + x * 5 + 3, none⟩ = some (.int .i64 ev)) (first | exact ⟨s0, s1, s4⟩ | assumption | (simp [go_sem, *]; done)) (fail)
        go_wp2
        go_roundw
        case rel => exact ⟨k + 1, by omega, by go_num, HPN, Lib.hid (by rw [HTAKE.out, ← HST.out _ rfl]; exact (by repeat (first | with_reducible exact BQ4.out | refine Blk.drewN ?_ _ | refine Blk.drew ?_) : Blk _ w.heap.size 151 (earlV ts (js.take k)).toArray).set_ x _), Lib.hid (bl_set (by repeat (first | with_reducible exact HB4.out | with_reducible refine Below.drew ?_ | with_reducible refine bl_drewN ?_ _ | with_reducible refine bl_alloc ?_ _)) (by dsimp only; omega) _)⟩
        case measure => simp [intOf]; omega
    · obtain rfl : k = m := by omega
      obtain rfl : true = b := by
        rw [← HR.out, ← HP.out, List.take_of_length_le (by rw [HM.out]; omega)]
      go_wp2
      go_ret
      exact ⟨rfl, HB.out⟩
end
section
open Go.RowKit
set_option linter.unusedVariables false
set_option maxRecDepth 100000 in
set_option maxHeartbeats 8000000 in
theorem iJobs_is (w : World) (A : Option Addr) (n c : Nat) (ts : List Tk) (h : Tks w w.heap.size A n ts) (hn : n ≤ 1048576) (A2 : Option Addr) (m c2 : Nat) (js : List Jb) (h2 : Jbs w w.heap.size A2 m js) (b : Bool) (hb : jobsB ts js = b) :
    Calls Tryz.prog 46 #[.slice A n c, .slice A2 m c2] w (BRes b w) := by
  have H := Lib.hid h
  have HL := Lib.hid h.len
  have J := Lib.hid h2
  have HM := Lib.hid h2.len
  clear h h2
  cases hs : setB ts
  · obtain rfl : b = false := by rw [← hb]; unfold jobsB; rw [hs]; rfl
    have HS := Lib.hid hs
    clear hs hb
    go_enter Tryz.func46, Tryz.ntmps46
    go_wp2_with fail
    refine (iSetValid_any _ A n c ts H.out hn).mono ?_
    rintro e w1 ⟨rfl, hb⟩
    rw [HS.out]
    go_wp2
    go_ret
    exact ⟨rfl, hb⟩
  have HS := Lib.hid hs
  clear hs
  by_cases h60 : 60 < m
  · obtain rfl : b = false := by rw [← hb]; exact no_of fun hx => by have := jobs_len hx; have := HM.out; omega
    have d1 : (60 : Int) < (m : Int) := by omega
    clear hb
    go_enter Tryz.func46, Tryz.ntmps46
    go_wp2_with fail
    refine (iSetValid_any _ A n c ts H.out hn).mono ?_
    rintro e w1 ⟨rfl, hb⟩
    rw [HS.out]
    go_wp2
    go_ret
    exact ⟨rfl, hb⟩
  have d1 : ¬ (60 : Int) < (m : Int) := by omega
  have HR := Lib.hid hb
  clear hb
  go_enter Tryz.func46, Tryz.ntmps46
  go_wp2_with fail
  refine (iSetValid_any _ A n c ts H.out hn).mono ?_
  rintro e w1 ⟨rfl, hb⟩
  rw [HS.out]
  have HB1 := Lib.hid hb
  clear hb
  go_wp2_with fail
  refine (iOrder_is _).mono ?_
  rintro e w2 ⟨g, rfl, hor, hge, hb⟩
  have HB2 := Lib.hid (show Below w.heap.size w w2 from bl_trans HB1.out hb)
  have HOR2 := Lib.hid hor
  clear hb hor hge
  go_wp2
  go_loopw [19] (fun i wr => ∃ q : Nat, q ≤ m ∧ i = .int .i64 q ∧ Hid (seqB ts (js.take q) = true) ∧ Hid (OrdAt wr g) ∧ Hid (Below w.heap.size w wr)) (fun i _ => m - (intOf i).toNat)
  case atStart => exact ⟨0, Nat.zero_le _, rfl, Lib.hid rfl, HOR2, HB2⟩
  case round =>
    obtain ⟨q, hq, rfl, HP, HOR, HB⟩ := hrel
    obtain ⟨w4, hw4⟩ : ∃ W, W = wr := ⟨_, rfl⟩
    subst hw4
    clear HOR2 HB2
    by_cases hqm : q < m
    · have q2 : (q : Int) < (m : Int) := by omega
      obtain ⟨j, hj⟩ : ∃ j, js[q]? = some j := ⟨js[q]'(by rw [HM.out]; exact hqm), List.getElem?_eq_getElem _⟩
      obtain ⟨bj, oj, rfl, hbj, a0, a1, a2⟩ := (J.out.below HB.out).at_ q j hj
      have hbj4 : bj < w4.heap.size := by have := HB.out.size; omega
      have HJ := Lib.hid hj
      have HSTEP := Lib.hid (seq_step hj HP.out)
      clear hj
      obtain ⟨ta, tm, ne⟩ := j
      dsimp only at a0 a1 a2
      cases hjb : isB ts ⟨ta, tm, ne⟩
      · have HJB := Lib.hid hjb
        obtain rfl : b = false := by
          rw [← HR.out]
          refine seq_bad HJ.out HP.out ?_
          unfold isB at hjb
          rw [HS.out, Bool.true_and] at hjb
          rw [hjb]; rfl
        clear hjb
        go_wp2_with fail
        have s0 := (Blk.new w4 46 #[.int .i64 ta, .int .i64 tm, .int .i64 ne]).cell 0
        have s1 := (Blk.new w4 46 #[.int .i64 ta, .int .i64 tm, .int .i64 ne]).cell 1
        have s2 := (Blk.new w4 46 #[.int .i64 ta, .int .i64 tm, .int .i64 ne]).cell 2
        have HW5 := Lib.hid (show Below w.heap.size w (w4.alloc (.cells #[.int .i64 ta, .int .i64 tm, .int .i64 ne] 46)) from bl_alloc HB.out _)
        have HO5 := Lib.hid (HOR.out.alloc (.cells #[.int .i64 ta, .int .i64 tm, .int .i64 ne] 46))
        have hz5 : w4.heap.size < (w4.alloc (.cells #[.int .i64 ta, .int .i64 tm, .int .i64 ne] 46)).heap.size := by simp
        generalize (w4.alloc (.cells #[.int .i64 ta, .int .i64 tm, .int .i64 ne] 46)) = w5 at *
        refine wp_region_held_drew (S := (fun W => W.cell? ⟨w4.heap.size, 0, none⟩ = some (.int .i64 ta) ∧ W.cell? ⟨w4.heap.size, 1, none⟩ = some (.int .i64 tm) ∧ W.cell? ⟨w4.heap.size, 2, none⟩ = some (.int .i64 ne))) (by kernel_rfl) (by exact ⟨s0, s1, s2⟩) (fun hHeld0 => ?_)
        refine wpAnyH_take (i := 0) (oi := { dst := some 24, op := .load 46 (.tmp 7), type := 46, pos := "l6_jobs.go:65", after := #[], guard := none }) (v := ?vu1x0) rfl (by kernel_rfl) (by kernel_rfl) (by kernel_rfl) (fun _ _ _ h => h) (Or.inl ⟨by rfl, ?hyu1x0⟩) hHeld0 ?restu1x0
        case hyu1x0 => first | (intro w hSw; (try dsimp only at hSw); go_simp; done) | (intro w hSw; (try dsimp only at hSw); go_simp; with_reducible rfl)
        (try simp only [Act.put, List.setIfInBounds_toArray, List.set_cons_zero, List.set_cons_succ])
        refine wpAnyH_take (i := 1) (oi := { dst := some 25, op := .move (.tmp 0), type := 23, pos := "l6_jobs.go:65", after := #[], guard := none }) (v := ?vu1x1) rfl (by kernel_rfl) (by kernel_rfl) (by kernel_rfl) (fun _ _ _ h => h) (Or.inl ⟨by rfl, ?hyu1x1⟩) hHeld0 ?restu1x1
        case hyu1x1 => first | (intro w hSw; (try dsimp only at hSw); go_simp; done) | (intro w hSw; (try dsimp only at hSw); go_simp; with_reducible rfl)
        (try simp only [Act.put, List.setIfInBounds_toArray, List.set_cons_zero, List.set_cons_succ])
        refine wpAnyH_ready (rs := [2]) (by kernel_rfl) (by simp) ?_
        refine AllReadyH.cons (o := { dst := some 26, op := .call { callee := .value (.func 87), args := #[.tmp 24, .tmp 25], argTypes := #[46, 23] }, type := 4, pos := "l6_jobs.go:65", after := #[⟨0, .data⟩, ⟨1, .data⟩], guard := none }) rfl (fun K hK => ?_) AllReadyH.nil
        go_simp
        (go_at_call 87; refine (iIsOf_is _ A n c ts ((H.out.below ((by repeat (first | with_reducible exact HW5.out | with_reducible refine Below.drew ?_ | with_reducible refine bl_drewN ?_ _ | with_reducible refine bl_alloc ?_ _)) : Below w.heap.size w _)).more (Below.size ((by repeat (first | with_reducible exact HW5.out | with_reducible refine Below.drew ?_ | with_reducible refine bl_drewN ?_ _ | with_reducible refine bl_alloc ?_ _)) : Below w.heap.size w _))) hn ⟨ta, tm, ne⟩ false HJB.out).mono ?_; rintro e w6 ⟨rfl, hb⟩; have HB6 := Lib.hid (show Below w5.heap.size w5 w6 from bl_trans (by repeat (first | with_reducible exact Below.refl _ _ | with_reducible refine bl_drewN ?_ _ | with_reducible refine Below.drew ?_)) hb); clear hb)
        (try go_wp2_with fail)
        refine hK.out _ _ (by exact ⟨(HB6.out.cell (p := ⟨w4.heap.size, 0, none⟩) hz5).trans s0, (HB6.out.cell (p := ⟨w4.heap.size, 1, none⟩) hz5).trans s1, (HB6.out.cell (p := ⟨w4.heap.size, 2, none⟩) hz5).trans s2⟩) (fun hHeld1 => ?_)
        clear hK K
        (try simp only [Act.put, List.setIfInBounds_toArray, List.set_cons_zero, List.set_cons_succ])
        refine wpAnyH_take (i := 3) (oi := { dst := some 27, op := .unOp .not 4 (.tmp 26), type := 4, pos := "l6_jobs.go:65", after := #[⟨2, .data⟩], guard := none }) (v := ?vu1x3) rfl (by kernel_rfl) (by kernel_rfl) (by kernel_rfl) (fun _ _ _ h => h) (Or.inl ⟨by rfl, ?hyu1x3⟩) hHeld1 ?restu1x3
        case hyu1x3 => first | (intro w hSw; (try dsimp only at hSw); go_simp; done) | (intro w hSw; (try dsimp only at hSw); go_simp; with_reducible rfl)
        (try simp only [Act.put, List.setIfInBounds_toArray, List.set_cons_zero, List.set_cons_succ])
        refine wpAnyH_take (i := 4) (oi := { dst := some 28, op := .move (.tmp 27), type := 4, pos := "l6_jobs.go:65", after := #[⟨3, .data⟩, ⟨2, .chain⟩], guard := none }) (v := ?vu1x4) rfl (by kernel_rfl) (by kernel_rfl) (by kernel_rfl) (fun _ _ _ h => h) (Or.inl ⟨by rfl, ?hyu1x4⟩) hHeld1 ?restu1x4
        case hyu1x4 => first | (intro w hSw; (try dsimp only at hSw); go_simp; done) | (intro w hSw; (try dsimp only at hSw); go_simp; with_reducible rfl)
        (try simp only [Act.put, List.setIfInBounds_toArray, List.set_cons_zero, List.set_cons_succ])
        refine wpAnyH_take (i := 5) (oi := { dst := some 29, op := .move (.tmp 6), type := 3, pos := "l6_jobs.go:65", after := #[⟨4, .guard⟩], guard := some (4, false) }) (v := undef) rfl (by kernel_rfl) (by kernel_rfl) (by kernel_rfl) (fun _ _ _ h => h) (Or.inr ⟨by rfl, by rfl⟩) hHeld1 ?_
        (try simp only [Act.put, List.setIfInBounds_toArray, List.set_cons_zero, List.set_cons_succ])
        refine wpAnyH_take (i := 6) (oi := { dst := some 30, op := .binOp .gtr 3 (.tmp 29) (.const (.int .i64 0)) 3, type := 4, pos := "l6_jobs.go:65", after := #[⟨5, .data⟩, ⟨4, .guard⟩], guard := some (4, false) }) (v := undef) rfl (by kernel_rfl) (by kernel_rfl) (by kernel_rfl) (fun _ _ _ h => h) (Or.inr ⟨by rfl, by rfl⟩) hHeld1 ?_
        (try simp only [Act.put, List.setIfInBounds_toArray, List.set_cons_zero, List.set_cons_succ])
        refine wpAnyH_take (i := 7) (oi := { dst := some 31, op := .move (.tmp 30), type := 4, pos := "l6_jobs.go:65", after := #[⟨6, .data⟩, ⟨4, .chain⟩, ⟨4, .guard⟩], guard := some (4, false) }) (v := undef) rfl (by kernel_rfl) (by kernel_rfl) (by kernel_rfl) (fun _ _ _ h => h) (Or.inr ⟨by rfl, by rfl⟩) hHeld1 ?_
        (try simp only [Act.put, List.setIfInBounds_toArray, List.set_cons_zero, List.set_cons_succ])
        refine wpAnyH_take (i := 8) (oi := { dst := some 32, op := .move (.tmp 5), type := 77, pos := "l6_jobs.go:65", after := #[⟨7, .guard⟩], guard := some (7, true) }) (v := undef) rfl (by kernel_rfl) (by kernel_rfl) (by kernel_rfl) (fun _ _ _ h => h) (Or.inr ⟨by rfl, by rfl⟩) hHeld1 ?_
        (try simp only [Act.put, List.setIfInBounds_toArray, List.set_cons_zero, List.set_cons_succ])
        refine wpAnyH_take (i := 9) (oi := { dst := some 33, op := .move (.tmp 1), type := 24, pos := "l6_jobs.go:65", after := #[⟨7, .guard⟩], guard := some (7, true) }) (v := undef) rfl (by kernel_rfl) (by kernel_rfl) (by kernel_rfl) (fun _ _ _ h => h) (Or.inr ⟨by rfl, by rfl⟩) hHeld1 ?_
        (try simp only [Act.put, List.setIfInBounds_toArray, List.set_cons_zero, List.set_cons_succ])
        refine wpAnyH_take (i := 10) (oi := { dst := some 34, op := .move (.tmp 6), type := 3, pos := "l6_jobs.go:65", after := #[⟨7, .guard⟩], guard := some (7, true) }) (v := undef) rfl (by kernel_rfl) (by kernel_rfl) (by kernel_rfl) (fun _ _ _ h => h) (Or.inr ⟨by rfl, by rfl⟩) hHeld1 ?_
        (try simp only [Act.put, List.setIfInBounds_toArray, List.set_cons_zero, List.set_cons_succ])
        refine wpAnyH_take (i := 11) (oi := { dst := some 35, op := .binOp .sub 3 (.tmp 34) (.const (.int .i64 1)) 3, type := 3, pos := "l6_jobs.go:65", after := #[⟨10, .data⟩, ⟨7, .guard⟩], guard := some (7, true) }) (v := undef) rfl (by kernel_rfl) (by kernel_rfl) (by kernel_rfl) (fun _ _ _ h => h) (Or.inr ⟨by rfl, by rfl⟩) hHeld1 ?_
        (try simp only [Act.put, List.setIfInBounds_toArray, List.set_cons_zero, List.set_cons_succ])
        refine wpAnyH_take (i := 12) (oi := { dst := some 36, op := .indexAddr 24 (.tmp 33) (.tmp 35), type := 0, pos := "l6_jobs.go:65", after := #[⟨9, .data⟩, ⟨11, .data⟩, ⟨7, .guard⟩], guard := some (7, true) }) (v := undef) rfl (by kernel_rfl) (by kernel_rfl) (by kernel_rfl) (fun _ _ _ h => h) (Or.inr ⟨by rfl, by rfl⟩) hHeld1 ?_
        (try simp only [Act.put, List.setIfInBounds_toArray, List.set_cons_zero, List.set_cons_succ])
        refine wpAnyH_take (i := 13) (oi := { dst := some 37, op := .load 46 (.tmp 36), type := 46, pos := "l6_jobs.go:65", after := #[⟨12, .data⟩, ⟨7, .guard⟩], guard := some (7, true) }) (v := undef) rfl (by kernel_rfl) (by kernel_rfl) (by kernel_rfl) (fun _ _ _ h => h) (Or.inr ⟨by rfl, by rfl⟩) hHeld1 ?_
        (try simp only [Act.put, List.setIfInBounds_toArray, List.set_cons_zero, List.set_cons_succ])
        refine wpAnyH_take (i := 14) (oi := { dst := some 38, op := .load 46 (.tmp 7), type := 46, pos := "l6_jobs.go:65", after := #[⟨7, .guard⟩], guard := some (7, true) }) (v := undef) rfl (by kernel_rfl) (by kernel_rfl) (by kernel_rfl) (fun _ _ _ h => h) (Or.inr ⟨by rfl, by rfl⟩) hHeld1 ?_
        (try simp only [Act.put, List.setIfInBounds_toArray, List.set_cons_zero, List.set_cons_succ])
        refine wpAnyH_take (i := 15) (oi := { dst := some 39, op := .call { callee := .value (.func 55), args := #[.tmp 32, .tmp 37, .tmp 38], argTypes := #[77, 46, 46] }, type := 4, pos := "l6_jobs.go:65", after := #[⟨8, .data⟩, ⟨13, .data⟩, ⟨14, .data⟩, ⟨7, .chain⟩, ⟨7, .guard⟩], guard := some (7, true) }) (v := undef) rfl (by kernel_rfl) (by kernel_rfl) (by kernel_rfl) (fun _ _ _ h => h) (Or.inr ⟨by rfl, by rfl⟩) hHeld1 ?_
        (try simp only [Act.put, List.setIfInBounds_toArray, List.set_cons_zero, List.set_cons_succ])
        refine wpAnyH_take (i := 16) (oi := { dst := some 40, op := .unOp .not 4 (.tmp 39), type := 4, pos := "l6_jobs.go:65", after := #[⟨15, .data⟩, ⟨7, .guard⟩], guard := some (7, true) }) (v := undef) rfl (by kernel_rfl) (by kernel_rfl) (by kernel_rfl) (fun _ _ _ h => h) (Or.inr ⟨by rfl, by rfl⟩) hHeld1 ?_
        (try simp only [Act.put, List.setIfInBounds_toArray, List.set_cons_zero, List.set_cons_succ])
        refine wpAnyH_take (i := 17) (oi := { dst := some 41, op := .pick (.tmp 31) (.tmp 40) (.const (.bool false)), type := 4, pos := "l6_jobs.go:65", after := #[⟨7, .data⟩, ⟨16, .data⟩, ⟨4, .guard⟩], guard := some (4, false) }) (v := undef) rfl (by kernel_rfl) (by kernel_rfl) (by kernel_rfl) (fun _ _ _ h => h) (Or.inr ⟨by rfl, by rfl⟩) hHeld1 ?_
        (try simp only [Act.put, List.setIfInBounds_toArray, List.set_cons_zero, List.set_cons_succ])
        refine wpAnyH_take (i := 18) (oi := { dst := some 42, op := .pick (.tmp 28) (.const (.bool true)) (.tmp 41), type := 4, pos := "l6_jobs.go:65", after := #[⟨4, .data⟩, ⟨17, .data⟩], guard := none }) (v := ?vu1x18) rfl (by kernel_rfl) (by kernel_rfl) (by kernel_rfl) (fun _ _ _ h => h) (Or.inl ⟨by rfl, ?hyu1x18⟩) hHeld1 ?restu1x18
        case hyu1x18 => first | (intro w hSw; (try dsimp only at hSw); go_simp; done) | (intro w hSw; (try dsimp only at hSw); go_simp; with_reducible rfl)
        (try simp only [Act.put, List.setIfInBounds_toArray, List.set_cons_zero, List.set_cons_succ])
        refine wpAnyH_done (by kernel_rfl) ?_ _
        go_wp2
        go_ret
        exact ⟨rfl, bl_trans HW5.out (by repeat (first | with_reducible exact HB6.out | with_reducible refine Below.drew ?_ | with_reducible refine bl_drewN ?_ _ | with_reducible refine bl_alloc ?_ _))⟩
      have HJB := Lib.hid hjb
      have HJ1 : Hid (jobB ts ⟨ta, tm, ne⟩ = true) := Lib.hid (by unfold isB at hjb; rw [HS.out, Bool.true_and] at hjb; exact hjb)
      clear hjb
      by_cases hq0 : q = 0
      · subst hq0
        simp only [Nat.zero_mul, Nat.add_zero] at a0 a1 a2
        have HPN : Hid (seqB ts (js.take (0 + 1)) = true) := Lib.hid (by rw [HSTEP.out, HJ1.out]; rfl)
        go_wp2_with fail
        have s0 := (Blk.new w4 46 #[.int .i64 ta, .int .i64 tm, .int .i64 ne]).cell 0
        have s1 := (Blk.new w4 46 #[.int .i64 ta, .int .i64 tm, .int .i64 ne]).cell 1
        have s2 := (Blk.new w4 46 #[.int .i64 ta, .int .i64 tm, .int .i64 ne]).cell 2
        have HW5 := Lib.hid (show Below w.heap.size w (w4.alloc (.cells #[.int .i64 ta, .int .i64 tm, .int .i64 ne] 46)) from bl_alloc HB.out _)
        have HO5 := Lib.hid (HOR.out.alloc (.cells #[.int .i64 ta, .int .i64 tm, .int .i64 ne] 46))
        have hz5 : w4.heap.size < (w4.alloc (.cells #[.int .i64 ta, .int .i64 tm, .int .i64 ne] 46)).heap.size := by simp
        generalize (w4.alloc (.cells #[.int .i64 ta, .int .i64 tm, .int .i64 ne] 46)) = w5 at *
        refine wp_region_held_drew (S := (fun W => W.cell? ⟨w4.heap.size, 0, none⟩ = some (.int .i64 ta) ∧ W.cell? ⟨w4.heap.size, 1, none⟩ = some (.int .i64 tm) ∧ W.cell? ⟨w4.heap.size, 2, none⟩ = some (.int .i64 ne))) (by kernel_rfl) (by exact ⟨s0, s1, s2⟩) (fun hHeld0 => ?_)
        refine wpAnyH_take (i := 0) (oi := { dst := some 24, op := .load 46 (.tmp 7), type := 46, pos := "l6_jobs.go:65", after := #[], guard := none }) (v := ?vu2x0) rfl (by kernel_rfl) (by kernel_rfl) (by kernel_rfl) (fun _ _ _ h => h) (Or.inl ⟨by rfl, ?hyu2x0⟩) hHeld0 ?restu2x0
        case hyu2x0 => first | (intro w hSw; (try dsimp only at hSw); go_simp; done) | (intro w hSw; (try dsimp only at hSw); go_simp; with_reducible rfl)
        (try simp only [Act.put, List.setIfInBounds_toArray, List.set_cons_zero, List.set_cons_succ])
        refine wpAnyH_take (i := 1) (oi := { dst := some 25, op := .move (.tmp 0), type := 23, pos := "l6_jobs.go:65", after := #[], guard := none }) (v := ?vu2x1) rfl (by kernel_rfl) (by kernel_rfl) (by kernel_rfl) (fun _ _ _ h => h) (Or.inl ⟨by rfl, ?hyu2x1⟩) hHeld0 ?restu2x1
        case hyu2x1 => first | (intro w hSw; (try dsimp only at hSw); go_simp; done) | (intro w hSw; (try dsimp only at hSw); go_simp; with_reducible rfl)
        (try simp only [Act.put, List.setIfInBounds_toArray, List.set_cons_zero, List.set_cons_succ])
        refine wpAnyH_ready (rs := [2]) (by kernel_rfl) (by simp) ?_
        refine AllReadyH.cons (o := { dst := some 26, op := .call { callee := .value (.func 87), args := #[.tmp 24, .tmp 25], argTypes := #[46, 23] }, type := 4, pos := "l6_jobs.go:65", after := #[⟨0, .data⟩, ⟨1, .data⟩], guard := none }) rfl (fun K hK => ?_) AllReadyH.nil
        go_simp
        (go_at_call 87; refine (iIsOf_is _ A n c ts ((H.out.below ((by repeat (first | with_reducible exact HW5.out | with_reducible refine Below.drew ?_ | with_reducible refine bl_drewN ?_ _ | with_reducible refine bl_alloc ?_ _)) : Below w.heap.size w _)).more (Below.size ((by repeat (first | with_reducible exact HW5.out | with_reducible refine Below.drew ?_ | with_reducible refine bl_drewN ?_ _ | with_reducible refine bl_alloc ?_ _)) : Below w.heap.size w _))) hn ⟨ta, tm, ne⟩ true HJB.out).mono ?_; rintro e w6 ⟨rfl, hb⟩; have HB6 := Lib.hid (show Below w5.heap.size w5 w6 from bl_trans (by repeat (first | with_reducible exact Below.refl _ _ | with_reducible refine bl_drewN ?_ _ | with_reducible refine Below.drew ?_)) hb); clear hb)
        (try go_wp2_with fail)
        refine hK.out _ _ (by exact ⟨(HB6.out.cell (p := ⟨w4.heap.size, 0, none⟩) hz5).trans s0, (HB6.out.cell (p := ⟨w4.heap.size, 1, none⟩) hz5).trans s1, (HB6.out.cell (p := ⟨w4.heap.size, 2, none⟩) hz5).trans s2⟩) (fun hHeld1 => ?_)
        clear hK K
        (try simp only [Act.put, List.setIfInBounds_toArray, List.set_cons_zero, List.set_cons_succ])
        refine wpAnyH_take (i := 3) (oi := { dst := some 27, op := .unOp .not 4 (.tmp 26), type := 4, pos := "l6_jobs.go:65", after := #[⟨2, .data⟩], guard := none }) (v := ?vu2x3) rfl (by kernel_rfl) (by kernel_rfl) (by kernel_rfl) (fun _ _ _ h => h) (Or.inl ⟨by rfl, ?hyu2x3⟩) hHeld1 ?restu2x3
        case hyu2x3 => first | (intro w hSw; (try dsimp only at hSw); go_simp; done) | (intro w hSw; (try dsimp only at hSw); go_simp; with_reducible rfl)
        (try simp only [Act.put, List.setIfInBounds_toArray, List.set_cons_zero, List.set_cons_succ])
        refine wpAnyH_take (i := 4) (oi := { dst := some 28, op := .move (.tmp 27), type := 4, pos := "l6_jobs.go:65", after := #[⟨3, .data⟩, ⟨2, .chain⟩], guard := none }) (v := ?vu2x4) rfl (by kernel_rfl) (by kernel_rfl) (by kernel_rfl) (fun _ _ _ h => h) (Or.inl ⟨by rfl, ?hyu2x4⟩) hHeld1 ?restu2x4
        case hyu2x4 => first | (intro w hSw; (try dsimp only at hSw); go_simp; done) | (intro w hSw; (try dsimp only at hSw); go_simp; with_reducible rfl)
        (try simp only [Act.put, List.setIfInBounds_toArray, List.set_cons_zero, List.set_cons_succ])
        refine wpAnyH_take (i := 5) (oi := { dst := some 29, op := .move (.tmp 6), type := 3, pos := "l6_jobs.go:65", after := #[⟨4, .guard⟩], guard := some (4, false) }) (v := ?vu2x5) rfl (by kernel_rfl) (by kernel_rfl) (by kernel_rfl) (fun _ _ _ h => h) (Or.inl ⟨by rfl, ?hyu2x5⟩) hHeld1 ?restu2x5
        case hyu2x5 => first | (intro w hSw; (try dsimp only at hSw); go_simp; done) | (intro w hSw; (try dsimp only at hSw); go_simp; with_reducible rfl)
        (try simp only [Act.put, List.setIfInBounds_toArray, List.set_cons_zero, List.set_cons_succ])
        refine wpAnyH_take (i := 6) (oi := { dst := some 30, op := .binOp .gtr 3 (.tmp 29) (.const (.int .i64 0)) 3, type := 4, pos := "l6_jobs.go:65", after := #[⟨5, .data⟩, ⟨4, .guard⟩], guard := some (4, false) }) (v := ?vu2x6) rfl (by kernel_rfl) (by kernel_rfl) (by kernel_rfl) (fun _ _ _ h => h) (Or.inl ⟨by rfl, ?hyu2x6⟩) hHeld1 ?restu2x6
        case hyu2x6 => first | (intro w hSw; (try dsimp only at hSw); go_simp; done) | (intro w hSw; (try dsimp only at hSw); go_simp; with_reducible rfl)
        (try simp only [Act.put, List.setIfInBounds_toArray, List.set_cons_zero, List.set_cons_succ])
        refine wpAnyH_take (i := 7) (oi := { dst := some 31, op := .move (.tmp 30), type := 4, pos := "l6_jobs.go:65", after := #[⟨6, .data⟩, ⟨4, .chain⟩, ⟨4, .guard⟩], guard := some (4, false) }) (v := ?vu2x7) rfl (by kernel_rfl) (by kernel_rfl) (by kernel_rfl) (fun _ _ _ h => h) (Or.inl ⟨by rfl, ?hyu2x7⟩) hHeld1 ?restu2x7
        case hyu2x7 => first | (intro w hSw; (try dsimp only at hSw); go_simp; done) | (intro w hSw; (try dsimp only at hSw); go_simp; with_reducible rfl)
        (try simp only [Act.put, List.setIfInBounds_toArray, List.set_cons_zero, List.set_cons_succ])
        refine wpAnyH_take (i := 8) (oi := { dst := some 32, op := .move (.tmp 5), type := 77, pos := "l6_jobs.go:65", after := #[⟨7, .guard⟩], guard := some (7, true) }) (v := undef) rfl (by kernel_rfl) (by kernel_rfl) (by kernel_rfl) (fun _ _ _ h => h) (Or.inr ⟨by rfl, by rfl⟩) hHeld1 ?_
        (try simp only [Act.put, List.setIfInBounds_toArray, List.set_cons_zero, List.set_cons_succ])
        refine wpAnyH_take (i := 9) (oi := { dst := some 33, op := .move (.tmp 1), type := 24, pos := "l6_jobs.go:65", after := #[⟨7, .guard⟩], guard := some (7, true) }) (v := undef) rfl (by kernel_rfl) (by kernel_rfl) (by kernel_rfl) (fun _ _ _ h => h) (Or.inr ⟨by rfl, by rfl⟩) hHeld1 ?_
        (try simp only [Act.put, List.setIfInBounds_toArray, List.set_cons_zero, List.set_cons_succ])
        refine wpAnyH_take (i := 10) (oi := { dst := some 34, op := .move (.tmp 6), type := 3, pos := "l6_jobs.go:65", after := #[⟨7, .guard⟩], guard := some (7, true) }) (v := undef) rfl (by kernel_rfl) (by kernel_rfl) (by kernel_rfl) (fun _ _ _ h => h) (Or.inr ⟨by rfl, by rfl⟩) hHeld1 ?_
        (try simp only [Act.put, List.setIfInBounds_toArray, List.set_cons_zero, List.set_cons_succ])
        refine wpAnyH_take (i := 11) (oi := { dst := some 35, op := .binOp .sub 3 (.tmp 34) (.const (.int .i64 1)) 3, type := 3, pos := "l6_jobs.go:65", after := #[⟨10, .data⟩, ⟨7, .guard⟩], guard := some (7, true) }) (v := undef) rfl (by kernel_rfl) (by kernel_rfl) (by kernel_rfl) (fun _ _ _ h => h) (Or.inr ⟨by rfl, by rfl⟩) hHeld1 ?_
        (try simp only [Act.put, List.setIfInBounds_toArray, List.set_cons_zero, List.set_cons_succ])
        refine wpAnyH_take (i := 12) (oi := { dst := some 36, op := .indexAddr 24 (.tmp 33) (.tmp 35), type := 0, pos := "l6_jobs.go:65", after := #[⟨9, .data⟩, ⟨11, .data⟩, ⟨7, .guard⟩], guard := some (7, true) }) (v := undef) rfl (by kernel_rfl) (by kernel_rfl) (by kernel_rfl) (fun _ _ _ h => h) (Or.inr ⟨by rfl, by rfl⟩) hHeld1 ?_
        (try simp only [Act.put, List.setIfInBounds_toArray, List.set_cons_zero, List.set_cons_succ])
        refine wpAnyH_take (i := 13) (oi := { dst := some 37, op := .load 46 (.tmp 36), type := 46, pos := "l6_jobs.go:65", after := #[⟨12, .data⟩, ⟨7, .guard⟩], guard := some (7, true) }) (v := undef) rfl (by kernel_rfl) (by kernel_rfl) (by kernel_rfl) (fun _ _ _ h => h) (Or.inr ⟨by rfl, by rfl⟩) hHeld1 ?_
        (try simp only [Act.put, List.setIfInBounds_toArray, List.set_cons_zero, List.set_cons_succ])
        refine wpAnyH_take (i := 14) (oi := { dst := some 38, op := .load 46 (.tmp 7), type := 46, pos := "l6_jobs.go:65", after := #[⟨7, .guard⟩], guard := some (7, true) }) (v := undef) rfl (by kernel_rfl) (by kernel_rfl) (by kernel_rfl) (fun _ _ _ h => h) (Or.inr ⟨by rfl, by rfl⟩) hHeld1 ?_
        (try simp only [Act.put, List.setIfInBounds_toArray, List.set_cons_zero, List.set_cons_succ])
        refine wpAnyH_take (i := 15) (oi := { dst := some 39, op := .call { callee := .value (.func 55), args := #[.tmp 32, .tmp 37, .tmp 38], argTypes := #[77, 46, 46] }, type := 4, pos := "l6_jobs.go:65", after := #[⟨8, .data⟩, ⟨13, .data⟩, ⟨14, .data⟩, ⟨7, .chain⟩, ⟨7, .guard⟩], guard := some (7, true) }) (v := undef) rfl (by kernel_rfl) (by kernel_rfl) (by kernel_rfl) (fun _ _ _ h => h) (Or.inr ⟨by rfl, by rfl⟩) hHeld1 ?_
        (try simp only [Act.put, List.setIfInBounds_toArray, List.set_cons_zero, List.set_cons_succ])
        refine wpAnyH_take (i := 16) (oi := { dst := some 40, op := .unOp .not 4 (.tmp 39), type := 4, pos := "l6_jobs.go:65", after := #[⟨15, .data⟩, ⟨7, .guard⟩], guard := some (7, true) }) (v := undef) rfl (by kernel_rfl) (by kernel_rfl) (by kernel_rfl) (fun _ _ _ h => h) (Or.inr ⟨by rfl, by rfl⟩) hHeld1 ?_
        (try simp only [Act.put, List.setIfInBounds_toArray, List.set_cons_zero, List.set_cons_succ])
        refine wpAnyH_take (i := 17) (oi := { dst := some 41, op := .pick (.tmp 31) (.tmp 40) (.const (.bool false)), type := 4, pos := "l6_jobs.go:65", after := #[⟨7, .data⟩, ⟨16, .data⟩, ⟨4, .guard⟩], guard := some (4, false) }) (v := ?vu2x17) rfl (by kernel_rfl) (by kernel_rfl) (by kernel_rfl) (fun _ _ _ h => h) (Or.inl ⟨by rfl, ?hyu2x17⟩) hHeld1 ?restu2x17
        case hyu2x17 => first | (intro w hSw; (try dsimp only at hSw); go_simp; done) | (intro w hSw; (try dsimp only at hSw); go_simp; with_reducible rfl)
        (try simp only [Act.put, List.setIfInBounds_toArray, List.set_cons_zero, List.set_cons_succ])
        refine wpAnyH_take (i := 18) (oi := { dst := some 42, op := .pick (.tmp 28) (.const (.bool true)) (.tmp 41), type := 4, pos := "l6_jobs.go:65", after := #[⟨4, .data⟩, ⟨17, .data⟩], guard := none }) (v := ?vu2x18) rfl (by kernel_rfl) (by kernel_rfl) (by kernel_rfl) (fun _ _ _ h => h) (Or.inl ⟨by rfl, ?hyu2x18⟩) hHeld1 ?restu2x18
        case hyu2x18 => first | (intro w hSw; (try dsimp only at hSw); go_simp; done) | (intro w hSw; (try dsimp only at hSw); go_simp; with_reducible rfl)
        (try simp only [Act.put, List.setIfInBounds_toArray, List.set_cons_zero, List.set_cons_succ])
        refine wpAnyH_done (by kernel_rfl) ?_ _
        go_wp2
        go_roundw
        case rel => exact ⟨0 + 1, by omega, by go_num, HPN, Lib.hid (by repeat (first | with_reducible exact HO5.out.below HB6.out | refine OrdAt.drewN ?_ _ | refine OrdAt.drew ?_)), Lib.hid (bl_trans HW5.out (by repeat (first | with_reducible exact HB6.out | with_reducible refine Below.drew ?_ | with_reducible refine bl_drewN ?_ _ | with_reducible refine bl_alloc ?_ _)))⟩
        case measure => simp [intOf]; omega
      obtain ⟨r, hr⟩ : ∃ r, q = r + 1 := ⟨q - 1, by omega⟩
      obtain ⟨pj, hpj⟩ : ∃ j, js[r]? = some j := ⟨js[r]'(by rw [HM.out]; omega), List.getElem?_eq_getElem _⟩
      obtain ⟨bp, op, hA, hbp, p0, p1, p2⟩ := (J.out.below HB.out).at_ r pj hpj
      injection hA with hA
      injection hA with e1 e2
      subst e1 e2
      have HLQ := Lib.hid (show lastBef (js.take q) ⟨ta, tm, ne⟩ = befB pj ⟨ta, tm, ne⟩ by rw [hr]; exact lastBef_at hpj)
      have r1 : (r : Int) < (m : Int) := by omega
      have r0 : (0 : Int) < (q : Int) := by omega
      have r00 : 0 < q := by omega
      have r2 : IntKind.i64.wrap ((q : Int) - 1) = (r : Int) := by rw [IntWalk.i64_in _ (by omega)]; omega
      clear hr
      obtain ⟨pa, pm, pe⟩ := pj
      dsimp only at p0 p1 p2
      clear hpj hq0
      cases hbf : befB ⟨pa, pm, pe⟩ ⟨ta, tm, ne⟩
      · have HBF := Lib.hid hbf
        obtain rfl : b = false := by
          rw [← HR.out]
          exact seq_bad HJ.out HP.out (by rw [HJ1.out, HLQ.out, hbf]; rfl)
        clear hbf
        go_wp2_with fail
        have s0 := (Blk.new w4 46 #[.int .i64 ta, .int .i64 tm, .int .i64 ne]).cell 0
        have s1 := (Blk.new w4 46 #[.int .i64 ta, .int .i64 tm, .int .i64 ne]).cell 1
        have s2 := (Blk.new w4 46 #[.int .i64 ta, .int .i64 tm, .int .i64 ne]).cell 2
        have HW5 := Lib.hid (show Below w.heap.size w (w4.alloc (.cells #[.int .i64 ta, .int .i64 tm, .int .i64 ne] 46)) from bl_alloc HB.out _)
        have HO5 := Lib.hid (HOR.out.alloc (.cells #[.int .i64 ta, .int .i64 tm, .int .i64 ne] 46))
        have hz5 : w4.heap.size < (w4.alloc (.cells #[.int .i64 ta, .int .i64 tm, .int .i64 ne] 46)).heap.size := by simp
        have hbj5 : bj < (w4.alloc (.cells #[.int .i64 ta, .int .i64 tm, .int .i64 ne] 46)).heap.size := Nat.lt_trans hbj4 hz5
        have s3 := (World.cell?_alloc_lt w4 (.cells #[.int .i64 ta, .int .i64 tm, .int .i64 ne] 46) ⟨bj, oj + r * 3, none⟩ hbj4).trans p0
        have s4 := (World.cell?_alloc_lt w4 (.cells #[.int .i64 ta, .int .i64 tm, .int .i64 ne] 46) ⟨bj, oj + r * 3 + 1, none⟩ hbj4).trans p1
        have s5 := (World.cell?_alloc_lt w4 (.cells #[.int .i64 ta, .int .i64 tm, .int .i64 ne] 46) ⟨bj, oj + r * 3 + 2, none⟩ hbj4).trans p2
        generalize (w4.alloc (.cells #[.int .i64 ta, .int .i64 tm, .int .i64 ne] 46)) = w5 at *
        refine wp_region_held_drew (S := (fun W => W.cell? ⟨w4.heap.size, 0, none⟩ = some (.int .i64 ta) ∧ W.cell? ⟨w4.heap.size, 1, none⟩ = some (.int .i64 tm) ∧ W.cell? ⟨w4.heap.size, 2, none⟩ = some (.int .i64 ne) ∧ W.cell? ⟨bj, oj + r * 3, none⟩ = some (.int .i64 pa) ∧ W.cell? ⟨bj, oj + r * 3 + 1, none⟩ = some (.int .i64 pm) ∧ W.cell? ⟨bj, oj + r * 3 + 2, none⟩ = some (.int .i64 pe))) (by kernel_rfl) (by exact ⟨s0, s1, s2, s3, s4, s5⟩) (fun hHeld0 => ?_)
        refine wpAnyH_take (i := 0) (oi := { dst := some 24, op := .load 46 (.tmp 7), type := 46, pos := "l6_jobs.go:65", after := #[], guard := none }) (v := ?vu3x0) rfl (by kernel_rfl) (by kernel_rfl) (by kernel_rfl) (fun _ _ _ h => h) (Or.inl ⟨by rfl, ?hyu3x0⟩) hHeld0 ?restu3x0
        case hyu3x0 => first | (intro w hSw; (try dsimp only at hSw); go_simp; done) | (intro w hSw; (try dsimp only at hSw); go_simp; with_reducible rfl)
        (try simp only [Act.put, List.setIfInBounds_toArray, List.set_cons_zero, List.set_cons_succ])
        refine wpAnyH_take (i := 1) (oi := { dst := some 25, op := .move (.tmp 0), type := 23, pos := "l6_jobs.go:65", after := #[], guard := none }) (v := ?vu3x1) rfl (by kernel_rfl) (by kernel_rfl) (by kernel_rfl) (fun _ _ _ h => h) (Or.inl ⟨by rfl, ?hyu3x1⟩) hHeld0 ?restu3x1
        case hyu3x1 => first | (intro w hSw; (try dsimp only at hSw); go_simp; done) | (intro w hSw; (try dsimp only at hSw); go_simp; with_reducible rfl)
        (try simp only [Act.put, List.setIfInBounds_toArray, List.set_cons_zero, List.set_cons_succ])
        refine wpAnyH_ready (rs := [2]) (by kernel_rfl) (by simp) ?_
        refine AllReadyH.cons (o := { dst := some 26, op := .call { callee := .value (.func 87), args := #[.tmp 24, .tmp 25], argTypes := #[46, 23] }, type := 4, pos := "l6_jobs.go:65", after := #[⟨0, .data⟩, ⟨1, .data⟩], guard := none }) rfl (fun K hK => ?_) AllReadyH.nil
        go_simp
        (go_at_call 87; refine (iIsOf_is _ A n c ts ((H.out.below ((by repeat (first | with_reducible exact HW5.out | with_reducible refine Below.drew ?_ | with_reducible refine bl_drewN ?_ _ | with_reducible refine bl_alloc ?_ _)) : Below w.heap.size w _)).more (Below.size ((by repeat (first | with_reducible exact HW5.out | with_reducible refine Below.drew ?_ | with_reducible refine bl_drewN ?_ _ | with_reducible refine bl_alloc ?_ _)) : Below w.heap.size w _))) hn ⟨ta, tm, ne⟩ true HJB.out).mono ?_; rintro e w6 ⟨rfl, hb⟩; have HB6 := Lib.hid (show Below w5.heap.size w5 w6 from bl_trans (by repeat (first | with_reducible exact Below.refl _ _ | with_reducible refine bl_drewN ?_ _ | with_reducible refine Below.drew ?_)) hb); clear hb)
        (try go_wp2_with fail)
        refine hK.out _ _ (by exact ⟨(HB6.out.cell (p := ⟨w4.heap.size, 0, none⟩) hz5).trans s0, (HB6.out.cell (p := ⟨w4.heap.size, 1, none⟩) hz5).trans s1, (HB6.out.cell (p := ⟨w4.heap.size, 2, none⟩) hz5).trans s2, (HB6.out.cell (p := ⟨bj, oj + r * 3, none⟩) hbj5).trans s3, (HB6.out.cell (p := ⟨bj, oj + r * 3 + 1, none⟩) hbj5).trans s4, (HB6.out.cell (p := ⟨bj, oj + r * 3 + 2, none⟩) hbj5).trans s5⟩) (fun hHeld1 => ?_)
        clear hK K
        (try simp only [Act.put, List.setIfInBounds_toArray, List.set_cons_zero, List.set_cons_succ])
        refine wpAnyH_take (i := 3) (oi := { dst := some 27, op := .unOp .not 4 (.tmp 26), type := 4, pos := "l6_jobs.go:65", after := #[⟨2, .data⟩], guard := none }) (v := ?vu3x3) rfl (by kernel_rfl) (by kernel_rfl) (by kernel_rfl) (fun _ _ _ h => h) (Or.inl ⟨by rfl, ?hyu3x3⟩) hHeld1 ?restu3x3
        case hyu3x3 => first | (intro w hSw; (try dsimp only at hSw); go_simp; done) | (intro w hSw; (try dsimp only at hSw); go_simp; with_reducible rfl)
        (try simp only [Act.put, List.setIfInBounds_toArray, List.set_cons_zero, List.set_cons_succ])
        refine wpAnyH_take (i := 4) (oi := { dst := some 28, op := .move (.tmp 27), type := 4, pos := "l6_jobs.go:65", after := #[⟨3, .data⟩, ⟨2, .chain⟩], guard := none }) (v := ?vu3x4) rfl (by kernel_rfl) (by kernel_rfl) (by kernel_rfl) (fun _ _ _ h => h) (Or.inl ⟨by rfl, ?hyu3x4⟩) hHeld1 ?restu3x4
        case hyu3x4 => first | (intro w hSw; (try dsimp only at hSw); go_simp; done) | (intro w hSw; (try dsimp only at hSw); go_simp; with_reducible rfl)
        (try simp only [Act.put, List.setIfInBounds_toArray, List.set_cons_zero, List.set_cons_succ])
        refine wpAnyH_take (i := 5) (oi := { dst := some 29, op := .move (.tmp 6), type := 3, pos := "l6_jobs.go:65", after := #[⟨4, .guard⟩], guard := some (4, false) }) (v := ?vu3x5) rfl (by kernel_rfl) (by kernel_rfl) (by kernel_rfl) (fun _ _ _ h => h) (Or.inl ⟨by rfl, ?hyu3x5⟩) hHeld1 ?restu3x5
        case hyu3x5 => first | (intro w hSw; (try dsimp only at hSw); go_simp; done) | (intro w hSw; (try dsimp only at hSw); go_simp; with_reducible rfl)
        (try simp only [Act.put, List.setIfInBounds_toArray, List.set_cons_zero, List.set_cons_succ])
        refine wpAnyH_take (i := 6) (oi := { dst := some 30, op := .binOp .gtr 3 (.tmp 29) (.const (.int .i64 0)) 3, type := 4, pos := "l6_jobs.go:65", after := #[⟨5, .data⟩, ⟨4, .guard⟩], guard := some (4, false) }) (v := ?vu3x6) rfl (by kernel_rfl) (by kernel_rfl) (by kernel_rfl) (fun _ _ _ h => h) (Or.inl ⟨by rfl, ?hyu3x6⟩) hHeld1 ?restu3x6
        case hyu3x6 => first | (intro w hSw; (try dsimp only at hSw); go_simp; done) | (intro w hSw; (try dsimp only at hSw); go_simp; with_reducible rfl)
        (try simp only [Act.put, List.setIfInBounds_toArray, List.set_cons_zero, List.set_cons_succ])
        refine wpAnyH_take (i := 7) (oi := { dst := some 31, op := .move (.tmp 30), type := 4, pos := "l6_jobs.go:65", after := #[⟨6, .data⟩, ⟨4, .chain⟩, ⟨4, .guard⟩], guard := some (4, false) }) (v := ?vu3x7) rfl (by kernel_rfl) (by kernel_rfl) (by kernel_rfl) (fun _ _ _ h => h) (Or.inl ⟨by rfl, ?hyu3x7⟩) hHeld1 ?restu3x7
        case hyu3x7 => first | (intro w hSw; (try dsimp only at hSw); go_simp; done) | (intro w hSw; (try dsimp only at hSw); go_simp; with_reducible rfl)
        (try simp only [Act.put, List.setIfInBounds_toArray, List.set_cons_zero, List.set_cons_succ])
        refine wpAnyH_take (i := 8) (oi := { dst := some 32, op := .move (.tmp 5), type := 77, pos := "l6_jobs.go:65", after := #[⟨7, .guard⟩], guard := some (7, true) }) (v := ?vu3x8) rfl (by kernel_rfl) (by kernel_rfl) (by kernel_rfl) (fun _ _ _ h => h) (Or.inl ⟨by rfl, ?hyu3x8⟩) hHeld1 ?restu3x8
        case hyu3x8 => first | (intro w hSw; (try dsimp only at hSw); go_simp; done) | (intro w hSw; (try dsimp only at hSw); go_simp; with_reducible rfl)
        (try simp only [Act.put, List.setIfInBounds_toArray, List.set_cons_zero, List.set_cons_succ])
        refine wpAnyH_take (i := 9) (oi := { dst := some 33, op := .move (.tmp 1), type := 24, pos := "l6_jobs.go:65", after := #[⟨7, .guard⟩], guard := some (7, true) }) (v := ?vu3x9) rfl (by kernel_rfl) (by kernel_rfl) (by kernel_rfl) (fun _ _ _ h => h) (Or.inl ⟨by rfl, ?hyu3x9⟩) hHeld1 ?restu3x9
        case hyu3x9 => first | (intro w hSw; (try dsimp only at hSw); go_simp; done) | (intro w hSw; (try dsimp only at hSw); go_simp; with_reducible rfl)
        (try simp only [Act.put, List.setIfInBounds_toArray, List.set_cons_zero, List.set_cons_succ])
        refine wpAnyH_take (i := 10) (oi := { dst := some 34, op := .move (.tmp 6), type := 3, pos := "l6_jobs.go:65", after := #[⟨7, .guard⟩], guard := some (7, true) }) (v := ?vu3x10) rfl (by kernel_rfl) (by kernel_rfl) (by kernel_rfl) (fun _ _ _ h => h) (Or.inl ⟨by rfl, ?hyu3x10⟩) hHeld1 ?restu3x10
        case hyu3x10 => first | (intro w hSw; (try dsimp only at hSw); go_simp; done) | (intro w hSw; (try dsimp only at hSw); go_simp; with_reducible rfl)
        (try simp only [Act.put, List.setIfInBounds_toArray, List.set_cons_zero, List.set_cons_succ])
        refine wpAnyH_take (i := 11) (oi := { dst := some 35, op := .binOp .sub 3 (.tmp 34) (.const (.int .i64 1)) 3, type := 3, pos := "l6_jobs.go:65", after := #[⟨10, .data⟩, ⟨7, .guard⟩], guard := some (7, true) }) (v := ?vu3x11) rfl (by kernel_rfl) (by kernel_rfl) (by kernel_rfl) (fun _ _ _ h => h) (Or.inl ⟨by rfl, ?hyu3x11⟩) hHeld1 ?restu3x11
        case hyu3x11 => first | (intro w hSw; (try dsimp only at hSw); go_simp; done) | (intro w hSw; (try dsimp only at hSw); go_simp; with_reducible rfl)
        (try simp only [Act.put, List.setIfInBounds_toArray, List.set_cons_zero, List.set_cons_succ])
        refine wpAnyH_take (i := 12) (oi := { dst := some 36, op := .indexAddr 24 (.tmp 33) (.tmp 35), type := 0, pos := "l6_jobs.go:65", after := #[⟨9, .data⟩, ⟨11, .data⟩, ⟨7, .guard⟩], guard := some (7, true) }) (v := ?vu3x12) rfl (by kernel_rfl) (by kernel_rfl) (by kernel_rfl) (fun _ _ _ h => h) (Or.inl ⟨by rfl, ?hyu3x12⟩) hHeld1 ?restu3x12
        case hyu3x12 => first | (intro w hSw; (try dsimp only at hSw); go_simp; done) | (intro w hSw; (try dsimp only at hSw); go_simp; with_reducible rfl)
        (try simp only [Act.put, List.setIfInBounds_toArray, List.set_cons_zero, List.set_cons_succ])
        refine wpAnyH_take (i := 13) (oi := { dst := some 37, op := .load 46 (.tmp 36), type := 46, pos := "l6_jobs.go:65", after := #[⟨12, .data⟩, ⟨7, .guard⟩], guard := some (7, true) }) (v := ?vu3x13) rfl (by kernel_rfl) (by kernel_rfl) (by kernel_rfl) (fun _ _ _ h => h) (Or.inl ⟨by rfl, ?hyu3x13⟩) hHeld1 ?restu3x13
        case hyu3x13 => first | (intro w hSw; (try dsimp only at hSw); go_simp; done) | (intro w hSw; (try dsimp only at hSw); go_simp; with_reducible rfl)
        (try simp only [Act.put, List.setIfInBounds_toArray, List.set_cons_zero, List.set_cons_succ])
        refine wpAnyH_take (i := 14) (oi := { dst := some 38, op := .load 46 (.tmp 7), type := 46, pos := "l6_jobs.go:65", after := #[⟨7, .guard⟩], guard := some (7, true) }) (v := ?vu3x14) rfl (by kernel_rfl) (by kernel_rfl) (by kernel_rfl) (fun _ _ _ h => h) (Or.inl ⟨by rfl, ?hyu3x14⟩) hHeld1 ?restu3x14
        case hyu3x14 => first | (intro w hSw; (try dsimp only at hSw); go_simp; done) | (intro w hSw; (try dsimp only at hSw); go_simp; with_reducible rfl)
        (try simp only [Act.put, List.setIfInBounds_toArray, List.set_cons_zero, List.set_cons_succ])
        refine wpAnyH_ready (rs := [15]) (by kernel_rfl) (by simp) ?_
        refine AllReadyH.cons (o := { dst := some 39, op := .call { callee := .value (.func 55), args := #[.tmp 32, .tmp 37, .tmp 38], argTypes := #[77, 46, 46] }, type := 4, pos := "l6_jobs.go:65", after := #[⟨8, .data⟩, ⟨13, .data⟩, ⟨14, .data⟩, ⟨7, .chain⟩, ⟨7, .guard⟩], guard := some (7, true) }) rfl (fun K hK => ?_) AllReadyH.nil
        go_simp
        (go_at_call 55; refine (iBef_is _ g (by repeat (first | with_reducible exact HO5.out.below HB6.out | with_reducible refine OrdAt.drewN ?_ _ | with_reducible refine OrdAt.drew ?_)) ⟨pa, pm, pe⟩ ⟨ta, tm, ne⟩ false HBF.out).mono ?_; rintro e w7 ⟨rfl, hb⟩; have HB7 := Lib.hid (show Below w5.heap.size w5 w7 from bl_trans (by repeat (first | with_reducible exact HB6.out | with_reducible refine Below.drew ?_ | with_reducible refine bl_drewN ?_ _ | with_reducible refine bl_alloc ?_ _)) hb); clear hb)
        (try go_wp2_with fail)
        refine hK.out _ _ (by exact ⟨(HB7.out.cell (p := ⟨w4.heap.size, 0, none⟩) hz5).trans s0, (HB7.out.cell (p := ⟨w4.heap.size, 1, none⟩) hz5).trans s1, (HB7.out.cell (p := ⟨w4.heap.size, 2, none⟩) hz5).trans s2, (HB7.out.cell (p := ⟨bj, oj + r * 3, none⟩) hbj5).trans s3, (HB7.out.cell (p := ⟨bj, oj + r * 3 + 1, none⟩) hbj5).trans s4, (HB7.out.cell (p := ⟨bj, oj + r * 3 + 2, none⟩) hbj5).trans s5⟩) (fun hHeld2 => ?_)
        clear hK K
        (try simp only [Act.put, List.setIfInBounds_toArray, List.set_cons_zero, List.set_cons_succ])
        refine wpAnyH_take (i := 16) (oi := { dst := some 40, op := .unOp .not 4 (.tmp 39), type := 4, pos := "l6_jobs.go:65", after := #[⟨15, .data⟩, ⟨7, .guard⟩], guard := some (7, true) }) (v := ?vu3x16) rfl (by kernel_rfl) (by kernel_rfl) (by kernel_rfl) (fun _ _ _ h => h) (Or.inl ⟨by rfl, ?hyu3x16⟩) hHeld2 ?restu3x16
        case hyu3x16 => first | (intro w hSw; (try dsimp only at hSw); go_simp; done) | (intro w hSw; (try dsimp only at hSw); go_simp; with_reducible rfl)
        (try simp only [Act.put, List.setIfInBounds_toArray, List.set_cons_zero, List.set_cons_succ])
        refine wpAnyH_take (i := 17) (oi := { dst := some 41, op := .pick (.tmp 31) (.tmp 40) (.const (.bool false)), type := 4, pos := "l6_jobs.go:65", after := #[⟨7, .data⟩, ⟨16, .data⟩, ⟨4, .guard⟩], guard := some (4, false) }) (v := ?vu3x17) rfl (by kernel_rfl) (by kernel_rfl) (by kernel_rfl) (fun _ _ _ h => h) (Or.inl ⟨by rfl, ?hyu3x17⟩) hHeld2 ?restu3x17
        case hyu3x17 => first | (intro w hSw; (try dsimp only at hSw); go_simp; done) | (intro w hSw; (try dsimp only at hSw); go_simp; with_reducible rfl)
        (try simp only [Act.put, List.setIfInBounds_toArray, List.set_cons_zero, List.set_cons_succ])
        refine wpAnyH_take (i := 18) (oi := { dst := some 42, op := .pick (.tmp 28) (.const (.bool true)) (.tmp 41), type := 4, pos := "l6_jobs.go:65", after := #[⟨4, .data⟩, ⟨17, .data⟩], guard := none }) (v := ?vu3x18) rfl (by kernel_rfl) (by kernel_rfl) (by kernel_rfl) (fun _ _ _ h => h) (Or.inl ⟨by rfl, ?hyu3x18⟩) hHeld2 ?restu3x18
        case hyu3x18 => first | (intro w hSw; (try dsimp only at hSw); go_simp; done) | (intro w hSw; (try dsimp only at hSw); go_simp; with_reducible rfl)
        (try simp only [Act.put, List.setIfInBounds_toArray, List.set_cons_zero, List.set_cons_succ])
        refine wpAnyH_done (by kernel_rfl) ?_ _
        go_wp2
        go_ret
        exact ⟨rfl, bl_trans HW5.out (by repeat (first | with_reducible exact HB7.out | with_reducible refine Below.drew ?_ | with_reducible refine bl_drewN ?_ _ | with_reducible refine bl_alloc ?_ _))⟩
      · have HBF := Lib.hid hbf
        have HPN : Hid (seqB ts (js.take (q + 1)) = true) := Lib.hid (by rw [HSTEP.out, HJ1.out, HLQ.out, hbf]; rfl)
        clear hbf
        go_wp2_with fail
        have s0 := (Blk.new w4 46 #[.int .i64 ta, .int .i64 tm, .int .i64 ne]).cell 0
        have s1 := (Blk.new w4 46 #[.int .i64 ta, .int .i64 tm, .int .i64 ne]).cell 1
        have s2 := (Blk.new w4 46 #[.int .i64 ta, .int .i64 tm, .int .i64 ne]).cell 2
        have HW5 := Lib.hid (show Below w.heap.size w (w4.alloc (.cells #[.int .i64 ta, .int .i64 tm, .int .i64 ne] 46)) from bl_alloc HB.out _)
        have HO5 := Lib.hid (HOR.out.alloc (.cells #[.int .i64 ta, .int .i64 tm, .int .i64 ne] 46))
        have hz5 : w4.heap.size < (w4.alloc (.cells #[.int .i64 ta, .int .i64 tm, .int .i64 ne] 46)).heap.size := by simp
        have hbj5 : bj < (w4.alloc (.cells #[.int .i64 ta, .int .i64 tm, .int .i64 ne] 46)).heap.size := Nat.lt_trans hbj4 hz5
        have s3 := (World.cell?_alloc_lt w4 (.cells #[.int .i64 ta, .int .i64 tm, .int .i64 ne] 46) ⟨bj, oj + r * 3, none⟩ hbj4).trans p0
        have s4 := (World.cell?_alloc_lt w4 (.cells #[.int .i64 ta, .int .i64 tm, .int .i64 ne] 46) ⟨bj, oj + r * 3 + 1, none⟩ hbj4).trans p1
        have s5 := (World.cell?_alloc_lt w4 (.cells #[.int .i64 ta, .int .i64 tm, .int .i64 ne] 46) ⟨bj, oj + r * 3 + 2, none⟩ hbj4).trans p2
        generalize (w4.alloc (.cells #[.int .i64 ta, .int .i64 tm, .int .i64 ne] 46)) = w5 at *
        refine wp_region_held_drew (S := (fun W => W.cell? ⟨w4.heap.size, 0, none⟩ = some (.int .i64 ta) ∧ W.cell? ⟨w4.heap.size, 1, none⟩ = some (.int .i64 tm) ∧ W.cell? ⟨w4.heap.size, 2, none⟩ = some (.int .i64 ne) ∧ W.cell? ⟨bj, oj + r * 3, none⟩ = some (.int .i64 pa) ∧ W.cell? ⟨bj, oj + r * 3 + 1, none⟩ = some (.int .i64 pm) ∧ W.cell? ⟨bj, oj + r * 3 + 2, none⟩ = some (.int .i64 pe))) (by kernel_rfl) (by exact ⟨s0, s1, s2, s3, s4, s5⟩) (fun hHeld0 => ?_)
        refine wpAnyH_take (i := 0) (oi := { dst := some 24, op := .load 46 (.tmp 7), type := 46, pos := "l6_jobs.go:65", after := #[], guard := none }) (v := ?vu4x0) rfl (by kernel_rfl) (by kernel_rfl) (by kernel_rfl) (fun _ _ _ h => h) (Or.inl ⟨by rfl, ?hyu4x0⟩) hHeld0 ?restu4x0
        case hyu4x0 => first | (intro w hSw; (try dsimp only at hSw); go_simp; done) | (intro w hSw; (try dsimp only at hSw); go_simp; with_reducible rfl)
        (try simp only [Act.put, List.setIfInBounds_toArray, List.set_cons_zero, List.set_cons_succ])
        refine wpAnyH_take (i := 1) (oi := { dst := some 25, op := .move (.tmp 0), type := 23, pos := "l6_jobs.go:65", after := #[], guard := none }) (v := ?vu4x1) rfl (by kernel_rfl) (by kernel_rfl) (by kernel_rfl) (fun _ _ _ h => h) (Or.inl ⟨by rfl, ?hyu4x1⟩) hHeld0 ?restu4x1
        case hyu4x1 => first | (intro w hSw; (try dsimp only at hSw); go_simp; done) | (intro w hSw; (try dsimp only at hSw); go_simp; with_reducible rfl)
        (try simp only [Act.put, List.setIfInBounds_toArray, List.set_cons_zero, List.set_cons_succ])
        refine wpAnyH_ready (rs := [2]) (by kernel_rfl) (by simp) ?_
        refine AllReadyH.cons (o := { dst := some 26, op := .call { callee := .value (.func 87), args := #[.tmp 24, .tmp 25], argTypes := #[46, 23] }, type := 4, pos := "l6_jobs.go:65", after := #[⟨0, .data⟩, ⟨1, .data⟩], guard := none }) rfl (fun K hK => ?_) AllReadyH.nil
        go_simp
        (go_at_call 87; refine (iIsOf_is _ A n c ts ((H.out.below ((by repeat (first | with_reducible exact HW5.out | with_reducible refine Below.drew ?_ | with_reducible refine bl_drewN ?_ _ | with_reducible refine bl_alloc ?_ _)) : Below w.heap.size w _)).more (Below.size ((by repeat (first | with_reducible exact HW5.out | with_reducible refine Below.drew ?_ | with_reducible refine bl_drewN ?_ _ | with_reducible refine bl_alloc ?_ _)) : Below w.heap.size w _))) hn ⟨ta, tm, ne⟩ true HJB.out).mono ?_; rintro e w6 ⟨rfl, hb⟩; have HB6 := Lib.hid (show Below w5.heap.size w5 w6 from bl_trans (by repeat (first | with_reducible exact Below.refl _ _ | with_reducible refine bl_drewN ?_ _ | with_reducible refine Below.drew ?_)) hb); clear hb)
        (try go_wp2_with fail)
        refine hK.out _ _ (by exact ⟨(HB6.out.cell (p := ⟨w4.heap.size, 0, none⟩) hz5).trans s0, (HB6.out.cell (p := ⟨w4.heap.size, 1, none⟩) hz5).trans s1, (HB6.out.cell (p := ⟨w4.heap.size, 2, none⟩) hz5).trans s2, (HB6.out.cell (p := ⟨bj, oj + r * 3, none⟩) hbj5).trans s3, (HB6.out.cell (p := ⟨bj, oj + r * 3 + 1, none⟩) hbj5).trans s4, (HB6.out.cell (p := ⟨bj, oj + r * 3 + 2, none⟩) hbj5).trans s5⟩) (fun hHeld1 => ?_)
        clear hK K
        (try simp only [Act.put, List.setIfInBounds_toArray, List.set_cons_zero, List.set_cons_succ])
        refine wpAnyH_take (i := 3) (oi := { dst := some 27, op := .unOp .not 4 (.tmp 26), type := 4, pos := "l6_jobs.go:65", after := #[⟨2, .data⟩], guard := none }) (v := ?vu4x3) rfl (by kernel_rfl) (by kernel_rfl) (by kernel_rfl) (fun _ _ _ h => h) (Or.inl ⟨by rfl, ?hyu4x3⟩) hHeld1 ?restu4x3
        case hyu4x3 => first | (intro w hSw; (try dsimp only at hSw); go_simp; done) | (intro w hSw; (try dsimp only at hSw); go_simp; with_reducible rfl)
        (try simp only [Act.put, List.setIfInBounds_toArray, List.set_cons_zero, List.set_cons_succ])
        refine wpAnyH_take (i := 4) (oi := { dst := some 28, op := .move (.tmp 27), type := 4, pos := "l6_jobs.go:65", after := #[⟨3, .data⟩, ⟨2, .chain⟩], guard := none }) (v := ?vu4x4) rfl (by kernel_rfl) (by kernel_rfl) (by kernel_rfl) (fun _ _ _ h => h) (Or.inl ⟨by rfl, ?hyu4x4⟩) hHeld1 ?restu4x4
        case hyu4x4 => first | (intro w hSw; (try dsimp only at hSw); go_simp; done) | (intro w hSw; (try dsimp only at hSw); go_simp; with_reducible rfl)
        (try simp only [Act.put, List.setIfInBounds_toArray, List.set_cons_zero, List.set_cons_succ])
        refine wpAnyH_take (i := 5) (oi := { dst := some 29, op := .move (.tmp 6), type := 3, pos := "l6_jobs.go:65", after := #[⟨4, .guard⟩], guard := some (4, false) }) (v := ?vu4x5) rfl (by kernel_rfl) (by kernel_rfl) (by kernel_rfl) (fun _ _ _ h => h) (Or.inl ⟨by rfl, ?hyu4x5⟩) hHeld1 ?restu4x5
        case hyu4x5 => first | (intro w hSw; (try dsimp only at hSw); go_simp; done) | (intro w hSw; (try dsimp only at hSw); go_simp; with_reducible rfl)
        (try simp only [Act.put, List.setIfInBounds_toArray, List.set_cons_zero, List.set_cons_succ])
        refine wpAnyH_take (i := 6) (oi := { dst := some 30, op := .binOp .gtr 3 (.tmp 29) (.const (.int .i64 0)) 3, type := 4, pos := "l6_jobs.go:65", after := #[⟨5, .data⟩, ⟨4, .guard⟩], guard := some (4, false) }) (v := ?vu4x6) rfl (by kernel_rfl) (by kernel_rfl) (by kernel_rfl) (fun _ _ _ h => h) (Or.inl ⟨by rfl, ?hyu4x6⟩) hHeld1 ?restu4x6
        case hyu4x6 => first | (intro w hSw; (try dsimp only at hSw); go_simp; done) | (intro w hSw; (try dsimp only at hSw); go_simp; with_reducible rfl)
        (try simp only [Act.put, List.setIfInBounds_toArray, List.set_cons_zero, List.set_cons_succ])
        refine wpAnyH_take (i := 7) (oi := { dst := some 31, op := .move (.tmp 30), type := 4, pos := "l6_jobs.go:65", after := #[⟨6, .data⟩, ⟨4, .chain⟩, ⟨4, .guard⟩], guard := some (4, false) }) (v := ?vu4x7) rfl (by kernel_rfl) (by kernel_rfl) (by kernel_rfl) (fun _ _ _ h => h) (Or.inl ⟨by rfl, ?hyu4x7⟩) hHeld1 ?restu4x7
        case hyu4x7 => first | (intro w hSw; (try dsimp only at hSw); go_simp; done) | (intro w hSw; (try dsimp only at hSw); go_simp; with_reducible rfl)
        (try simp only [Act.put, List.setIfInBounds_toArray, List.set_cons_zero, List.set_cons_succ])
        refine wpAnyH_take (i := 8) (oi := { dst := some 32, op := .move (.tmp 5), type := 77, pos := "l6_jobs.go:65", after := #[⟨7, .guard⟩], guard := some (7, true) }) (v := ?vu4x8) rfl (by kernel_rfl) (by kernel_rfl) (by kernel_rfl) (fun _ _ _ h => h) (Or.inl ⟨by rfl, ?hyu4x8⟩) hHeld1 ?restu4x8
        case hyu4x8 => first | (intro w hSw; (try dsimp only at hSw); go_simp; done) | (intro w hSw; (try dsimp only at hSw); go_simp; with_reducible rfl)
        (try simp only [Act.put, List.setIfInBounds_toArray, List.set_cons_zero, List.set_cons_succ])
        refine wpAnyH_take (i := 9) (oi := { dst := some 33, op := .move (.tmp 1), type := 24, pos := "l6_jobs.go:65", after := #[⟨7, .guard⟩], guard := some (7, true) }) (v := ?vu4x9) rfl (by kernel_rfl) (by kernel_rfl) (by kernel_rfl) (fun _ _ _ h => h) (Or.inl ⟨by rfl, ?hyu4x9⟩) hHeld1 ?restu4x9
        case hyu4x9 => first | (intro w hSw; (try dsimp only at hSw); go_simp; done) | (intro w hSw; (try dsimp only at hSw); go_simp; with_reducible rfl)
        (try simp only [Act.put, List.setIfInBounds_toArray, List.set_cons_zero, List.set_cons_succ])
        refine wpAnyH_take (i := 10) (oi := { dst := some 34, op := .move (.tmp 6), type := 3, pos := "l6_jobs.go:65", after := #[⟨7, .guard⟩], guard := some (7, true) }) (v := ?vu4x10) rfl (by kernel_rfl) (by kernel_rfl) (by kernel_rfl) (fun _ _ _ h => h) (Or.inl ⟨by rfl, ?hyu4x10⟩) hHeld1 ?restu4x10
        case hyu4x10 => first | (intro w hSw; (try dsimp only at hSw); go_simp; done) | (intro w hSw; (try dsimp only at hSw); go_simp; with_reducible rfl)
        (try simp only [Act.put, List.setIfInBounds_toArray, List.set_cons_zero, List.set_cons_succ])
        refine wpAnyH_take (i := 11) (oi := { dst := some 35, op := .binOp .sub 3 (.tmp 34) (.const (.int .i64 1)) 3, type := 3, pos := "l6_jobs.go:65", after := #[⟨10, .data⟩, ⟨7, .guard⟩], guard := some (7, true) }) (v := ?vu4x11) rfl (by kernel_rfl) (by kernel_rfl) (by kernel_rfl) (fun _ _ _ h => h) (Or.inl ⟨by rfl, ?hyu4x11⟩) hHeld1 ?restu4x11
        case hyu4x11 => first | (intro w hSw; (try dsimp only at hSw); go_simp; done) | (intro w hSw; (try dsimp only at hSw); go_simp; with_reducible rfl)
        (try simp only [Act.put, List.setIfInBounds_toArray, List.set_cons_zero, List.set_cons_succ])
        refine wpAnyH_take (i := 12) (oi := { dst := some 36, op := .indexAddr 24 (.tmp 33) (.tmp 35), type := 0, pos := "l6_jobs.go:65", after := #[⟨9, .data⟩, ⟨11, .data⟩, ⟨7, .guard⟩], guard := some (7, true) }) (v := ?vu4x12) rfl (by kernel_rfl) (by kernel_rfl) (by kernel_rfl) (fun _ _ _ h => h) (Or.inl ⟨by rfl, ?hyu4x12⟩) hHeld1 ?restu4x12
        case hyu4x12 => first | (intro w hSw; (try dsimp only at hSw); go_simp; done) | (intro w hSw; (try dsimp only at hSw); go_simp; with_reducible rfl)
        (try simp only [Act.put, List.setIfInBounds_toArray, List.set_cons_zero, List.set_cons_succ])
        refine wpAnyH_take (i := 13) (oi := { dst := some 37, op := .load 46 (.tmp 36), type := 46, pos := "l6_jobs.go:65", after := #[⟨12, .data⟩, ⟨7, .guard⟩], guard := some (7, true) }) (v := ?vu4x13) rfl (by kernel_rfl) (by kernel_rfl) (by kernel_rfl) (fun _ _ _ h => h) (Or.inl ⟨by rfl, ?hyu4x13⟩) hHeld1 ?restu4x13
        case hyu4x13 => first | (intro w hSw; (try dsimp only at hSw); go_simp; done) | (intro w hSw; (try dsimp only at hSw); go_simp; with_reducible rfl)
        (try simp only [Act.put, List.setIfInBounds_toArray, List.set_cons_zero, List.set_cons_succ])
        refine wpAnyH_take (i := 14) (oi := { dst := some 38, op := .load 46 (.tmp 7), type := 46, pos := "l6_jobs.go:65", after := #[⟨7, .guard⟩], guard := some (7, true) }) (v := ?vu4x14) rfl (by kernel_rfl) (by kernel_rfl) (by kernel_rfl) (fun _ _ _ h => h) (Or.inl ⟨by rfl, ?hyu4x14⟩) hHeld1 ?restu4x14
        case hyu4x14 => first | (intro w hSw; (try dsimp only at hSw); go_simp; done) | (intro w hSw; (try dsimp only at hSw); go_simp; with_reducible rfl)
        (try simp only [Act.put, List.setIfInBounds_toArray, List.set_cons_zero, List.set_cons_succ])
        refine wpAnyH_ready (rs := [15]) (by kernel_rfl) (by simp) ?_
        refine AllReadyH.cons (o := { dst := some 39, op := .call { callee := .value (.func 55), args := #[.tmp 32, .tmp 37, .tmp 38], argTypes := #[77, 46, 46] }, type := 4, pos := "l6_jobs.go:65", after := #[⟨8, .data⟩, ⟨13, .data⟩, ⟨14, .data⟩, ⟨7, .chain⟩, ⟨7, .guard⟩], guard := some (7, true) }) rfl (fun K hK => ?_) AllReadyH.nil
        go_simp
        (go_at_call 55; refine (iBef_is _ g (by repeat (first | with_reducible exact HO5.out.below HB6.out | with_reducible refine OrdAt.drewN ?_ _ | with_reducible refine OrdAt.drew ?_)) ⟨pa, pm, pe⟩ ⟨ta, tm, ne⟩ true HBF.out).mono ?_; rintro e w7 ⟨rfl, hb⟩; have HB7 := Lib.hid (show Below w5.heap.size w5 w7 from bl_trans (by repeat (first | with_reducible exact HB6.out | with_reducible refine Below.drew ?_ | with_reducible refine bl_drewN ?_ _ | with_reducible refine bl_alloc ?_ _)) hb); clear hb)
        (try go_wp2_with fail)
        refine hK.out _ _ (by exact ⟨(HB7.out.cell (p := ⟨w4.heap.size, 0, none⟩) hz5).trans s0, (HB7.out.cell (p := ⟨w4.heap.size, 1, none⟩) hz5).trans s1, (HB7.out.cell (p := ⟨w4.heap.size, 2, none⟩) hz5).trans s2, (HB7.out.cell (p := ⟨bj, oj + r * 3, none⟩) hbj5).trans s3, (HB7.out.cell (p := ⟨bj, oj + r * 3 + 1, none⟩) hbj5).trans s4, (HB7.out.cell (p := ⟨bj, oj + r * 3 + 2, none⟩) hbj5).trans s5⟩) (fun hHeld2 => ?_)
        clear hK K
        (try simp only [Act.put, List.setIfInBounds_toArray, List.set_cons_zero, List.set_cons_succ])
        refine wpAnyH_take (i := 16) (oi := { dst := some 40, op := .unOp .not 4 (.tmp 39), type := 4, pos := "l6_jobs.go:65", after := #[⟨15, .data⟩, ⟨7, .guard⟩], guard := some (7, true) }) (v := ?vu4x16) rfl (by kernel_rfl) (by kernel_rfl) (by kernel_rfl) (fun _ _ _ h => h) (Or.inl ⟨by rfl, ?hyu4x16⟩) hHeld2 ?restu4x16
        case hyu4x16 => first | (intro w hSw; (try dsimp only at hSw); go_simp; done) | (intro w hSw; (try dsimp only at hSw); go_simp; with_reducible rfl)
        (try simp only [Act.put, List.setIfInBounds_toArray, List.set_cons_zero, List.set_cons_succ])
        refine wpAnyH_take (i := 17) (oi := { dst := some 41, op := .pick (.tmp 31) (.tmp 40) (.const (.bool false)), type := 4, pos := "l6_jobs.go:65", after := #[⟨7, .data⟩, ⟨16, .data⟩, ⟨4, .guard⟩], guard := some (4, false) }) (v := ?vu4x17) rfl (by kernel_rfl) (by kernel_rfl) (by kernel_rfl) (fun _ _ _ h => h) (Or.inl ⟨by rfl, ?hyu4x17⟩) hHeld2 ?restu4x17
        case hyu4x17 => first | (intro w hSw; (try dsimp only at hSw); go_simp; done) | (intro w hSw; (try dsimp only at hSw); go_simp; with_reducible rfl)
        (try simp only [Act.put, List.setIfInBounds_toArray, List.set_cons_zero, List.set_cons_succ])
        refine wpAnyH_take (i := 18) (oi := { dst := some 42, op := .pick (.tmp 28) (.const (.bool true)) (.tmp 41), type := 4, pos := "l6_jobs.go:65", after := #[⟨4, .data⟩, ⟨17, .data⟩], guard := none }) (v := ?vu4x18) rfl (by kernel_rfl) (by kernel_rfl) (by kernel_rfl) (fun _ _ _ h => h) (Or.inl ⟨by rfl, ?hyu4x18⟩) hHeld2 ?restu4x18
        case hyu4x18 => first | (intro w hSw; (try dsimp only at hSw); go_simp; done) | (intro w hSw; (try dsimp only at hSw); go_simp; with_reducible rfl)
        (try simp only [Act.put, List.setIfInBounds_toArray, List.set_cons_zero, List.set_cons_succ])
        refine wpAnyH_done (by kernel_rfl) ?_ _
        go_wp2
        go_roundw
        case rel => exact ⟨q + 1, by omega, by go_num, HPN, Lib.hid (by repeat (first | with_reducible exact HO5.out.below HB7.out | refine OrdAt.drewN ?_ _ | refine OrdAt.drew ?_)), Lib.hid (bl_trans HW5.out (by repeat (first | with_reducible exact HB7.out | with_reducible refine Below.drew ?_ | with_reducible refine bl_drewN ?_ _ | with_reducible refine bl_alloc ?_ _)))⟩
        case measure => simp [intOf]; omega
    · obtain rfl : q = m := by omega
      have hall : js.take q = js := List.take_of_length_le (by rw [HM.out]; omega)
      have HPQ := Lib.hid (show seqB ts js = true by rw [← hall]; exact HP.out)
      have HPB := Lib.hid (show pairB ts js = b by rw [← HR.out]; exact (seq_jobs HS.out (by rw [HM.out]; omega) HPQ.out).symm)
      clear hall
      go_wp2_with fail
      refine (iKeep_is _ A n c ts ((H.out.below HB.out).more HB.out.size) A2 q c2 js ((J.out.below HB.out).more HB.out.size) (by omega) HS.out HPQ.out b HPB.out).mono ?_
      rintro e w8 ⟨rfl, hb⟩
      have HB8 := Lib.hid (bl_trans HB.out hb)
      clear hb
      go_wp2
      go_ret
      exact ⟨rfl, HB8.out⟩
end
section
open Go.RowKit
set_option linter.unusedVariables false
set_option maxHeartbeats 2000000 in
theorem iDueAt_is (w : World) (A : Option Addr) (n c : Nat) (ts : List Tk) (h : Tks w w.heap.size A n ts) (hn : n ≤ 1048576) (j : Jb) (b : Bool) (z : Int) (hz : dueJ ts j = (b, z)) :
    Calls Tryz.prog 61 #[.slice A n c, j.val] w (DueRes z b w) := by
  have H := Lib.hid h
  have HL := Lib.hid h.len
  clear h
  cases hs : isB ts j
  · obtain ⟨rfl, rfl⟩ : false = b ∧ 0 = z := Prod.mk.inj (by rw [← hz]; unfold isB at hs; unfold dueJ; rw [hs]; rfl)
    have HS := Lib.hid hs
    clear hs hz
    unfold Jb.val
    obtain ⟨ta, tm, ne⟩ := j
    dsimp only
    have cJ := (Blk.new w 46 #[.int .i64 ta, .int .i64 tm, .int .i64 ne]).cell
    go_enter Tryz.func61, Tryz.ntmps61
    go_wp2_with fail
    refine (iIsOf_is _ A n c ts ((H.out.below (bl_alloc (Below.refl w.heap.size w) _)).more (by simp)) hn ⟨ta, tm, ne⟩ false HS.out).mono ?_
    rintro e w1 ⟨rfl, hb⟩
    have HB1 := Lib.hid (show Below w.heap.size w w1 from bl_trans (bl_alloc (Below.refl w.heap.size w) _) hb)
    clear hb
    go_wp2
    go_ret2
    exact ⟨rfl, HB1.out⟩
  obtain ⟨rfl, hz'⟩ : true = b ∧ j.tm + (tkOf ts j.ta).du = z := Prod.mk.inj (by rw [← hz]; unfold isB at hs; unfold dueJ; rw [hs]; rfl)
  have HS := Lib.hid hs
  clear hz
  unfold isB at hs
  rw [Bool.and_eq_true] at hs
  obtain ⟨h1, h2, h3, h4, h5, h6⟩ := jobB_iff.1 hs.2
  obtain ⟨k, t, hk, hkl, ht, htk⟩ := tk_get h1 h2
  obtain ⟨ta, tm, ne⟩ := j
  dsimp only at hk hz' h3 h4
  subst hk
  rw [htk] at hz'
  have hok : t.ok = true := by
    have := hs.1; unfold setB at this; simp at this
    exact this.2 t (List.mem_of_getElem? ht)
  have hdu : 0 ≤ t.du ∧ t.du ≤ 20 := by unfold Tk.ok validB at hok; simp at hok; omega
  have HT := Lib.hid ht
  have i1 : (0 : Int) ≤ (k : Int) := by omega
  have i2 : (k : Int) < (n : Int) := by have := HL.out; omega
  have wr : IntKind.i64.wrap (tm + t.du) = tm + t.du := IntWalk.i64_in _ (by omega)
  have HZ := Lib.hid hz'
  clear ht htk hok h5 h6 h1 h2 hs hz'
  unfold Jb.val
  dsimp only
  have cJ := (Blk.new w 46 #[.int .i64 (k : Int), .int .i64 tm, .int .i64 ne]).cell
  go_enter Tryz.func61, Tryz.ntmps61
  go_wp2_with fail
  refine (iIsOf_is _ A n c ts ((H.out.below (bl_alloc (Below.refl w.heap.size w) _)).more (by simp)) hn ⟨(k : Int), tm, ne⟩ true HS.out).mono ?_
  rintro e w1 ⟨rfl, hb⟩
  have HB1 := Lib.hid (show Below w.heap.size w w1 from bl_trans (bl_alloc (Below.refl w.heap.size w) _) hb)
  have BJ := Lib.hid ((Blk.new w 46 #[.int .i64 (k : Int), .int .i64 tm, .int .i64 ne]).below hb (by simp))
  clear hb cJ
  have cJ := BJ.out.cell
  obtain ⟨bb, o, rfl, hbl, c0, c1, c2, c3, c4⟩ := (H.out.below HB1.out).at_ k t HT.out
  obtain ⟨lo, hi, du, ev, cr⟩ := t
  dsimp only at c2 hdu wr HZ
  obtain rfl := HZ.out
  go_wp2
  (try (go_quiet (fail); go_wp2))
  go_ret2
  exact ⟨rfl, (by repeat (first | exact HB1.out | refine bl_drewN ?_ _ | refine Below.drew ?_ | refine bl_alloc ?_ _))⟩
end
end Go.Proofs.YtgponahmkjohiabGreatDoor
