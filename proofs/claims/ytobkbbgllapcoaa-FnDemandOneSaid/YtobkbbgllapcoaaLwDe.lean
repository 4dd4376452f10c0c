/- The walks of the laws on demands. -/
import Derived.Test.YtobkbbgllapcoaaLwK
import Derived.Test.YtobkbbgllapcoaaDrD
namespace Go.Proofs.Ytobkbbgllapcoaa
open Go.RowKit
set_option linter.unusedVariables false

theorem dm_no {t : Tk} {z : Int} {hb : Bool} {m : Nat} (h : dmOf t z hb = (m, false)) : True ∧ 0 = m := by
  unfold dmOf at h
  split at h
  · cases (Prod.mk.inj h).2
  · exact ⟨trivial, (Prod.mk.inj h).1⟩
theorem dm_yes {t : Tk} {z : Int} {hb : Bool} {m : Nat} (h : dmOf t z hb = (m, true)) : ∃ x : Nat, z = (x : Int) ∧ x ≤ 1000000 ∧ t.ok = true ∧ dmd t x hb = m := by
  unfold dmOf at h
  split at h
  · rename_i hc
    rw [Bool.and_eq_true, Bool.and_eq_true, decide_eq_true_iff, decide_eq_true_iff] at hc
    obtain ⟨h1, h2, h3⟩ := hc
    obtain ⟨x, rfl⟩ := Int.eq_ofNat_of_zero_le h2
    exact ⟨x, rfl, by omega, h1, (Prod.mk.inj h).1⟩
  · cases (Prod.mk.inj h).2
theorem dm_at {t : Tk} {z : Int} {x m : Nat} {hb : Bool} (h : t.ok = true) (hz : z = (x : Int)) (hx : x ≤ 1000000) (hm : dmd t x hb = m) : dmOf t z hb = (m, true) := by
  subst hz; exact dm_ok h hx hm
theorem dm_past {t : Tk} {z : Int} {x : Nat} {hb : Bool} (hz : z = (x : Int)) (hx : 1000000 < x) : dmOf t z hb = (0, false) := by
  subst hz
  unfold dmOf
  rw [decide_eq_false (show ¬ (x : Int) ≤ 1000000 by omega)]
  simp

set_option maxRecDepth 100000 in
set_option maxHeartbeats 4000000 in
theorem fnDemandAdd_walk (w : World) (A : Option Addr) (n c : Nat) (f : Nat → Int) (h : Code w w.heap.size A n c f) :
    Calls Try.prog 10 #[.slice A n c] w fun e w' => e = .returned (.bool true) ∧ Below w.heap.size w w' := by
  have H := Lib.hid h
  have hle := h.le
  have hmax := h.max
  unfold maxLen at hmax
  clear h
  by_cases hn : 1048576 < n
  · go_enter Try.func10, Try.ntmps10
    go_wp2
    go_ret
    exact ⟨rfl, Below.refl _ _⟩
  go_enter Try.func10, Try.ntmps10
  go_wp2_with fail
  refine (dDrawDemandOf_any _ A n c f H.out).mono ?_
  rintro e w1 ⟨lo, hi, du, ev, cr, z, hb, rfl, z0, z1, hb1⟩
  have HB1 := Lib.hid hb1
  clear hb1 H
  have hs1 := HB1.out.size
  obtain ⟨m, b, hm⟩ : ∃ m b, dmOf ⟨lo, hi, du, ev, cr⟩ z hb = (m, b) := ⟨_, _, rfl⟩
  have HM := Lib.hid hm
  have b0 := Blk.new w1 24 #[.int .i64 lo, .int .i64 hi, .int .i64 du, .int .i64 ev, .bool cr]
  have cT := b0.cell
  go_wp2_with fail
  refine (iDemandOf_is _ lo hi du ev cr z hb m b HM.out).mono ?_
  rintro e w2 ⟨rfl, hb2⟩
  have HB2 := Lib.hid (show Below w.heap.size w w2 from bl_trans (bl_alloc HB1.out _) hb2)
  have hs2 := HB2.out.size
  have bT2 := Lib.hid (show Blk w2 w1.heap.size 24 #[.int .i64 lo, .int .i64 hi, .int .i64 du, .int .i64 ev, .bool cr] from (b0.below hb2 b0.lt))
  clear hb2 cT
  have cT := bT2.out.cell
  go_wp2_with fail
  refine (sDemandOf_is _ lo hi du ev cr z hb m b HM.out).mono ?_
  rintro e w3 ⟨rfl, hb2⟩
  have HB3 := Lib.hid (show Below w.heap.size w w3 from bl_trans HB2.out hb2)
  have hs3 := HB3.out.size
  have bT3 := Lib.hid (show Blk w3 w1.heap.size 24 #[.int .i64 lo, .int .i64 hi, .int .i64 du, .int .i64 ev, .bool cr] from (bT2.out.below hb2 bT2.out.lt))
  clear hb2 cT
  have cT := bT3.out.cell
  cases b
  · obtain ⟨_, rfl⟩ := dm_no hm
    clear hm
    go_wp2
    go_ret
    exact ⟨rfl, by repeat (first | with_reducible exact HB3.out | refine bl_drewN ?_ _ | refine Below.drew ?_ | refine bl_alloc ?_ _)⟩
  obtain ⟨x, rfl, hx, hvt, hmx⟩ := dm_yes hm
  have HV := Lib.hid hvt
  obtain ⟨p1, p2, p3, p4, p5, _⟩ := ok_parts hvt
  dsimp only at p1 p2 p3 p4 p5
  clear hm hvt
  obtain ⟨q, hq⟩ : ∃ q, x / 2 = q := ⟨_, rfl⟩
  have hqx : q ≤ x := by omega
  obtain ⟨m1, hm1⟩ : ∃ m1, dmd ⟨lo, hi, du, ev, cr⟩ q hb = m1 := ⟨_, rfl⟩
  obtain ⟨m2, hm2⟩ : ∃ m2, dmd ⟨lo, hi, du, ev, cr⟩ (x - q) hb = m2 := ⟨_, rfl⟩
  have hle : m ≤ m1 + m2 := by
    have := dem_add (if hb then hi.toNat else lo.toNat) (e := ev.toNat) (by omega) q (x - q)
    rw [show q + (x - q) = x by omega] at this
    rw [← hmx, ← hm1, ← hm2]
    exact this
  have hb1 : m1 ≤ 100000000 := by have := dmd_bound HV.out q hb; rw [hm1] at this; omega
  have hb2 : m2 ≤ 100000000 := by have := dmd_bound HV.out (x - q) hb; rw [hm2] at this; omega
  have HM1 := Lib.hid hm1
  have HM2 := Lib.hid hm2
  have hlei : (m : Int) ≤ (m1 : Int) + (m2 : Int) := by omega
  have d1 : Int.tdiv (x : Int) 2 = (q : Int) := by rw [Int.tdiv_eq_ediv_of_nonneg (by omega)]; omega
  have d2 : (x : Int) / 2 = (q : Int) := by omega
  have d3 : (q : Int) ≤ (x : Int) := by omega
  clear hm1 hm2 hmx hq
  go_wp2_with fail
  refine (iDemandOf_is _ _ _ _ _ _ _ hb m1 true ?_).mono ?_
  · exact dm_at HV.out (x := q) (by omega) (by omega) HM1.out
  rintro e w4 ⟨rfl, hb2⟩
  have HB4 := Lib.hid (show Below w.heap.size w w4 from bl_trans HB3.out hb2)
  have hs4 := HB4.out.size
  have bT4 := Lib.hid (show Blk w4 w1.heap.size 24 #[.int .i64 lo, .int .i64 hi, .int .i64 du, .int .i64 ev, .bool cr] from (bT3.out.below hb2 bT3.out.lt))
  clear hb2 cT
  have cT := bT4.out.cell
  go_wp2_with fail
  refine (iDemandOf_is _ _ _ _ _ _ _ hb m2 true ?_).mono ?_
  · exact dm_at HV.out (x := x - q) (by omega) (by omega) HM2.out
  rintro e w5 ⟨rfl, hb2⟩
  have HB5 := Lib.hid (show Below w.heap.size w w5 from bl_trans HB4.out hb2)
  have hs5 := HB5.out.size
  have bT5 := Lib.hid (show Blk w5 w1.heap.size 24 #[.int .i64 lo, .int .i64 hi, .int .i64 du, .int .i64 ev, .bool cr] from (bT4.out.below hb2 bT4.out.lt))
  clear hb2 cT
  have cT := bT5.out.cell
  go_wp2
  go_ret
  exact ⟨rfl, by repeat (first | with_reducible exact HB5.out | refine bl_drewN ?_ _ | refine Below.drew ?_ | refine bl_alloc ?_ _)⟩
set_option maxRecDepth 100000 in
set_option maxHeartbeats 4000000 in
theorem fnDemandOne_walk (w : World) (A : Option Addr) (n c : Nat) (f : Nat → Int) (h : Code w w.heap.size A n c f) :
    Calls Try.prog 11 #[.slice A n c] w fun e w' => e = .returned (.bool true) ∧ Below w.heap.size w w' := by
  have H := Lib.hid h
  have hle := h.le
  have hmax := h.max
  unfold maxLen at hmax
  clear h
  by_cases hn : 1048576 < n
  · go_enter Try.func11, Try.ntmps11
    go_wp2
    go_ret
    exact ⟨rfl, Below.refl _ _⟩
  go_enter Try.func11, Try.ntmps11
  go_wp2_with fail
  refine (dDrawDemandOf_any _ A n c f H.out).mono ?_
  rintro e w1 ⟨lo, hi, du, ev, cr, z, hb, rfl, z0, z1, hb1⟩
  have HB1 := Lib.hid hb1
  clear hb1 H
  have hs1 := HB1.out.size
  obtain ⟨m, b, hm⟩ : ∃ m b, dmOf ⟨lo, hi, du, ev, cr⟩ z hb = (m, b) := ⟨_, _, rfl⟩
  have HM := Lib.hid hm
  have b0 := Blk.new w1 24 #[.int .i64 lo, .int .i64 hi, .int .i64 du, .int .i64 ev, .bool cr]
  have cT := b0.cell
  go_wp2_with fail
  refine (iDemandOf_is _ lo hi du ev cr z hb m b HM.out).mono ?_
  rintro e w2 ⟨rfl, hb2⟩
  have HB2 := Lib.hid (show Below w.heap.size w w2 from bl_trans (bl_alloc HB1.out _) hb2)
  have hs2 := HB2.out.size
  have bT2 := Lib.hid (show Blk w2 w1.heap.size 24 #[.int .i64 lo, .int .i64 hi, .int .i64 du, .int .i64 ev, .bool cr] from (b0.below hb2 b0.lt))
  clear hb2 cT
  have cT := bT2.out.cell
  go_wp2_with fail
  refine (sDemandOf_is _ lo hi du ev cr z hb m b HM.out).mono ?_
  rintro e w3 ⟨rfl, hb2⟩
  have HB3 := Lib.hid (show Below w.heap.size w w3 from bl_trans HB2.out hb2)
  have hs3 := HB3.out.size
  have bT3 := Lib.hid (show Blk w3 w1.heap.size 24 #[.int .i64 lo, .int .i64 hi, .int .i64 du, .int .i64 ev, .bool cr] from (bT2.out.below hb2 bT2.out.lt))
  clear hb2 cT
  have cT := bT3.out.cell
  cases b
  · obtain ⟨_, rfl⟩ := dm_no hm
    clear hm
    go_wp2
    go_ret
    exact ⟨rfl, by repeat (first | with_reducible exact HB3.out | refine bl_drewN ?_ _ | refine Below.drew ?_ | refine bl_alloc ?_ _)⟩
  obtain ⟨x, rfl, hx, hvt, hmx⟩ := dm_yes hm
  have HV := Lib.hid hvt
  obtain ⟨p1, p2, p3, p4, p5, _⟩ := ok_parts hvt
  dsimp only at p1 p2 p3 p4 p5
  clear hm hvt
  have hlo : 0 ≤ lo := by omega
  obtain ⟨a, rfl⟩ := Int.eq_ofNat_of_zero_le hlo
  obtain ⟨b, rfl⟩ := Int.eq_ofNat_of_zero_le (show 0 ≤ hi by omega)
  obtain ⟨y, rfl⟩ := Int.eq_ofNat_of_zero_le (show 0 ≤ ev by omega)
  have HM1 : Hid (dmd ⟨(a : Int), (b : Int), du, (y : Int), cr⟩ 1 false = a) := dem_one a (e := y) (by omega)
  have HM2 : Hid (dmd ⟨(a : Int), (b : Int), du, (y : Int), cr⟩ y true = b) := dem_every b (e := y) (by omega)
  have HM3 : Hid (dmd ⟨(a : Int), (b : Int), du, (y : Int), cr⟩ (y + 1) true = 2 * b) := dem_past b (e := y) (by omega)
  clear hmx
  go_wp2_with fail
  refine (iDemandOf_is _ _ _ _ _ _ _ false a true ?_).mono ?_
  · exact dm_at HV.out (x := 1) (by omega) (by omega) HM1.out
  rintro e w4 ⟨rfl, hb2⟩
  have HB4 := Lib.hid (show Below w.heap.size w w4 from bl_trans HB3.out hb2)
  have hs4 := HB4.out.size
  have bT4 := Lib.hid (show Blk w4 w1.heap.size 24 #[.int .i64 (a : Int), .int .i64 (b : Int), .int .i64 du, .int .i64 (y : Int), .bool cr] from (bT3.out.below hb2 bT3.out.lt))
  clear hb2 cT
  have cT := bT4.out.cell
  go_wp2_with fail
  refine (iDemandOf_is _ _ _ _ _ _ _ true b true ?_).mono ?_
  · exact dm_at HV.out (x := y) (by omega) (by omega) HM2.out
  rintro e w5 ⟨rfl, hb2⟩
  have HB5 := Lib.hid (show Below w.heap.size w w5 from bl_trans HB4.out hb2)
  have hs5 := HB5.out.size
  have bT5 := Lib.hid (show Blk w5 w1.heap.size 24 #[.int .i64 (a : Int), .int .i64 (b : Int), .int .i64 du, .int .i64 (y : Int), .bool cr] from (bT4.out.below hb2 bT4.out.lt))
  clear hb2 cT
  have cT := bT5.out.cell
  go_wp2_with fail
  refine (iDemandOf_is _ _ _ _ _ _ _ true (2 * b) true ?_).mono ?_
  · exact dm_at HV.out (x := y + 1) (by omega) (by omega) HM3.out
  rintro e w6 ⟨rfl, hb2⟩
  have HB6 := Lib.hid (show Below w.heap.size w w6 from bl_trans HB5.out hb2)
  have hs6 := HB6.out.size
  have bT6 := Lib.hid (show Blk w6 w1.heap.size 24 #[.int .i64 (a : Int), .int .i64 (b : Int), .int .i64 du, .int .i64 (y : Int), .bool cr] from (bT5.out.below hb2 bT5.out.lt))
  clear hb2 cT
  have cT := bT6.out.cell
  have q1 : ((2 * b : Nat) : Int) = 2 * (b : Int) := by omega
  go_wp2
  go_ret
  exact ⟨rfl, by repeat (first | with_reducible exact HB6.out | refine bl_drewN ?_ _ | refine Below.drew ?_ | refine bl_alloc ?_ _)⟩
set_option maxRecDepth 100000 in
set_option maxHeartbeats 4000000 in
theorem fnDemandOf_walk (w : World) (A : Option Addr) (n c : Nat) (f : Nat → Int) (h : Code w w.heap.size A n c f) :
    Calls Try.prog 3 #[.slice A n c] w fun e w' => e = .returned (.bool true) ∧ Below w.heap.size w w' := by
  have H := Lib.hid h
  have hle := h.le
  have hmax := h.max
  unfold maxLen at hmax
  clear h
  by_cases hn : 1048576 < n
  · go_enter Try.func3, Try.ntmps3
    go_wp2
    go_ret
    exact ⟨rfl, Below.refl _ _⟩
  go_enter Try.func3, Try.ntmps3
  go_wp2_with fail
  refine (dDrawDemandOf_any _ A n c f H.out).mono ?_
  rintro e w1 ⟨lo, hi, du, ev, cr, z, hb, rfl, z0, z1, hb1⟩
  have HB1 := Lib.hid hb1
  clear hb1 H
  have hs1 := HB1.out.size
  obtain ⟨m, b, hm⟩ : ∃ m b, dmOf ⟨lo, hi, du, ev, cr⟩ z hb = (m, b) := ⟨_, _, rfl⟩
  have HM := Lib.hid hm
  have b0 := Blk.new w1 24 #[.int .i64 lo, .int .i64 hi, .int .i64 du, .int .i64 ev, .bool cr]
  have cT := b0.cell
  go_wp2_with fail
  refine (iDemandOf_is _ lo hi du ev cr z hb m b HM.out).mono ?_
  rintro e w2 ⟨rfl, hb2⟩
  have HB2 := Lib.hid (show Below w.heap.size w w2 from bl_trans (bl_alloc HB1.out _) hb2)
  have hs2 := HB2.out.size
  have bT2 := Lib.hid (show Blk w2 w1.heap.size 24 #[.int .i64 lo, .int .i64 hi, .int .i64 du, .int .i64 ev, .bool cr] from (b0.below hb2 b0.lt))
  clear hb2 cT
  have cT := bT2.out.cell
  go_wp2_with fail
  refine (sDemandOf_is _ lo hi du ev cr z hb m b HM.out).mono ?_
  rintro e w3 ⟨rfl, hb2⟩
  have HB3 := Lib.hid (show Below w.heap.size w w3 from bl_trans HB2.out hb2)
  have hs3 := HB3.out.size
  have bT3 := Lib.hid (show Blk w3 w1.heap.size 24 #[.int .i64 lo, .int .i64 hi, .int .i64 du, .int .i64 ev, .bool cr] from (bT2.out.below hb2 bT2.out.lt))
  clear hb2 cT
  have cT := bT3.out.cell
  cases b
  · obtain ⟨_, rfl⟩ := dm_no hm
    clear hm
    go_wp2
    go_ret
    exact ⟨rfl, by repeat (first | with_reducible exact HB3.out | refine bl_drewN ?_ _ | refine Below.drew ?_ | refine bl_alloc ?_ _)⟩
  obtain ⟨x, rfl, hx, hvt, hmx⟩ := dm_yes hm
  have HV := Lib.hid hvt
  obtain ⟨p1, p2, p3, p4, p5, _⟩ := ok_parts hvt
  dsimp only at p1 p2 p3 p4 p5
  clear hm hvt
  obtain ⟨a, rfl⟩ := Int.eq_ofNat_of_zero_le (show 0 ≤ lo by omega)
  obtain ⟨b, rfl⟩ := Int.eq_ofNat_of_zero_le (show 0 ≤ hi by omega)
  obtain ⟨y, rfl⟩ := Int.eq_ofNat_of_zero_le (show 0 ≤ ev by omega)
  obtain ⟨m2, hm2⟩ : ∃ m2, dmd ⟨(a : Int), (b : Int), du, (y : Int), cr⟩ x false = m2 := ⟨_, rfl⟩
  have hle : m2 ≤ m := by rw [← hmx, ← hm2]; exact dmd_low HV.out x hb
  have hlei : (m2 : Int) ≤ (m : Int) := by omega
  have hmb : m ≤ 100000000 := by have := dmd_bound HV.out x hb; rw [hmx] at this; omega
  have HM2 := Lib.hid hm2
  obtain ⟨need, hneed⟩ : ∃ need, need = (if hb then b else a) := ⟨_, rfl⟩
  have hnb : 1 ≤ need ∧ need ≤ 20 := by rw [hneed]; split <;> omega
  have hmore : dmd ⟨(a : Int), (b : Int), du, (y : Int), cr⟩ (x + y) hb = m + need := by
    rw [← hmx, hneed]
    have := dem_more (if hb then b else a) (e := y) (by omega) x
    exact this
  have HM3 := Lib.hid hmore
  have h0 : (x = 0 ∧ m = 0) ∨ (1 ≤ x ∧ 1 ≤ m) := by
    rcases Nat.eq_zero_or_pos x with rfl | h
    · refine .inl ⟨rfl, ?_⟩
      rw [← hmx]
      exact dem_zero _ (e := y) (by omega)
    · refine .inr ⟨h, ?_⟩
      have := dem_pos (n := if hb then b else a) (e := y) (by split <;> omega) (by omega) h
      rw [← hmx]
      have h2 : 1 ≤ (if hb then b else a) := by split <;> omega
      exact Nat.le_trans h2 this
  clear hm2 hmore hmx
  obtain ⟨m3, fine, hf⟩ : ∃ m3 fine, dmOf ⟨(a : Int), (b : Int), du, (y : Int), cr⟩ ((x : Int) + (y : Int)) hb = (m3, fine) := ⟨_, _, rfl⟩
  have hfin : fine = false ∨ (fine = true ∧ m3 = m + need) := by
    by_cases hp : x + y ≤ 1000000
    · rw [dm_at HV.out (x := x + y) (by omega) hp HM3.out] at hf
      exact .inr ⟨(Prod.mk.inj hf).2.symm, (Prod.mk.inj hf).1.symm⟩
    · rw [dm_past (x := x + y) (by omega) (by omega)] at hf
      exact .inl (Prod.mk.inj hf).2.symm
  have HF := Lib.hid hf
  clear hf
  go_wp2_with fail
  refine (iDemandOf_is _ _ _ _ _ _ _ false m2 true ?_).mono ?_
  · exact dm_at HV.out (x := x) rfl (by omega) HM2.out
  rintro e w4 ⟨rfl, hb2⟩
  have HB4 := Lib.hid (show Below w.heap.size w w4 from bl_trans HB3.out hb2)
  have hs4 := HB4.out.size
  have bT4 := Lib.hid (show Blk w4 w1.heap.size 24 #[.int .i64 (a : Int), .int .i64 (b : Int), .int .i64 du, .int .i64 (y : Int), .bool cr] from (bT3.out.below hb2 bT3.out.lt))
  clear hb2 cT
  have cT := bT4.out.cell
  go_wp2_with fail
  refine (iDemandOf_is _ _ _ _ _ _ _ hb m3 fine ?_).mono ?_
  · exact HF.out
  rintro e w5 ⟨rfl, hb2⟩
  have HB5 := Lib.hid (show Below w.heap.size w w5 from bl_trans HB4.out hb2)
  have hs5 := HB5.out.size
  have bT5 := Lib.hid (show Blk w5 w1.heap.size 24 #[.int .i64 (a : Int), .int .i64 (b : Int), .int .i64 du, .int .i64 (y : Int), .bool cr] from (bT4.out.below hb2 bT4.out.lt))
  clear hb2 cT
  have cT := bT5.out.cell
  cases hb
  · obtain rfl : need = a := hneed
    rcases h0 with ⟨rfl, rfl⟩ | ⟨hx1, hm1⟩
    · rcases hfin with rfl | ⟨rfl, rfl⟩
      · go_wp2
        go_ret
        exact ⟨rfl, HB5.out⟩
      · have e3 : ((0 + need : Nat) : Int) = (need : Int) := by omega
        go_wp2
        go_ret
        exact ⟨rfl, HB5.out⟩
    · rcases hfin with rfl | ⟨rfl, rfl⟩
      · have e1 : ¬ (x : Int) = 0 := by omega
        have e2 : ¬ (m : Int) = 0 := by omega
        have e4 : ((x : Int) == 0) = false := by rw [beq_eq_false_iff_ne]; exact e1
        have e5 : ((m : Int) == 0) = false := by rw [beq_eq_false_iff_ne]; exact e2
        go_wp2
        go_ret
        exact ⟨rfl, HB5.out⟩
      · have e1 : ¬ (x : Int) = 0 := by omega
        have e2 : ¬ (m : Int) = 0 := by omega
        have e4 : ((x : Int) == 0) = false := by rw [beq_eq_false_iff_ne]; exact e1
        have e5 : ((m : Int) == 0) = false := by rw [beq_eq_false_iff_ne]; exact e2
        have e3 : ((m + need : Nat) : Int) = (m : Int) + (need : Int) := by omega
        go_wp2
        go_ret
        exact ⟨rfl, HB5.out⟩
  · obtain rfl : need = b := hneed
    rcases h0 with ⟨rfl, rfl⟩ | ⟨hx1, hm1⟩
    · rcases hfin with rfl | ⟨rfl, rfl⟩
      · go_wp2
        go_ret
        exact ⟨rfl, HB5.out⟩
      · have e3 : ((0 + need : Nat) : Int) = (need : Int) := by omega
        go_wp2
        go_ret
        exact ⟨rfl, HB5.out⟩
    · rcases hfin with rfl | ⟨rfl, rfl⟩
      · have e1 : ¬ (x : Int) = 0 := by omega
        have e2 : ¬ (m : Int) = 0 := by omega
        have e4 : ((x : Int) == 0) = false := by rw [beq_eq_false_iff_ne]; exact e1
        have e5 : ((m : Int) == 0) = false := by rw [beq_eq_false_iff_ne]; exact e2
        go_wp2
        go_ret
        exact ⟨rfl, HB5.out⟩
      · have e1 : ¬ (x : Int) = 0 := by omega
        have e2 : ¬ (m : Int) = 0 := by omega
        have e4 : ((x : Int) == 0) = false := by rw [beq_eq_false_iff_ne]; exact e1
        have e5 : ((m : Int) == 0) = false := by rw [beq_eq_false_iff_ne]; exact e2
        have e3 : ((m + need : Nat) : Int) = (m : Int) + (need : Int) := by omega
        go_wp2
        go_ret
        exact ⟨rfl, HB5.out⟩

end Go.Proofs.Ytobkbbgllapcoaa
