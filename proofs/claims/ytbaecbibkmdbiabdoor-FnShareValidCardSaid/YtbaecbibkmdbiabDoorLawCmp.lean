/- The walks of the laws on comparing shares. -/
import Derived.Test.YtbaecbibkmdbiabDoorDrawsSh
import Derived.Test.YtbaecbibkmdbiabDoorSAdd
namespace Go.Proofs.YtbaecbibkmdbiabDoor
open Go.RowKit
set_option linter.unusedVariables false

set_option maxHeartbeats 2000000 in
theorem fnCompareSame_walk (w : World) (A : Option Addr) (n c : Nat) (f : Nat → Int) (h : Code w w.heap.size A n c f) (e0 : Addr) (he : EG w e0) :
    Calls Tryd.prog 9 #[.slice A n c] w fun e w' => e = .returned (.bool true) ∧ Below w.heap.size w w' := by
  have H := Lib.hid h
  have HE := Lib.hid he
  have hle := h.le
  have hmax := h.max
  unfold maxLen at hmax
  clear h he
  by_cases hn : 1048576 < n
  · go_enter Tryd.func9, Tryd.ntmps9
    go_wp2
    go_ret
    exact ⟨rfl, Below.refl _ _⟩
  go_enter Tryd.func9, Tryd.ntmps9
  go_wp2_with fail
  refine (dDrawCompareShares_any _ A n c f H.out).mono ?_
  rintro e w1 ⟨n1, d1, n2, d2, rfl, ⟨⟨x1, x2⟩, ⟨y1, y2⟩⟩, ⟨⟨u1, u2⟩, ⟨v1, v2⟩⟩, hb⟩
  have HB1 := Lib.hid hb
  clear hb H
  obtain ⟨z, hz⟩ : ∃ z, cmpS n1 d1 n2 d2 = z := ⟨_, rfl⟩
  have hr := cmpS_range n1 d1 n2 d2
  rw [hz] at hr
  obtain ⟨z1, z2⟩ := hr
  have HZ := Lib.hid hz
  have H0 := Lib.hid (cmpS_self n1 d1)
  clear hz
  go_wp2_with fail
  (try (go_quiet (fail); go_wp2_with fail))
  refine (iCmp_is _ n1 d1 n2 d2 z HZ.out).mono ?_
  rintro e w2 ⟨rfl, hb⟩
  have hs2 := hb.size
  have HB2 := Lib.hid (show Below w.heap.size w w2 from bl_trans (by repeat (first | with_reducible exact HB1.out | refine bl_drewN ?_ _ | refine Below.drew ?_ | refine bl_alloc ?_ _)) hb)
  have ba2 := Lib.hid (show Blk w2 (w1.heap.size) 26 #[.int .i64 n1, .int .i64 d1] from Blk.below (by have hh := Blk.new w1 26 #[.int .i64 n1, .int .i64 d1]; (try simp only [World.size_alloc] at hh); repeat (first | exact hh | refine Blk.drewN ?_ _ | refine Blk.drew ?_ | refine Blk.alloc ?_ _)) hb (by first | omega | (simp; done) | (simp; omega)))
  have bb2 := Lib.hid (show Blk w2 (w1.heap.size + 1) 26 #[.int .i64 n2, .int .i64 d2] from Blk.below (by have hh := Blk.new (w1.alloc (.cells #[.int .i64 n1, .int .i64 d1] 26)) 26 #[.int .i64 n2, .int .i64 d2]; (try simp only [World.size_alloc] at hh); repeat (first | exact hh | refine Blk.drewN ?_ _ | refine Blk.drew ?_ | refine Blk.alloc ?_ _)) hb (by first | omega | (simp; done) | (simp; omega)))
  clear hb HB1
  have ca := ba2.out.cell
  have cb := bb2.out.cell
  go_wp2_with fail
  (try (go_quiet (fail); go_wp2_with fail))
  refine (sCmp_is _ n1 d1 n2 d2 z HZ.out).mono ?_
  rintro e w3 ⟨rfl, hb⟩
  have hs3 := hb.size
  have HB3 := Lib.hid (show Below w.heap.size w w3 from bl_trans (by repeat (first | with_reducible exact HB2.out | refine bl_drewN ?_ _ | refine Below.drew ?_ | refine bl_alloc ?_ _)) hb)
  have ba3 := Lib.hid (show Blk w3 (w1.heap.size) 26 #[.int .i64 n1, .int .i64 d1] from Blk.below (by repeat (first | with_reducible exact ba2.out | refine Blk.drewN ?_ _ | refine Blk.drew ?_ | refine Blk.alloc ?_ _)) hb (by have := ba2.out.lt; first | omega | (simp; omega)))
  have bb3 := Lib.hid (show Blk w3 (w1.heap.size + 1) 26 #[.int .i64 n2, .int .i64 d2] from Blk.below (by repeat (first | with_reducible exact bb2.out | refine Blk.drewN ?_ _ | refine Blk.drew ?_ | refine Blk.alloc ?_ _)) hb (by have := bb2.out.lt; first | omega | (simp; omega)))
  clear hb HB2 ba2 bb2 ca cb
  have ca := ba3.out.cell
  have cb := bb3.out.cell
  go_wp2_with fail
  (try (go_quiet (fail); go_wp2_with fail))
  refine (iCmp_is _ n1 d1 n1 d1 0 H0.out).mono ?_
  rintro e w4 ⟨rfl, hb⟩
  have hs4 := hb.size
  have HB4 := Lib.hid (show Below w.heap.size w w4 from bl_trans (by repeat (first | with_reducible exact HB3.out | refine bl_drewN ?_ _ | refine Below.drew ?_ | refine bl_alloc ?_ _)) hb)
  have ba4 := Lib.hid (show Blk w4 (w1.heap.size) 26 #[.int .i64 n1, .int .i64 d1] from Blk.below (by repeat (first | with_reducible exact ba3.out | refine Blk.drewN ?_ _ | refine Blk.drew ?_ | refine Blk.alloc ?_ _)) hb (by have := ba3.out.lt; first | omega | (simp; omega)))
  have bb4 := Lib.hid (show Blk w4 (w1.heap.size + 1) 26 #[.int .i64 n2, .int .i64 d2] from Blk.below (by repeat (first | with_reducible exact bb3.out | refine Blk.drewN ?_ _ | refine Blk.drew ?_ | refine Blk.alloc ?_ _)) hb (by have := bb3.out.lt; first | omega | (simp; omega)))
  clear hb HB3 ba3 bb3 ca cb
  have ca := ba4.out.cell
  have cb := bb4.out.cell
  go_wp2
  (try (go_quiet (fail); go_wp2))
  go_ret
  exact ⟨rfl, by repeat (first | with_reducible exact HB4.out | refine bl_drewN ?_ _ | refine Below.drew ?_ | refine bl_alloc ?_ _ | refine bl_set ?_ (by dsimp only; omega) _)⟩

set_option maxHeartbeats 2000000 in
theorem fnCompareShares_walk (w : World) (A : Option Addr) (n c : Nat) (f : Nat → Int) (h : Code w w.heap.size A n c f) (e0 : Addr) (he : EG w e0) :
    Calls Tryd.prog 5 #[.slice A n c] w fun e w' => e = .returned (.bool true) ∧ Below w.heap.size w w' := by
  have H := Lib.hid h
  have HE := Lib.hid he
  have hle := h.le
  have hmax := h.max
  unfold maxLen at hmax
  clear h he
  by_cases hn : 1048576 < n
  · go_enter Tryd.func5, Tryd.ntmps5
    go_wp2
    go_ret
    exact ⟨rfl, Below.refl _ _⟩
  go_enter Tryd.func5, Tryd.ntmps5
  go_wp2_with fail
  refine (dDrawCompareShares_any _ A n c f H.out).mono ?_
  rintro e w1 ⟨n1, d1, n2, d2, rfl, ⟨⟨x1, x2⟩, ⟨y1, y2⟩⟩, ⟨⟨u1, u2⟩, ⟨v1, v2⟩⟩, hb⟩
  have HB1 := Lib.hid hb
  clear hb H
  obtain ⟨z, hz⟩ : ∃ z, cmpS n1 d1 n2 d2 = z := ⟨_, rfl⟩
  have hr := cmpS_range n1 d1 n2 d2
  rw [hz] at hr
  obtain ⟨z1, z2⟩ := hr
  have hf : cmpS n2 d2 n1 d1 = -z := by rw [cmpS_flip, hz]
  have HZ := Lib.hid hz
  have HF := Lib.hid hf
  clear hf hz
  go_wp2_with fail
  (try (go_quiet (fail); go_wp2_with fail))
  refine (iCmp_is _ n1 d1 n2 d2 z HZ.out).mono ?_
  rintro e w2 ⟨rfl, hb⟩
  have hs2 := hb.size
  have HB2 := Lib.hid (show Below w.heap.size w w2 from bl_trans (by repeat (first | with_reducible exact HB1.out | refine bl_drewN ?_ _ | refine Below.drew ?_ | refine bl_alloc ?_ _)) hb)
  have ba2 := Lib.hid (show Blk w2 (w1.heap.size) 26 #[.int .i64 n1, .int .i64 d1] from Blk.below (by have hh := Blk.new w1 26 #[.int .i64 n1, .int .i64 d1]; (try simp only [World.size_alloc] at hh); repeat (first | exact hh | refine Blk.drewN ?_ _ | refine Blk.drew ?_ | refine Blk.alloc ?_ _)) hb (by first | omega | (simp; done) | (simp; omega)))
  have bb2 := Lib.hid (show Blk w2 (w1.heap.size + 1) 26 #[.int .i64 n2, .int .i64 d2] from Blk.below (by have hh := Blk.new (w1.alloc (.cells #[.int .i64 n1, .int .i64 d1] 26)) 26 #[.int .i64 n2, .int .i64 d2]; (try simp only [World.size_alloc] at hh); repeat (first | exact hh | refine Blk.drewN ?_ _ | refine Blk.drew ?_ | refine Blk.alloc ?_ _)) hb (by first | omega | (simp; done) | (simp; omega)))
  clear hb HB1
  have ca := ba2.out.cell
  have cb := bb2.out.cell
  go_wp2_with fail
  (try (go_quiet (fail); go_wp2_with fail))
  refine (sCmp_is _ n1 d1 n2 d2 z HZ.out).mono ?_
  rintro e w3 ⟨rfl, hb⟩
  have hs3 := hb.size
  have HB3 := Lib.hid (show Below w.heap.size w w3 from bl_trans (by repeat (first | with_reducible exact HB2.out | refine bl_drewN ?_ _ | refine Below.drew ?_ | refine bl_alloc ?_ _)) hb)
  have ba3 := Lib.hid (show Blk w3 (w1.heap.size) 26 #[.int .i64 n1, .int .i64 d1] from Blk.below (by repeat (first | with_reducible exact ba2.out | refine Blk.drewN ?_ _ | refine Blk.drew ?_ | refine Blk.alloc ?_ _)) hb (by have := ba2.out.lt; first | omega | (simp; omega)))
  have bb3 := Lib.hid (show Blk w3 (w1.heap.size + 1) 26 #[.int .i64 n2, .int .i64 d2] from Blk.below (by repeat (first | with_reducible exact bb2.out | refine Blk.drewN ?_ _ | refine Blk.drew ?_ | refine Blk.alloc ?_ _)) hb (by have := bb2.out.lt; first | omega | (simp; omega)))
  clear hb HB2 ba2 bb2 ca cb
  have ca := ba3.out.cell
  have cb := bb3.out.cell
  go_wp2_with fail
  (try (go_quiet (fail); go_wp2_with fail))
  refine (iCmp_is _ n2 d2 n1 d1 (-z) HF.out).mono ?_
  rintro e w4 ⟨rfl, hb⟩
  have hs4 := hb.size
  have HB4 := Lib.hid (show Below w.heap.size w w4 from bl_trans (by repeat (first | with_reducible exact HB3.out | refine bl_drewN ?_ _ | refine Below.drew ?_ | refine bl_alloc ?_ _)) hb)
  have ba4 := Lib.hid (show Blk w4 (w1.heap.size) 26 #[.int .i64 n1, .int .i64 d1] from Blk.below (by repeat (first | with_reducible exact ba3.out | refine Blk.drewN ?_ _ | refine Blk.drew ?_ | refine Blk.alloc ?_ _)) hb (by have := ba3.out.lt; first | omega | (simp; omega)))
  have bb4 := Lib.hid (show Blk w4 (w1.heap.size + 1) 26 #[.int .i64 n2, .int .i64 d2] from Blk.below (by repeat (first | with_reducible exact bb3.out | refine Blk.drewN ?_ _ | refine Blk.drew ?_ | refine Blk.alloc ?_ _)) hb (by have := bb3.out.lt; first | omega | (simp; omega)))
  clear hb HB3 ba3 bb3 ca cb
  cases ha : shB n1 d1
  · obtain rfl : z = 0 := HZ.out.symm.trans (cmp_left n2 d2 ha)
    have HV := Lib.hid ha
    clear ha
    have ca := ba4.out.cell
    have cb := bb4.out.cell
    go_wp2_with fail
    (try (go_quiet (fail); go_wp2_with fail))
    refine (iShare_is _ n1 d1 false HV.out).mono ?_
    rintro e w5 ⟨rfl, hb⟩
    have hs5 := hb.size
    have HB5 := Lib.hid (show Below w.heap.size w w5 from bl_trans (by repeat (first | with_reducible exact HB4.out | refine bl_drewN ?_ _ | refine Below.drew ?_ | refine bl_alloc ?_ _)) hb)
    have ba5 := Lib.hid (show Blk w5 (w1.heap.size) 26 #[.int .i64 n1, .int .i64 d1] from Blk.below (by repeat (first | with_reducible exact ba4.out | refine Blk.drewN ?_ _ | refine Blk.drew ?_ | refine Blk.alloc ?_ _)) hb (by have := ba4.out.lt; first | omega | (simp; omega)))
    have bb5 := Lib.hid (show Blk w5 (w1.heap.size + 1) 26 #[.int .i64 n2, .int .i64 d2] from Blk.below (by repeat (first | with_reducible exact bb4.out | refine Blk.drewN ?_ _ | refine Blk.drew ?_ | refine Blk.alloc ?_ _)) hb (by have := bb4.out.lt; first | omega | (simp; omega)))
    clear hb HB4 ba4 bb4 ca cb
    have ca := ba5.out.cell
    have cb := bb5.out.cell
    go_wp2
    (try (go_quiet (fail); go_wp2))
    go_ret
    exact ⟨rfl, by repeat (first | with_reducible exact HB5.out | refine bl_drewN ?_ _ | refine Below.drew ?_ | refine bl_alloc ?_ _ | refine bl_set ?_ (by dsimp only; omega) _)⟩
  cases hb0 : shB n2 d2
  · obtain rfl : z = 0 := HZ.out.symm.trans (cmp_right n1 d1 hb0)
    have HV := Lib.hid ha
    have HW := Lib.hid hb0
    clear ha hb0
    have ca := ba4.out.cell
    have cb := bb4.out.cell
    go_wp2_with fail
    (try (go_quiet (fail); go_wp2_with fail))
    refine (iShare_is _ n1 d1 true HV.out).mono ?_
    rintro e w5 ⟨rfl, hb⟩
    have hs5 := hb.size
    have HB5 := Lib.hid (show Below w.heap.size w w5 from bl_trans (by repeat (first | with_reducible exact HB4.out | refine bl_drewN ?_ _ | refine Below.drew ?_ | refine bl_alloc ?_ _)) hb)
    have ba5 := Lib.hid (show Blk w5 (w1.heap.size) 26 #[.int .i64 n1, .int .i64 d1] from Blk.below (by repeat (first | with_reducible exact ba4.out | refine Blk.drewN ?_ _ | refine Blk.drew ?_ | refine Blk.alloc ?_ _)) hb (by have := ba4.out.lt; first | omega | (simp; omega)))
    have bb5 := Lib.hid (show Blk w5 (w1.heap.size + 1) 26 #[.int .i64 n2, .int .i64 d2] from Blk.below (by repeat (first | with_reducible exact bb4.out | refine Blk.drewN ?_ _ | refine Blk.drew ?_ | refine Blk.alloc ?_ _)) hb (by have := bb4.out.lt; first | omega | (simp; omega)))
    clear hb HB4 ba4 bb4 ca cb
    have ca := ba5.out.cell
    have cb := bb5.out.cell
    go_wp2_with fail
    (try (go_quiet (fail); go_wp2_with fail))
    refine (iShare_is _ n2 d2 false HW.out).mono ?_
    rintro e w6 ⟨rfl, hb⟩
    have hs6 := hb.size
    have HB6 := Lib.hid (show Below w.heap.size w w6 from bl_trans (by repeat (first | with_reducible exact HB5.out | refine bl_drewN ?_ _ | refine Below.drew ?_ | refine bl_alloc ?_ _)) hb)
    have ba6 := Lib.hid (show Blk w6 (w1.heap.size) 26 #[.int .i64 n1, .int .i64 d1] from Blk.below (by repeat (first | with_reducible exact ba5.out | refine Blk.drewN ?_ _ | refine Blk.drew ?_ | refine Blk.alloc ?_ _)) hb (by have := ba5.out.lt; first | omega | (simp; omega)))
    have bb6 := Lib.hid (show Blk w6 (w1.heap.size + 1) 26 #[.int .i64 n2, .int .i64 d2] from Blk.below (by repeat (first | with_reducible exact bb5.out | refine Blk.drewN ?_ _ | refine Blk.drew ?_ | refine Blk.alloc ?_ _)) hb (by have := bb5.out.lt; first | omega | (simp; omega)))
    clear hb HB5 ba5 bb5 ca cb
    have ca := ba6.out.cell
    have cb := bb6.out.cell
    go_wp2
    (try (go_quiet (fail); go_wp2))
    go_ret
    exact ⟨rfl, by repeat (first | with_reducible exact HB6.out | refine bl_drewN ?_ _ | refine Below.drew ?_ | refine bl_alloc ?_ _ | refine bl_set ?_ (by dsimp only; omega) _)⟩
  have HV := Lib.hid ha
  have HW := Lib.hid hb0
  have hzz : z = 0 ↔ n1 = n2 ∧ d1 = d2 := by
    obtain ⟨a, b, rfl, rfl, hA⟩ := sh_of ha
    obtain ⟨x, y, rfl, rfl, hX⟩ := sh_of hb0
    have := cmpS_zero hA hX
    rw [HZ.out] at this
    rw [this]
    omega
  clear ha hb0
  have ca := ba4.out.cell
  have cb := bb4.out.cell
  go_wp2_with fail
  (try (go_quiet (fail); go_wp2_with fail))
  refine (iShare_is _ n1 d1 true HV.out).mono ?_
  rintro e w5 ⟨rfl, hb⟩
  have hs5 := hb.size
  have HB5 := Lib.hid (show Below w.heap.size w w5 from bl_trans (by repeat (first | with_reducible exact HB4.out | refine bl_drewN ?_ _ | refine Below.drew ?_ | refine bl_alloc ?_ _)) hb)
  have ba5 := Lib.hid (show Blk w5 (w1.heap.size) 26 #[.int .i64 n1, .int .i64 d1] from Blk.below (by repeat (first | with_reducible exact ba4.out | refine Blk.drewN ?_ _ | refine Blk.drew ?_ | refine Blk.alloc ?_ _)) hb (by have := ba4.out.lt; first | omega | (simp; omega)))
  have bb5 := Lib.hid (show Blk w5 (w1.heap.size + 1) 26 #[.int .i64 n2, .int .i64 d2] from Blk.below (by repeat (first | with_reducible exact bb4.out | refine Blk.drewN ?_ _ | refine Blk.drew ?_ | refine Blk.alloc ?_ _)) hb (by have := bb4.out.lt; first | omega | (simp; omega)))
  clear hb HB4 ba4 bb4 ca cb
  have ca := ba5.out.cell
  have cb := bb5.out.cell
  go_wp2_with fail
  (try (go_quiet (fail); go_wp2_with fail))
  refine (iShare_is _ n2 d2 true HW.out).mono ?_
  rintro e w6 ⟨rfl, hb⟩
  have hs6 := hb.size
  have HB6 := Lib.hid (show Below w.heap.size w w6 from bl_trans (by repeat (first | with_reducible exact HB5.out | refine bl_drewN ?_ _ | refine Below.drew ?_ | refine bl_alloc ?_ _)) hb)
  have ba6 := Lib.hid (show Blk w6 (w1.heap.size) 26 #[.int .i64 n1, .int .i64 d1] from Blk.below (by repeat (first | with_reducible exact ba5.out | refine Blk.drewN ?_ _ | refine Blk.drew ?_ | refine Blk.alloc ?_ _)) hb (by have := ba5.out.lt; first | omega | (simp; omega)))
  have bb6 := Lib.hid (show Blk w6 (w1.heap.size + 1) 26 #[.int .i64 n2, .int .i64 d2] from Blk.below (by repeat (first | with_reducible exact bb5.out | refine Blk.drewN ?_ _ | refine Blk.drew ?_ | refine Blk.alloc ?_ _)) hb (by have := bb5.out.lt; first | omega | (simp; omega)))
  clear hb HB5 ba5 bb5 ca cb
  by_cases hz0 : z = 0
  · obtain ⟨rfl, rfl⟩ := hzz.1 hz0
    subst hz0
    clear hzz
    have ca := ba6.out.cell
    have cb := bb6.out.cell
    go_wp2
    (try (go_quiet (fail); go_wp2))
    go_ret
    exact ⟨rfl, by repeat (first | with_reducible exact HB6.out | refine bl_drewN ?_ _ | refine Below.drew ?_ | refine bl_alloc ?_ _ | refine bl_set ?_ (by dsimp only; omega) _)⟩
  have hz1 : (z == 0) = false := by simpa using hz0
  by_cases hn1 : n1 = n2
  · have hd1 : ¬ d1 = d2 := fun e => hz0 (hzz.2 ⟨hn1, e⟩)
    have hd2 : (d1 == d2) = false := by simpa using hd1
    subst hn1
    clear hzz
    have ca := ba6.out.cell
    have cb := bb6.out.cell
    go_wp2
    (try (go_quiet (fail); go_wp2))
    go_ret
    exact ⟨rfl, by repeat (first | with_reducible exact HB6.out | refine bl_drewN ?_ _ | refine Below.drew ?_ | refine bl_alloc ?_ _ | refine bl_set ?_ (by dsimp only; omega) _)⟩
  have hn2 : (n1 == n2) = false := by simpa using hn1
  clear hzz
  have ca := ba6.out.cell
  have cb := bb6.out.cell
  go_wp2
  (try (go_quiet (fail); go_wp2))
  go_ret
  exact ⟨rfl, by repeat (first | with_reducible exact HB6.out | refine bl_drewN ?_ _ | refine Below.drew ?_ | refine bl_alloc ?_ _ | refine bl_set ?_ (by dsimp only; omega) _)⟩

set_option maxHeartbeats 2000000 in
theorem fnAddMore_walk (w : World) (A : Option Addr) (n c : Nat) (f : Nat → Int) (h : Code w w.heap.size A n c f) (e0 : Addr) (he : EG w e0) :
    Calls Tryd.prog 8 #[.slice A n c] w fun e w' => e = .returned (.bool true) ∧ Below w.heap.size w w' := by
  have H := Lib.hid h
  have HE := Lib.hid he
  have hle := h.le
  have hmax := h.max
  unfold maxLen at hmax
  clear h he
  by_cases hn : 1048576 < n
  · go_enter Tryd.func8, Tryd.ntmps8
    go_wp2
    go_ret
    exact ⟨rfl, Below.refl _ _⟩
  go_enter Tryd.func8, Tryd.ntmps8
  go_wp2_with fail
  refine (dDrawCompareShares_any _ A n c f H.out).mono ?_
  rintro e w1 ⟨n1, d1, n2, d2, rfl, ⟨⟨x1, x2⟩, ⟨y1, y2⟩⟩, ⟨⟨u1, u2⟩, ⟨v1, v2⟩⟩, hb⟩
  have HB1 := Lib.hid hb
  clear hb H
  obtain ⟨z, hz⟩ : ∃ z, cmpS n1 d1 n2 d2 = z := ⟨_, rfl⟩
  obtain ⟨p1, q1, hp1⟩ : ∃ p q, plusS n1 d1 1 2 = (p, q) := ⟨_, _, rfl⟩
  obtain ⟨p2, q2, hp2⟩ : ∃ p q, plusS n2 d2 1 2 = (p, q) := ⟨_, _, rfl⟩
  obtain ⟨c1, hc1⟩ : ∃ c, plusB n1 d1 1 2 = c := ⟨_, rfl⟩
  obtain ⟨c2, hc2⟩ : ∃ c, plusB n2 d2 1 2 = c := ⟨_, rfl⟩
  have hcm : c1 = true → c2 = true → cmpS p1 q1 p2 q2 = z := by
    rintro rfl rfl
    have := cmp_more hc1 hc2
    rw [hp1, hp2, hz] at this
    exact this
  have HC := Lib.hid hcm
  have HZ := Lib.hid hz
  have HP1 := Lib.hid (And.intro hp1 hc1)
  have HP2 := Lib.hid (And.intro hp2 hc2)
  clear hcm hz hp1 hp2 hc1 hc2
  go_wp2_with fail
  (try (go_quiet (fail); go_wp2_with fail))
  refine (iCmp_is _ n1 d1 n2 d2 z HZ.out).mono ?_
  rintro e w2 ⟨rfl, hb⟩
  have hs2 := hb.size
  have HB2 := Lib.hid (show Below w.heap.size w w2 from bl_trans (by repeat (first | with_reducible exact HB1.out | refine bl_drewN ?_ _ | refine Below.drew ?_ | refine bl_alloc ?_ _)) hb)
  have ba2 := Lib.hid (show Blk w2 (w1.heap.size) 26 #[.int .i64 n1, .int .i64 d1] from Blk.below (by have hh := Blk.new w1 26 #[.int .i64 n1, .int .i64 d1]; (try simp only [World.size_alloc] at hh); repeat (first | exact hh | refine Blk.drewN ?_ _ | refine Blk.drew ?_ | refine Blk.alloc ?_ _)) hb (by first | omega | (simp; done) | (simp; omega)))
  have bb2 := Lib.hid (show Blk w2 (w1.heap.size + 1) 26 #[.int .i64 n2, .int .i64 d2] from Blk.below (by have hh := Blk.new (w1.alloc (.cells #[.int .i64 n1, .int .i64 d1] 26)) 26 #[.int .i64 n2, .int .i64 d2]; (try simp only [World.size_alloc] at hh); repeat (first | exact hh | refine Blk.drewN ?_ _ | refine Blk.drew ?_ | refine Blk.alloc ?_ _)) hb (by first | omega | (simp; done) | (simp; omega)))
  clear hb HB1
  have ca := ba2.out.cell
  have cb := bb2.out.cell
  go_wp2_with fail
  (try (go_quiet (fail); go_wp2_with fail))
  refine (sCmp_is _ n1 d1 n2 d2 z HZ.out).mono ?_
  rintro e w3 ⟨rfl, hb⟩
  have hs3 := hb.size
  have HB3 := Lib.hid (show Below w.heap.size w w3 from bl_trans (by repeat (first | with_reducible exact HB2.out | refine bl_drewN ?_ _ | refine Below.drew ?_ | refine bl_alloc ?_ _)) hb)
  have ba3 := Lib.hid (show Blk w3 (w1.heap.size) 26 #[.int .i64 n1, .int .i64 d1] from Blk.below (by repeat (first | with_reducible exact ba2.out | refine Blk.drewN ?_ _ | refine Blk.drew ?_ | refine Blk.alloc ?_ _)) hb (by have := ba2.out.lt; first | omega | (simp; omega)))
  have bb3 := Lib.hid (show Blk w3 (w1.heap.size + 1) 26 #[.int .i64 n2, .int .i64 d2] from Blk.below (by repeat (first | with_reducible exact bb2.out | refine Blk.drewN ?_ _ | refine Blk.drew ?_ | refine Blk.alloc ?_ _)) hb (by have := bb2.out.lt; first | omega | (simp; omega)))
  clear hb HB2 ba2 bb2 ca cb
  have ca := fun o0 => (ba3.out.alloc o0).cell
  have cb := fun o0 => (bb3.out.alloc o0).cell
  go_wp2_with fail
  (try (go_quiet (fail); go_wp2_with fail))
  refine (iAdd_is _ e0 (by repeat (first | exact HE.out.below HB3.out | refine EG.drewN ?_ _ | refine EG.drew ?_ | refine EG.alloc ?_ _)) n1 d1 1 2 p1 q1 c1 HP1.out.1 HP1.out.2).mono ?_
  rintro e w4 ⟨rfl, hb⟩
  have hs4 := hb.size
  have HB4 := Lib.hid (show Below w.heap.size w w4 from bl_trans (by repeat (first | with_reducible exact HB3.out | refine bl_drewN ?_ _ | refine Below.drew ?_ | refine bl_alloc ?_ _)) hb)
  have ba4 := Lib.hid (show Blk w4 (w1.heap.size) 26 #[.int .i64 n1, .int .i64 d1] from Blk.below (by repeat (first | with_reducible exact ba3.out | refine Blk.drewN ?_ _ | refine Blk.drew ?_ | refine Blk.alloc ?_ _)) hb (by have := ba3.out.lt; first | omega | (simp; omega)))
  have bb4 := Lib.hid (show Blk w4 (w1.heap.size + 1) 26 #[.int .i64 n2, .int .i64 d2] from Blk.below (by repeat (first | with_reducible exact bb3.out | refine Blk.drewN ?_ _ | refine Blk.drew ?_ | refine Blk.alloc ?_ _)) hb (by have := bb3.out.lt; first | omega | (simp; omega)))
  have bone4 := Lib.hid (show Blk w4 (w3.heap.size) 26 #[.int .i64 1, .int .i64 2] from Blk.below (by have hh := Blk.new w3 26 #[.int .i64 1, .int .i64 2]; (try simp only [World.size_alloc] at hh); repeat (first | exact hh | refine Blk.drewN ?_ _ | refine Blk.drew ?_ | refine Blk.alloc ?_ _)) hb (by first | omega | (simp; done) | (simp; omega)))
  clear hb HB3 ba3 bb3 ca cb
  have ca := fun o0 => (ba4.out.alloc o0).cell
  have cb := fun o0 => (bb4.out.alloc o0).cell
  have cone := fun o0 => (bone4.out.alloc o0).cell
  go_wp2_with fail
  (try (go_quiet (fail); go_wp2_with fail))
  refine (iAdd_is _ e0 (by repeat (first | exact HE.out.below HB4.out | refine EG.drewN ?_ _ | refine EG.drew ?_ | refine EG.alloc ?_ _)) n2 d2 1 2 p2 q2 c2 HP2.out.1 HP2.out.2).mono ?_
  rintro e w5 ⟨rfl, hb⟩
  have hs5 := hb.size
  have HB5 := Lib.hid (show Below w.heap.size w w5 from bl_trans (by repeat (first | with_reducible exact HB4.out | refine bl_drewN ?_ _ | refine Below.drew ?_ | refine bl_alloc ?_ _)) hb)
  have ba5 := Lib.hid (show Blk w5 (w1.heap.size) 26 #[.int .i64 n1, .int .i64 d1] from Blk.below (by repeat (first | with_reducible exact ba4.out | refine Blk.drewN ?_ _ | refine Blk.drew ?_ | refine Blk.alloc ?_ _)) hb (by have := ba4.out.lt; first | omega | (simp; omega)))
  have bb5 := Lib.hid (show Blk w5 (w1.heap.size + 1) 26 #[.int .i64 n2, .int .i64 d2] from Blk.below (by repeat (first | with_reducible exact bb4.out | refine Blk.drewN ?_ _ | refine Blk.drew ?_ | refine Blk.alloc ?_ _)) hb (by have := bb4.out.lt; first | omega | (simp; omega)))
  have bone5 := Lib.hid (show Blk w5 (w3.heap.size) 26 #[.int .i64 1, .int .i64 2] from Blk.below (by repeat (first | with_reducible exact bone4.out | refine Blk.drewN ?_ _ | refine Blk.drew ?_ | refine Blk.alloc ?_ _)) hb (by have := bone4.out.lt; first | omega | (simp; omega)))
  have br5 := Lib.hid (show Blk w5 (w4.heap.size) 26 #[.int .i64 (p1 : Int), .int .i64 (q1 : Int)] from Blk.below (by have hh := Blk.new w4 26 #[.int .i64 (p1 : Int), .int .i64 (q1 : Int)]; (try simp only [World.size_alloc] at hh); repeat (first | exact hh | refine Blk.drewN ?_ _ | refine Blk.drew ?_ | refine Blk.alloc ?_ _)) hb (by first | omega | (simp; done) | (simp; omega)))
  clear hb HB4 ba4 bb4 bone4 ca cb cone
  cases c1
  ·
    have ca := fun o0 => (ba5.out.alloc o0).cell
    have cb := fun o0 => (bb5.out.alloc o0).cell
    have cone := fun o0 => (bone5.out.alloc o0).cell
    have cr := fun o0 => (br5.out.alloc o0).cell
    go_wp2
    (try (go_quiet (fail); go_wp2))
    go_ret
    exact ⟨rfl, by repeat (first | with_reducible exact HB5.out | refine bl_drewN ?_ _ | refine Below.drew ?_ | refine bl_alloc ?_ _ | refine bl_set ?_ (by dsimp only; omega) _)⟩
  cases c2
  ·
    have ca := fun o0 => (ba5.out.alloc o0).cell
    have cb := fun o0 => (bb5.out.alloc o0).cell
    have cone := fun o0 => (bone5.out.alloc o0).cell
    have cr := fun o0 => (br5.out.alloc o0).cell
    go_wp2
    (try (go_quiet (fail); go_wp2))
    go_ret
    exact ⟨rfl, by repeat (first | with_reducible exact HB5.out | refine bl_drewN ?_ _ | refine Below.drew ?_ | refine bl_alloc ?_ _ | refine bl_set ?_ (by dsimp only; omega) _)⟩
  have HC2 := Lib.hid (HC.out rfl rfl)
  clear HC
  have ca := fun o0 => (ba5.out.alloc o0).cell
  have cb := fun o0 => (bb5.out.alloc o0).cell
  have cone := fun o0 => (bone5.out.alloc o0).cell
  have cr := fun o0 => (br5.out.alloc o0).cell
  go_wp2_with fail
  (try (go_quiet (fail); go_wp2_with fail))
  refine (iCmp_is _ p1 q1 p2 q2 z HC2.out).mono ?_
  rintro e w6 ⟨rfl, hb⟩
  have hs6 := hb.size
  have HB6 := Lib.hid (show Below w.heap.size w w6 from bl_trans (by repeat (first | with_reducible exact HB5.out | refine bl_drewN ?_ _ | refine Below.drew ?_ | refine bl_alloc ?_ _)) hb)
  have ba6 := Lib.hid (show Blk w6 (w1.heap.size) 26 #[.int .i64 n1, .int .i64 d1] from Blk.below (by repeat (first | with_reducible exact ba5.out | refine Blk.drewN ?_ _ | refine Blk.drew ?_ | refine Blk.alloc ?_ _)) hb (by have := ba5.out.lt; first | omega | (simp; omega)))
  have bb6 := Lib.hid (show Blk w6 (w1.heap.size + 1) 26 #[.int .i64 n2, .int .i64 d2] from Blk.below (by repeat (first | with_reducible exact bb5.out | refine Blk.drewN ?_ _ | refine Blk.drew ?_ | refine Blk.alloc ?_ _)) hb (by have := bb5.out.lt; first | omega | (simp; omega)))
  have bone6 := Lib.hid (show Blk w6 (w3.heap.size) 26 #[.int .i64 1, .int .i64 2] from Blk.below (by repeat (first | with_reducible exact bone5.out | refine Blk.drewN ?_ _ | refine Blk.drew ?_ | refine Blk.alloc ?_ _)) hb (by have := bone5.out.lt; first | omega | (simp; omega)))
  have br6 := Lib.hid (show Blk w6 (w4.heap.size) 26 #[.int .i64 (p1 : Int), .int .i64 (q1 : Int)] from Blk.below (by repeat (first | with_reducible exact br5.out | refine Blk.drewN ?_ _ | refine Blk.drew ?_ | refine Blk.alloc ?_ _)) hb (by have := br5.out.lt; first | omega | (simp; omega)))
  have bu6 := Lib.hid (show Blk w6 (w5.heap.size) 26 #[.int .i64 (p2 : Int), .int .i64 (q2 : Int)] from Blk.below (by have hh := Blk.new w5 26 #[.int .i64 (p2 : Int), .int .i64 (q2 : Int)]; (try simp only [World.size_alloc] at hh); repeat (first | exact hh | refine Blk.drewN ?_ _ | refine Blk.drew ?_ | refine Blk.alloc ?_ _)) hb (by first | omega | (simp; done) | (simp; omega)))
  clear hb HB5 ba5 bb5 bone5 br5 ca cb cone cr
  have ca := ba6.out.cell
  have cb := bb6.out.cell
  have cone := bone6.out.cell
  have cr := br6.out.cell
  have cu := bu6.out.cell
  go_wp2
  (try (go_quiet (fail); go_wp2))
  go_ret
  exact ⟨rfl, by repeat (first | with_reducible exact HB6.out | refine bl_drewN ?_ _ | refine Below.drew ?_ | refine bl_alloc ?_ _ | refine bl_set ?_ (by dsimp only; omega) _)⟩

set_option maxHeartbeats 2000000 in
theorem fnShareValid_walk (w : World) (A : Option Addr) (n c : Nat) (f : Nat → Int) (h : Code w w.heap.size A n c f) (e0 : Addr) (he : EG w e0) :
    Calls Tryd.prog 10 #[.slice A n c] w fun e w' => e = .returned (.bool true) ∧ Below w.heap.size w w' := by
  have H := Lib.hid h
  have HE := Lib.hid he
  have hle := h.le
  have hmax := h.max
  unfold maxLen at hmax
  clear h he
  by_cases hn : 1048576 < n
  · go_enter Tryd.func10, Tryd.ntmps10
    go_wp2
    go_ret
    exact ⟨rfl, Below.refl _ _⟩
  go_enter Tryd.func10, Tryd.ntmps10
  go_wp2_with fail
  refine (dDrawShareValid_any _ A n c f H.out).mono ?_
  rintro e w1 ⟨n1, d1, rfl, ⟨⟨x1, x2⟩, ⟨y1, y2⟩⟩, hb⟩
  have HB1 := Lib.hid hb
  clear hb H
  cases ha : shB n1 d1
  · have HV := Lib.hid ha
    clear ha
    go_wp2_with fail
    (try (go_quiet (fail); go_wp2_with fail))
    refine (iShare_is _ n1 d1 false HV.out).mono ?_
    rintro e w2 ⟨rfl, hb⟩
    have hs2 := hb.size
    have HB2 := Lib.hid (show Below w.heap.size w w2 from bl_trans (by repeat (first | with_reducible exact HB1.out | refine bl_drewN ?_ _ | refine Below.drew ?_ | refine bl_alloc ?_ _)) hb)
    have bs2 := Lib.hid (show Blk w2 (w1.heap.size) 26 #[.int .i64 n1, .int .i64 d1] from Blk.below (by have hh := Blk.new w1 26 #[.int .i64 n1, .int .i64 d1]; (try simp only [World.size_alloc] at hh); repeat (first | exact hh | refine Blk.drewN ?_ _ | refine Blk.drew ?_ | refine Blk.alloc ?_ _)) hb (by first | omega | (simp; done) | (simp; omega)))
    clear hb HB1
    have cs := bs2.out.cell
    go_wp2_with fail
    (try (go_quiet (fail); go_wp2_with fail))
    refine (sShare_is _ n1 d1 false HV.out).mono ?_
    rintro e w3 ⟨rfl, hb⟩
    have hs3 := hb.size
    have HB3 := Lib.hid (show Below w.heap.size w w3 from bl_trans (by repeat (first | with_reducible exact HB2.out | refine bl_drewN ?_ _ | refine Below.drew ?_ | refine bl_alloc ?_ _)) hb)
    have bs3 := Lib.hid (show Blk w3 (w1.heap.size) 26 #[.int .i64 n1, .int .i64 d1] from Blk.below (by repeat (first | with_reducible exact bs2.out | refine Blk.drewN ?_ _ | refine Blk.drew ?_ | refine Blk.alloc ?_ _)) hb (by have := bs2.out.lt; first | omega | (simp; omega)))
    clear hb HB2 bs2 cs
    have cs := bs3.out.cell
    go_wp2_with fail
    (try (go_quiet (fail); go_wp2_with fail))
    refine (sShare_is _ n1 d1 false HV.out).mono ?_
    rintro e w4 ⟨rfl, hb⟩
    have hs4 := hb.size
    have HB4 := Lib.hid (show Below w.heap.size w w4 from bl_trans (by repeat (first | with_reducible exact HB3.out | refine bl_drewN ?_ _ | refine Below.drew ?_ | refine bl_alloc ?_ _)) hb)
    have bs4 := Lib.hid (show Blk w4 (w1.heap.size) 26 #[.int .i64 n1, .int .i64 d1] from Blk.below (by repeat (first | with_reducible exact bs3.out | refine Blk.drewN ?_ _ | refine Blk.drew ?_ | refine Blk.alloc ?_ _)) hb (by have := bs3.out.lt; first | omega | (simp; omega)))
    clear hb HB3 bs3 cs
    have cs := bs4.out.cell
    go_wp2
    (try (go_quiet (fail); go_wp2))
    go_ret
    exact ⟨rfl, by repeat (first | with_reducible exact HB4.out | refine bl_drewN ?_ _ | refine Below.drew ?_ | refine bl_alloc ?_ _ | refine bl_set ?_ (by dsimp only; omega) _)⟩
  have HV := Lib.hid ha
  obtain ⟨a, b, rfl, rfl, hA⟩ := sh_of ha
  have hd : shB (2 * (a : Int)) (2 * (b : Int)) = false := by
    cases hh : shB (2 * (a : Int)) (2 * (b : Int))
    · rfl
    · exfalso
      obtain ⟨x, y, e1, e2, hX⟩ := sh_of hh
      have i1 : x = 2 * a := by omega
      have i2 : y = 2 * b := by omega
      have hg := hX.cop
      rw [i1, i2, Nat.gcd_mul_left] at hg
      have : Nat.gcd a b = 1 := hA.cop
      omega
  have hz : shB (a : Int) 0 = false := by unfold shB mkB; simp
  have HD := Lib.hid hd
  have HZ := Lib.hid hz
  clear hd hz ha
  go_wp2_with fail
  (try (go_quiet (fail); go_wp2_with fail))
  refine (iShare_is _ a b true HV.out).mono ?_
  rintro e w2 ⟨rfl, hb⟩
  have hs2 := hb.size
  have HB2 := Lib.hid (show Below w.heap.size w w2 from bl_trans (by repeat (first | with_reducible exact HB1.out | refine bl_drewN ?_ _ | refine Below.drew ?_ | refine bl_alloc ?_ _)) hb)
  have bs2 := Lib.hid (show Blk w2 (w1.heap.size) 26 #[.int .i64 (a : Int), .int .i64 (b : Int)] from Blk.below (by have hh := Blk.new w1 26 #[.int .i64 (a : Int), .int .i64 (b : Int)]; (try simp only [World.size_alloc] at hh); repeat (first | exact hh | refine Blk.drewN ?_ _ | refine Blk.drew ?_ | refine Blk.alloc ?_ _)) hb (by first | omega | (simp; done) | (simp; omega)))
  clear hb HB1
  have cs := bs2.out.cell
  go_wp2_with fail
  (try (go_quiet (fail); go_wp2_with fail))
  refine (sShare_is _ a b true HV.out).mono ?_
  rintro e w3 ⟨rfl, hb⟩
  have hs3 := hb.size
  have HB3 := Lib.hid (show Below w.heap.size w w3 from bl_trans (by repeat (first | with_reducible exact HB2.out | refine bl_drewN ?_ _ | refine Below.drew ?_ | refine bl_alloc ?_ _)) hb)
  have bs3 := Lib.hid (show Blk w3 (w1.heap.size) 26 #[.int .i64 (a : Int), .int .i64 (b : Int)] from Blk.below (by repeat (first | with_reducible exact bs2.out | refine Blk.drewN ?_ _ | refine Blk.drew ?_ | refine Blk.alloc ?_ _)) hb (by have := bs2.out.lt; first | omega | (simp; omega)))
  clear hb HB2 bs2 cs
  have cs := bs3.out.cell
  go_wp2_with fail
  (try (go_quiet (fail); go_wp2_with fail))
  refine (iShare_is _ (2 * (a : Int)) (2 * (b : Int)) false HD.out).mono ?_
  rintro e w4 ⟨rfl, hb⟩
  have hs4 := hb.size
  have HB4 := Lib.hid (show Below w.heap.size w w4 from bl_trans (by repeat (first | with_reducible exact HB3.out | refine bl_drewN ?_ _ | refine Below.drew ?_ | refine bl_alloc ?_ _)) hb)
  have bs4 := Lib.hid (show Blk w4 (w1.heap.size) 26 #[.int .i64 (a : Int), .int .i64 (b : Int)] from Blk.below (by repeat (first | with_reducible exact bs3.out | refine Blk.drewN ?_ _ | refine Blk.drew ?_ | refine Blk.alloc ?_ _)) hb (by have := bs3.out.lt; first | omega | (simp; omega)))
  clear hb HB3 bs3 cs
  have cs := bs4.out.cell
  go_wp2_with fail
  (try (go_quiet (fail); go_wp2_with fail))
  refine (iShare_is _ a 0 false HZ.out).mono ?_
  rintro e w5 ⟨rfl, hb⟩
  have hs5 := hb.size
  have HB5 := Lib.hid (show Below w.heap.size w w5 from bl_trans (by repeat (first | with_reducible exact HB4.out | refine bl_drewN ?_ _ | refine Below.drew ?_ | refine bl_alloc ?_ _)) hb)
  have bs5 := Lib.hid (show Blk w5 (w1.heap.size) 26 #[.int .i64 (a : Int), .int .i64 (b : Int)] from Blk.below (by repeat (first | with_reducible exact bs4.out | refine Blk.drewN ?_ _ | refine Blk.drew ?_ | refine Blk.alloc ?_ _)) hb (by have := bs4.out.lt; first | omega | (simp; omega)))
  clear hb HB4 bs4 cs
  have cs := bs5.out.cell
  go_wp2
  (try (go_quiet (fail); go_wp2))
  go_ret
  exact ⟨rfl, by repeat (first | with_reducible exact HB5.out | refine bl_drewN ?_ _ | refine Below.drew ?_ | refine bl_alloc ?_ _ | refine bl_set ?_ (by dsimp only; omega) _)⟩

end Go.Proofs.YtbaecbibkmdbiabDoor
