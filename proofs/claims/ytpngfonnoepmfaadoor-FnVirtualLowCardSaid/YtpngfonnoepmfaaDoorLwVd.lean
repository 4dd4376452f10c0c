/- Walk of the law FnVirtualLow. -/
import Derived.Test.YtpngfonnoepmfaaDoorM6
import Derived.Test.YtpngfonnoepmfaaDoorM2
import Derived.Test.YtpngfonnoepmfaaDoorM8
import Derived.Test.YtpngfonnoepmfaaDoorM5
import Derived.Test.YtpngfonnoepmfaaDoorM3
import Derived.Deep.RegionWith
import Derived.Deep.RegionHeld3
namespace Go.Proofs.YtpngfonnoepmfaaDoor
open Go.RowKit
set_option linter.unusedVariables false

set_option maxRecDepth 100000 in
set_option maxHeartbeats 6000000 in
theorem fnVirtualLow_walk (w : World) (A : Option Addr) (n c : Nat) (f : Nat → Int) (h : Code w w.heap.size A n c f) (e0 : Addr) (he : EG w e0) :
    Calls Tryd.prog 11 #[.slice A n c] w fun e w' => e = .returned (.bool true) ∧ Below w.heap.size w w' := by
  have H := Lib.hid h
  have HE := Lib.hid he
  have hle := h.le
  have hmax := h.max
  unfold maxLen at hmax
  clear h he
  by_cases hn : 1048576 < n
  · go_enter Tryd.func11, Tryd.ntmps11
    go_wp2
    go_ret
    exact ⟨rfl, Below.refl _ _⟩
  go_enter Tryd.func11, Tryd.ntmps11
  go_wp2_with fail
  refine (dDrawHoldsVirtual_any _ A n c f H.out).mono ?_
  rintro e w1 ⟨At, ct, ts, rfl, hl, ho, hb⟩
  have HB1 := Lib.hid hb
  have HO := Lib.hid ho
  have HTt := Lib.hid ho.reads.2
  clear hb H ho
  have HDt1 := Lib.hid (Below.refl w1.heap.size w1)
  cases hv : virtV ts
  · have HV := Lib.hid hv
    go_wp2_with fail
    (try (go_quiet (fail); go_wp2_with fail))
    refine (iVirt_is _ At _ ct ts ((HTt.out.below (by repeat (first | with_reducible exact HDt1.out | with_reducible refine Below.drew ?_ | with_reducible refine bl_drewN ?_ _ | with_reducible refine bl_alloc ?_ _) : Below w1.heap.size w1 _)).more (Below.size (by repeat (first | with_reducible exact HDt1.out | with_reducible refine Below.drew ?_ | with_reducible refine bl_drewN ?_ _ | with_reducible refine bl_alloc ?_ _) : Below w1.heap.size w1 _))) (by omega) e0 (by repeat (first | exact HE.out.below HB1.out | refine EG.drewN ?_ _ | refine EG.drew ?_ | refine EG.alloc ?_ _)) false HV.out).mono ?_
    rintro e w2 ⟨rfl, hb⟩
    have hs2 := hb.size
    have HB2 := Lib.hid (show Below w.heap.size w w2 from bl_trans (by repeat (first | with_reducible exact HB1.out | with_reducible refine bl_drewN ?_ _ | with_reducible refine Below.drew ?_ | with_reducible refine bl_alloc ?_ _)) hb)
    have HDt2 := Lib.hid (show Below w1.heap.size w1 w2 from bl_trans (by repeat (first | with_reducible exact HDt1.out | with_reducible refine Below.drew ?_ | with_reducible refine bl_drewN ?_ _ | with_reducible refine bl_alloc ?_ _)) hb)
    clear hb HB1 HDt1
    go_wp2_with fail
    (try (go_quiet (fail); go_wp2_with fail))
    refine (sVirt_is _ At _ ct ts ((HTt.out.below (by repeat (first | with_reducible exact HDt2.out | with_reducible refine Below.drew ?_ | with_reducible refine bl_drewN ?_ _ | with_reducible refine bl_alloc ?_ _) : Below w1.heap.size w1 _)).more (Below.size (by repeat (first | with_reducible exact HDt2.out | with_reducible refine Below.drew ?_ | with_reducible refine bl_drewN ?_ _ | with_reducible refine bl_alloc ?_ _) : Below w1.heap.size w1 _))) (by omega) false HV.out).mono ?_
    rintro e w3 ⟨rfl, hb⟩
    have hs3 := hb.size
    have HB3 := Lib.hid (show Below w.heap.size w w3 from bl_trans (by repeat (first | with_reducible exact HB2.out | with_reducible refine bl_drewN ?_ _ | with_reducible refine Below.drew ?_ | with_reducible refine bl_alloc ?_ _)) hb)
    have HDt3 := Lib.hid (show Below w1.heap.size w1 w3 from bl_trans (by repeat (first | with_reducible exact HDt2.out | with_reducible refine Below.drew ?_ | with_reducible refine bl_drewN ?_ _ | with_reducible refine bl_alloc ?_ _)) hb)
    clear hb HB2 HDt2
    go_wp2_with fail
    (try (go_quiet (fail); go_wp2_with fail))
    refine (sVirt_is _ At _ ct ts ((HTt.out.below (by repeat (first | with_reducible exact HDt3.out | with_reducible refine Below.drew ?_ | with_reducible refine bl_drewN ?_ _ | with_reducible refine bl_alloc ?_ _) : Below w1.heap.size w1 _)).more (Below.size (by repeat (first | with_reducible exact HDt3.out | with_reducible refine Below.drew ?_ | with_reducible refine bl_drewN ?_ _ | with_reducible refine bl_alloc ?_ _) : Below w1.heap.size w1 _))) (by omega) false HV.out).mono ?_
    rintro e w4 ⟨rfl, hb⟩
    have hs4 := hb.size
    have HB4 := Lib.hid (show Below w.heap.size w w4 from bl_trans (by repeat (first | with_reducible exact HB3.out | with_reducible refine bl_drewN ?_ _ | with_reducible refine Below.drew ?_ | with_reducible refine bl_alloc ?_ _)) hb)
    have HDt4 := Lib.hid (show Below w1.heap.size w1 w4 from bl_trans (by repeat (first | with_reducible exact HDt3.out | with_reducible refine Below.drew ?_ | with_reducible refine bl_drewN ?_ _ | with_reducible refine bl_alloc ?_ _)) hb)
    clear hb HB3 HDt3
    go_wp2
    (try (go_quiet (fail); go_wp2))
    go_ret
    exact ⟨rfl, by repeat (first | with_reducible exact HB4.out | refine bl_drewN ?_ _ | refine Below.drew ?_ | refine bl_alloc ?_ _ | refine bl_set ?_ (by dsimp only; omega) _)⟩
  obtain ⟨hi, hle1, hle2⟩ := virt_both hv
  have hs := imp_set hi
  obtain ⟨p, q, hpq⟩ : ∃ p q, lowOf ts false = (p, q) := ⟨_, _, rfl⟩
  obtain ⟨u, v, huv⟩ : ∃ p q, lowOf ts true = (p, q) := ⟨_, _, rfl⟩
  obtain ⟨s, t, hst⟩ : ∃ p q, highOf ts = (p, q) := ⟨_, _, rfl⟩
  obtain ⟨x, y, z, s1, s2, s3, e0', e1, e2, e3, e4⟩ := low_pack hs hpq huv
  have s4 := (highOf_sh hs).1
  rw [hst] at s4 hle2
  dsimp only at s4
  obtain ⟨z2, hz2⟩ : ∃ z, cmpS s t 1 1 = z := ⟨_, rfl⟩
  have hd1 : decide (z ≤ 0) = true := by rw [← e4]; exact leB_iff.2 hle1
  have hd2 : decide (z2 ≤ 0) = true := by
    rw [decide_eq_true_iff, ← hz2, show cmpS (s : Int) t 1 1 = cmpN (s, t) (1, 1) from cmp_sh s4 one_sh]
    exact (cmp_le _ _).2 hle2
  obtain ⟨c1, c2⟩ := plus_comm (p : Int) q u v
  have HV := Lib.hid hv
  have HP := Lib.hid hpq
  have HU := Lib.hid huv
  have HH := Lib.hid hst
  have HA := Lib.hid (And.intro (c2.symm.trans e1) (c1.symm.trans e2))
  have HZ := Lib.hid (And.intro e3 hz2)
  clear hi hle1 hle2 hs hpq huv hst s1 s2 s3 s4 e0' e1 e2 e3 e4 hz2 c1 c2 hv
  go_wp2_with fail
  (try (go_quiet (fail); go_wp2_with fail))
  refine (iVirt_is _ At _ ct ts ((HTt.out.below (by repeat (first | with_reducible exact HDt1.out | with_reducible refine Below.drew ?_ | with_reducible refine bl_drewN ?_ _ | with_reducible refine bl_alloc ?_ _) : Below w1.heap.size w1 _)).more (Below.size (by repeat (first | with_reducible exact HDt1.out | with_reducible refine Below.drew ?_ | with_reducible refine bl_drewN ?_ _ | with_reducible refine bl_alloc ?_ _) : Below w1.heap.size w1 _))) (by omega) e0 (by repeat (first | exact HE.out.below HB1.out | refine EG.drewN ?_ _ | refine EG.drew ?_ | refine EG.alloc ?_ _)) true HV.out).mono ?_
  rintro e w2 ⟨rfl, hb⟩
  have hs2 := hb.size
  have HB2 := Lib.hid (show Below w.heap.size w w2 from bl_trans (by repeat (first | with_reducible exact HB1.out | with_reducible refine bl_drewN ?_ _ | with_reducible refine Below.drew ?_ | with_reducible refine bl_alloc ?_ _)) hb)
  have HDt2 := Lib.hid (show Below w1.heap.size w1 w2 from bl_trans (by repeat (first | with_reducible exact HDt1.out | with_reducible refine Below.drew ?_ | with_reducible refine bl_drewN ?_ _ | with_reducible refine bl_alloc ?_ _)) hb)
  clear hb HB1 HDt1
  go_wp2_with fail
  (try (go_quiet (fail); go_wp2_with fail))
  refine (sVirt_is _ At _ ct ts ((HTt.out.below (by repeat (first | with_reducible exact HDt2.out | with_reducible refine Below.drew ?_ | with_reducible refine bl_drewN ?_ _ | with_reducible refine bl_alloc ?_ _) : Below w1.heap.size w1 _)).more (Below.size (by repeat (first | with_reducible exact HDt2.out | with_reducible refine Below.drew ?_ | with_reducible refine bl_drewN ?_ _ | with_reducible refine bl_alloc ?_ _) : Below w1.heap.size w1 _))) (by omega) true HV.out).mono ?_
  rintro e w3 ⟨rfl, hb⟩
  have hs3 := hb.size
  have HB3 := Lib.hid (show Below w.heap.size w w3 from bl_trans (by repeat (first | with_reducible exact HB2.out | with_reducible refine bl_drewN ?_ _ | with_reducible refine Below.drew ?_ | with_reducible refine bl_alloc ?_ _)) hb)
  have HDt3 := Lib.hid (show Below w1.heap.size w1 w3 from bl_trans (by repeat (first | with_reducible exact HDt2.out | with_reducible refine Below.drew ?_ | with_reducible refine bl_drewN ?_ _ | with_reducible refine bl_alloc ?_ _)) hb)
  clear hb HB2 HDt2
  go_wp2_with fail
  (try (go_quiet (fail); go_wp2_with fail))
  refine (iLow_is _ At _ ct ts true ((HTt.out.below (by repeat (first | with_reducible exact HDt3.out | with_reducible refine Below.drew ?_ | with_reducible refine bl_drewN ?_ _ | with_reducible refine bl_alloc ?_ _) : Below w1.heap.size w1 _)).more (Below.size (by repeat (first | with_reducible exact HDt3.out | with_reducible refine Below.drew ?_ | with_reducible refine bl_drewN ?_ _ | with_reducible refine bl_alloc ?_ _) : Below w1.heap.size w1 _))) (by omega) e0 (by repeat (first | exact HE.out.below HB3.out | refine EG.drewN ?_ _ | refine EG.drew ?_ | refine EG.alloc ?_ _)) u v HU.out).mono ?_
  rintro e w4 ⟨rfl, hb⟩
  have hs4 := hb.size
  have HB4 := Lib.hid (show Below w.heap.size w w4 from bl_trans (by repeat (first | with_reducible exact HB3.out | with_reducible refine bl_drewN ?_ _ | with_reducible refine Below.drew ?_ | with_reducible refine bl_alloc ?_ _)) hb)
  have bo4 := Lib.hid (show Blk w4 (w3.heap.size) 27 #[.int .i64 1, .int .i64 1] from Blk.below (by have hh := Blk.new w3 27 #[.int .i64 1, .int .i64 1]; (try simp only [World.size_alloc] at hh); repeat (first | exact hh | with_reducible refine Blk.drewN ?_ _ | with_reducible refine Blk.drew ?_ | with_reducible refine Blk.alloc ?_ _)) hb (by first | omega | (simp; done) | (simp; omega)))
  have HDt4 := Lib.hid (show Below w1.heap.size w1 w4 from bl_trans (by repeat (first | with_reducible exact HDt3.out | with_reducible refine Below.drew ?_ | with_reducible refine bl_drewN ?_ _ | with_reducible refine bl_alloc ?_ _)) hb)
  clear hb HB3 HDt3
  have co := bo4.out.cell
  go_wp2_with fail
  (try (go_quiet (fail); go_wp2_with fail))
  refine (iLow_is _ At _ ct ts false ((HTt.out.below (by repeat (first | with_reducible exact HDt4.out | with_reducible refine Below.drew ?_ | with_reducible refine bl_drewN ?_ _ | with_reducible refine bl_alloc ?_ _) : Below w1.heap.size w1 _)).more (Below.size (by repeat (first | with_reducible exact HDt4.out | with_reducible refine Below.drew ?_ | with_reducible refine bl_drewN ?_ _ | with_reducible refine bl_alloc ?_ _) : Below w1.heap.size w1 _))) (by omega) e0 (by repeat (first | exact HE.out.below HB4.out | refine EG.drewN ?_ _ | refine EG.drew ?_ | refine EG.alloc ?_ _)) p q HP.out).mono ?_
  rintro e w5 ⟨rfl, hb⟩
  have hs5 := hb.size
  have HB5 := Lib.hid (show Below w.heap.size w w5 from bl_trans (by repeat (first | with_reducible exact HB4.out | with_reducible refine bl_drewN ?_ _ | with_reducible refine Below.drew ?_ | with_reducible refine bl_alloc ?_ _)) hb)
  have bo5 := Lib.hid (show Blk w5 (w3.heap.size) 27 #[.int .i64 1, .int .i64 1] from Blk.below (by repeat (first | with_reducible exact bo4.out | with_reducible refine Blk.drewN ?_ _ | with_reducible refine Blk.drew ?_ | with_reducible refine Blk.alloc ?_ _)) hb (by have := bo4.out.lt; first | omega | (simp; omega)))
  have HDt5 := Lib.hid (show Below w1.heap.size w1 w5 from bl_trans (by repeat (first | with_reducible exact HDt4.out | with_reducible refine Below.drew ?_ | with_reducible refine bl_drewN ?_ _ | with_reducible refine bl_alloc ?_ _)) hb)
  clear hb HB4 bo4 co HDt4
  have co := bo5.out.cell
  go_wp2_with fail
  (try (go_quiet (fail); go_wp2_with fail))
  refine (iAdd_is _ e0 (by repeat (first | exact HE.out.below HB5.out | refine EG.drewN ?_ _ | refine EG.drew ?_ | refine EG.alloc ?_ _)) u v p q x y true HA.out.1 HA.out.2).mono ?_
  rintro e w6 ⟨rfl, hb⟩
  have hs6 := hb.size
  have HB6 := Lib.hid (show Below w.heap.size w w6 from bl_trans (by repeat (first | with_reducible exact HB5.out | with_reducible refine bl_drewN ?_ _ | with_reducible refine Below.drew ?_ | with_reducible refine bl_alloc ?_ _)) hb)
  have bo6 := Lib.hid (show Blk w6 (w3.heap.size) 27 #[.int .i64 1, .int .i64 1] from Blk.below (by repeat (first | with_reducible exact bo5.out | with_reducible refine Blk.drewN ?_ _ | with_reducible refine Blk.drew ?_ | with_reducible refine Blk.alloc ?_ _)) hb (by have := bo5.out.lt; first | omega | (simp; omega)))
  have HDt6 := Lib.hid (show Below w1.heap.size w1 w6 from bl_trans (by repeat (first | with_reducible exact HDt5.out | with_reducible refine Below.drew ?_ | with_reducible refine bl_drewN ?_ _ | with_reducible refine bl_alloc ?_ _)) hb)
  clear hb HB5 bo5 co HDt5
  have co := fun o0 => (bo6.out.alloc o0).cell
  have hS6 := And.intro (Blk.two (show Blk (w6.alloc (.cells #[.int .i64 (x : Int), .int .i64 (y : Int)] 27)) (w3.heap.size) 27 #[.int .i64 1, .int .i64 1] from by repeat (first | with_reducible exact bo6.out | with_reducible refine Blk.alloc ?_ _))) (Blk.two (show Blk (w6.alloc (.cells #[.int .i64 (x : Int), .int .i64 (y : Int)] 27)) (w6.heap.size) 27 #[.int .i64 (x : Int), .int .i64 (y : Int)] from by have hh := Blk.new w6 27 #[.int .i64 (x : Int), .int .i64 (y : Int)]; (try simp only [World.size_alloc] at hh); repeat (first | exact hh | with_reducible refine Blk.alloc ?_ _)))
  go_wp2_with fail
  first
  | (go_region_held3 (fun W => (W.cell? ⟨w3.heap.size, 0, none⟩ = some (.int .i64 1) ∧ W.cell? ⟨w3.heap.size, 1, none⟩ = some (.int .i64 1)) ∧ (W.cell? ⟨w6.heap.size, 0, none⟩ = some (.int .i64 (x : Int)) ∧ W.cell? ⟨w6.heap.size, 1, none⟩ = some (.int .i64 (y : Int)))) (first | exact hS6 | exact hS7 | exact hS8 | exact hS9)
    ((first
      | (have uu := HB6; clear uu; go_at_call 21; refine (iCmp_is _ x y 1 1 z HZ.out.1).mono ?_; rintro e w7 ⟨rfl, hb⟩; have hs7 := hb.size; have HB7 := Lib.hid (show Below w.heap.size w w7 from bl_trans (by repeat (first | with_reducible exact HB6.out | with_reducible refine bl_drewN ?_ _ | with_reducible refine Below.drew ?_ | with_reducible refine bl_alloc ?_ _)) hb); have bo7 := Lib.hid (show Blk w7 (w3.heap.size) 27 #[.int .i64 1, .int .i64 1] from Blk.below (by repeat (first | with_reducible exact bo6.out | with_reducible refine Blk.drewN ?_ _ | with_reducible refine Blk.drew ?_ | with_reducible refine Blk.alloc ?_ _)) hb (by have := bo6.out.lt; first | exact this | omega | (simp; omega))); have co := bo7.out.cell; have bl7 := Lib.hid (show Blk w7 (w6.heap.size) 27 #[.int .i64 (x : Int), .int .i64 (y : Int)] from Blk.below (by have hh := Blk.new w6 27 #[.int .i64 (x : Int), .int .i64 (y : Int)]; (try simp only [World.size_alloc] at hh); repeat (first | exact hh | with_reducible refine Blk.drewN ?_ _ | with_reducible refine Blk.drew ?_ | with_reducible refine Blk.alloc ?_ _)) hb (by first | omega | (simp; done) | (simp; omega))); have cl := bl7.out.cell; have HDt7 := Lib.hid (show Below w1.heap.size w1 w7 from bl_trans (by repeat (first | with_reducible exact HDt6.out | with_reducible refine Below.drew ?_ | with_reducible refine bl_drewN ?_ _ | with_reducible refine bl_alloc ?_ _)) hb); have hS7 := And.intro (Blk.two bo7.out) (Blk.two bl7.out); clear hb HB6)
      | (have uu := HB7; clear uu; go_at_call 38; refine (iHigh_is _ At _ ct ts ((HTt.out.below (by repeat (first | with_reducible exact HDt7.out | with_reducible refine Below.drew ?_ | with_reducible refine bl_drewN ?_ _ | with_reducible refine bl_alloc ?_ _) : Below w1.heap.size w1 _)).more (Below.size (by repeat (first | with_reducible exact HDt7.out | with_reducible refine Below.drew ?_ | with_reducible refine bl_drewN ?_ _ | with_reducible refine bl_alloc ?_ _) : Below w1.heap.size w1 _))) (by omega) e0 (by repeat (first | exact HE.out.below HB7.out | refine EG.drewN ?_ _ | refine EG.drew ?_ | refine EG.alloc ?_ _)) s t HH.out).mono ?_; rintro e w8 ⟨rfl, hb⟩; have hs8 := hb.size; have HB8 := Lib.hid (show Below w.heap.size w w8 from bl_trans (by repeat (first | with_reducible exact HB7.out | with_reducible refine bl_drewN ?_ _ | with_reducible refine Below.drew ?_ | with_reducible refine bl_alloc ?_ _)) hb); have bo8 := Lib.hid (show Blk w8 (w3.heap.size) 27 #[.int .i64 1, .int .i64 1] from Blk.below (by repeat (first | with_reducible exact bo7.out | with_reducible refine Blk.drewN ?_ _ | with_reducible refine Blk.drew ?_ | with_reducible refine Blk.alloc ?_ _)) hb (by have := bo7.out.lt; first | exact this | omega | (simp; omega))); have co := bo8.out.cell; have bl8 := Lib.hid (show Blk w8 (w6.heap.size) 27 #[.int .i64 (x : Int), .int .i64 (y : Int)] from Blk.below (by repeat (first | with_reducible exact bl7.out | with_reducible refine Blk.drewN ?_ _ | with_reducible refine Blk.drew ?_ | with_reducible refine Blk.alloc ?_ _)) hb (by have := bl7.out.lt; first | exact this | omega | (simp; omega))); have cl := bl8.out.cell; have HDt8 := Lib.hid (show Below w1.heap.size w1 w8 from bl_trans (by repeat (first | with_reducible exact HDt7.out | with_reducible refine Below.drew ?_ | with_reducible refine bl_drewN ?_ _ | with_reducible refine bl_alloc ?_ _)) hb); have hS8 := And.intro (Blk.two bo8.out) (Blk.two bl8.out); clear hb HB7)
      | (have uu := HB8; clear uu; go_at_call 21; refine (iCmp_is _ s t 1 1 z2 HZ.out.2).mono ?_; rintro e w9 ⟨rfl, hb⟩; have hs9 := hb.size; have HB9 := Lib.hid (show Below w.heap.size w w9 from bl_trans (by repeat (first | with_reducible exact HB8.out | with_reducible refine bl_drewN ?_ _ | with_reducible refine Below.drew ?_ | with_reducible refine bl_alloc ?_ _)) hb); have bo9 := Lib.hid (show Blk w9 (w3.heap.size) 27 #[.int .i64 1, .int .i64 1] from Blk.below (by repeat (first | with_reducible exact bo8.out | with_reducible refine Blk.drewN ?_ _ | with_reducible refine Blk.drew ?_ | with_reducible refine Blk.alloc ?_ _)) hb (by have := bo8.out.lt; first | exact this | omega | (simp; omega))); have co := bo9.out.cell; have bl9 := Lib.hid (show Blk w9 (w6.heap.size) 27 #[.int .i64 (x : Int), .int .i64 (y : Int)] from Blk.below (by repeat (first | with_reducible exact bl8.out | with_reducible refine Blk.drewN ?_ _ | with_reducible refine Blk.drew ?_ | with_reducible refine Blk.alloc ?_ _)) hb (by have := bl8.out.lt; first | exact this | omega | (simp; omega))); have cl := bl9.out.cell; have HDt9 := Lib.hid (show Below w1.heap.size w1 w9 from bl_trans (by repeat (first | with_reducible exact HDt8.out | with_reducible refine Below.drew ?_ | with_reducible refine bl_drewN ?_ _ | with_reducible refine bl_alloc ?_ _)) hb); have hS9 := And.intro (Blk.two bo9.out) (Blk.two bl9.out); clear hb HB8))))
  | fail "no region"
  have hko9 := bo9.out.lt
  have hkl9 := bl9.out.lt
  have co := bo9.out.cell
  have cl := bl9.out.cell
  go_wp2
  (try (go_quiet (fail); go_wp2))
  go_ret
  exact ⟨rfl, by repeat (first | with_reducible exact HB9.out | refine bl_drewN ?_ _ | refine Below.drew ?_ | refine bl_alloc ?_ _ | refine bl_set ?_ (by dsimp only; omega) _)⟩

end Go.Proofs.YtpngfonnoepmfaaDoor
