/- Walk of the law FnFactorOf. -/
import Derived.Test.YtpngfonnoepmfaaDoorM6
import Derived.Test.YtpngfonnoepmfaaDoorM2
import Derived.Test.YtpngfonnoepmfaaDoorM8
import Derived.Test.YtpngfonnoepmfaaDoorM5
import Derived.Test.YtpngfonnoepmfaaDoorM3
import Derived.Deep.RegionWith
import Derived.Deep.RegionHeld3
namespace Go.Proofs.YtpngfonnoepmfaaDoor
open Go.RowKit
set_option linter.unusedVariables false

set_option maxRecDepth 100000 in
set_option maxHeartbeats 20000000 in
theorem fnFactorOf_walk (w : World) (A : Option Addr) (n c : Nat) (f : Nat → Int) (h : Code w w.heap.size A n c f) (e0 : Addr) (he : EG w e0) :
    Calls Tryd.prog 4 #[.slice A n c] w fun e w' => e = .returned (.bool true) ∧ Below w.heap.size w w' := by
  have H := Lib.hid h
  have HE := Lib.hid he
  have hle := h.le
  have hmax := h.max
  unfold maxLen at hmax
  clear h he
  by_cases hn : 1048576 < n
  · go_enter Tryd.func4, Tryd.ntmps4
    go_wp2
    go_ret
    exact ⟨rfl, Below.refl _ _⟩
  go_enter Tryd.func4, Tryd.ntmps4
  go_wp2_with fail
  refine (dDrawFactorOf_any _ A n c f H.out).mono ?_
  rintro e w1 ⟨At, ct, ts, rfl, hl, ho, hb⟩
  have HB1 := Lib.hid hb
  have HO := Lib.hid ho
  have HTt := Lib.hid ho.reads.2
  clear hb H ho
  have HDt1 := Lib.hid (Below.refl w1.heap.size w1)
  cases hf : facB ts
  · have hf0 := facV_no hf
    go_wp2_with fail
    (try (go_quiet (fail); go_wp2_with fail))
    refine (iFac_is _ At _ ct ts ((HTt.out.below (by repeat (first | with_reducible exact HDt1.out | with_reducible refine Below.drew ?_ | with_reducible refine bl_drewN ?_ _ | with_reducible refine bl_alloc ?_ _) : Below w1.heap.size w1 _)).more (Below.size (by repeat (first | with_reducible exact HDt1.out | with_reducible refine Below.drew ?_ | with_reducible refine bl_drewN ?_ _ | with_reducible refine bl_alloc ?_ _) : Below w1.heap.size w1 _))) (by omega) e0 (by repeat (first | exact HE.out.below HB1.out | refine EG.drewN ?_ _ | refine EG.drew ?_ | refine EG.alloc ?_ _)) 0 0 false hf0 hf).mono ?_
    rintro e w2 ⟨rfl, hb⟩
    have hs2 := hb.size
    have HB2 := Lib.hid (show Below w.heap.size w w2 from bl_trans (by repeat (first | with_reducible exact HB1.out | with_reducible refine bl_drewN ?_ _ | with_reducible refine Below.drew ?_ | with_reducible refine bl_alloc ?_ _)) hb)
    have HDt2 := Lib.hid (show Below w1.heap.size w1 w2 from bl_trans (by repeat (first | with_reducible exact HDt1.out | with_reducible refine Below.drew ?_ | with_reducible refine bl_drewN ?_ _ | with_reducible refine bl_alloc ?_ _)) hb)
    clear hb HB1 HDt1
    go_wp2_with fail
    (try (go_quiet (fail); go_wp2_with fail))
    refine (sFac_is _ At _ ct ts ((HTt.out.below (by repeat (first | with_reducible exact HDt2.out | with_reducible refine Below.drew ?_ | with_reducible refine bl_drewN ?_ _ | with_reducible refine bl_alloc ?_ _) : Below w1.heap.size w1 _)).more (Below.size (by repeat (first | with_reducible exact HDt2.out | with_reducible refine Below.drew ?_ | with_reducible refine bl_drewN ?_ _ | with_reducible refine bl_alloc ?_ _) : Below w1.heap.size w1 _))) (by omega) 0 0 false hf0 hf).mono ?_
    rintro e w3 ⟨rfl, hb⟩
    have hs3 := hb.size
    have HB3 := Lib.hid (show Below w.heap.size w w3 from bl_trans (by repeat (first | with_reducible exact HB2.out | with_reducible refine bl_drewN ?_ _ | with_reducible refine Below.drew ?_ | with_reducible refine bl_alloc ?_ _)) hb)
    have bx3 := Lib.hid (show Blk w3 (w2.heap.size) 27 #[.int .i64 0, .int .i64 0] from Blk.below (by have hh := Blk.new w2 27 #[.int .i64 0, .int .i64 0]; (try simp only [World.size_alloc] at hh); repeat (first | exact hh | with_reducible refine Blk.drewN ?_ _ | with_reducible refine Blk.drew ?_ | with_reducible refine Blk.alloc ?_ _)) hb (by first | omega | (simp; done) | (simp; omega)))
    have HDt3 := Lib.hid (show Below w1.heap.size w1 w3 from bl_trans (by repeat (first | with_reducible exact HDt2.out | with_reducible refine Below.drew ?_ | with_reducible refine bl_drewN ?_ _ | with_reducible refine bl_alloc ?_ _)) hb)
    clear hb HB2 HDt2
    have hv := virt_no hf
    have cx := fun o0 => (bx3.out.alloc o0).cell
    go_wp2_with fail
    (try (go_quiet (fail); go_wp2_with fail))
    refine (iVirt_is _ At _ ct ts ((HTt.out.below (by repeat (first | with_reducible exact HDt3.out | with_reducible refine Below.drew ?_ | with_reducible refine bl_drewN ?_ _ | with_reducible refine bl_alloc ?_ _) : Below w1.heap.size w1 _)).more (Below.size (by repeat (first | with_reducible exact HDt3.out | with_reducible refine Below.drew ?_ | with_reducible refine bl_drewN ?_ _ | with_reducible refine bl_alloc ?_ _) : Below w1.heap.size w1 _))) (by omega) e0 (by repeat (first | exact HE.out.below HB3.out | refine EG.drewN ?_ _ | refine EG.drew ?_ | refine EG.alloc ?_ _)) false hv).mono ?_
    rintro e w4 ⟨rfl, hb⟩
    have hs4 := hb.size
    have HB4 := Lib.hid (show Below w.heap.size w w4 from bl_trans (by repeat (first | with_reducible exact HB3.out | with_reducible refine bl_drewN ?_ _ | with_reducible refine Below.drew ?_ | with_reducible refine bl_alloc ?_ _)) hb)
    have bx4 := Lib.hid (show Blk w4 (w2.heap.size) 27 #[.int .i64 0, .int .i64 0] from Blk.below (by repeat (first | with_reducible exact bx3.out | with_reducible refine Blk.drewN ?_ _ | with_reducible refine Blk.drew ?_ | with_reducible refine Blk.alloc ?_ _)) hb (by have := bx3.out.lt; first | omega | (simp; omega)))
    have bk4 := Lib.hid (show Blk w4 (w3.heap.size) 27 #[.int .i64 0, .int .i64 0] from Blk.below (by have hh := Blk.new w3 27 #[.int .i64 0, .int .i64 0]; (try simp only [World.size_alloc] at hh); repeat (first | exact hh | with_reducible refine Blk.drewN ?_ _ | with_reducible refine Blk.drew ?_ | with_reducible refine Blk.alloc ?_ _)) hb (by first | omega | (simp; done) | (simp; omega)))
    have HDt4 := Lib.hid (show Below w1.heap.size w1 w4 from bl_trans (by repeat (first | with_reducible exact HDt3.out | with_reducible refine Below.drew ?_ | with_reducible refine bl_drewN ?_ _ | with_reducible refine bl_alloc ?_ _)) hb)
    clear hb HB3 bx3 cx HDt3
    have cx := bx4.out.cell
    have ck := bk4.out.cell
    go_wp2
    (try (go_quiet (fail); go_wp2))
    go_ret
    exact ⟨rfl, by repeat (first | with_reducible exact HB4.out | refine bl_drewN ?_ _ | refine Below.drew ?_ | refine bl_alloc ?_ _ | refine bl_set ?_ (by dsimp only; omega) _)⟩
  have hs := imp_set (fac_imp hf)
  obtain ⟨X, Y, hXY⟩ : ∃ p q, facV ts = (p, q) := ⟨_, _, rfl⟩
  obtain ⟨p, q, hpq⟩ : ∃ p q, lowOf ts false = (p, q) := ⟨_, _, rfl⟩
  obtain ⟨u, v, huv⟩ : ∃ p q, lowOf ts true = (p, q) := ⟨_, _, rfl⟩
  obtain ⟨x, y, _, s1, s2, s3, e0', e1, e2, _, _⟩ := low_pack hs hpq huv
  obtain ⟨c1, c2⟩ := plus_comm (p : Int) q u v
  have HA := Lib.hid (And.intro (c2.symm.trans e1) (c1.symm.trans e2))
  have sh := (facV_sh hf).1
  have hle := fac_le hf
  have hone := fac_one hf
  rw [hXY] at sh hle hone
  rw [hpq, huv, e0'] at hone
  dsimp only at sh
  obtain ⟨z, hz⟩ : ∃ z, cmpS X Y 1 1 = z := ⟨_, rfl⟩
  have hd1 : decide (z ≤ 0) = true := by
    rw [decide_eq_true_iff, ← hz, show cmpS (X : Int) Y 1 1 = cmpN (X, Y) (1, 1) from cmp_sh sh one_sh]
    exact (cmp_le _ _).2 hle
  have HF := Lib.hid (And.intro hXY hf)
  have HV := Lib.hid (of_sh sh)
  have HP := Lib.hid hpq
  have HU := Lib.hid huv
  have HZ := Lib.hid hz
  clear hf hs hpq huv s1 s2 s3 e0' e1 e2 c1 c2 sh hle hz
  cases hp : plainV ts
  · have HPL := Lib.hid hp
    rw [hp] at hone
    simp only [Bool.false_eq_true, false_or] at hone
    clear hp hXY
    by_cases hx : (X, Y) = (1, 1)
    · have hl := hone.1 hx
      obtain ⟨rfl, rfl⟩ := Prod.mk.inj hx
      obtain ⟨rfl, rfl⟩ := Prod.mk.inj hl
      clear hone hx hl
      go_wp2_with fail
      (try (go_quiet (fail); go_wp2_with fail))
      refine (iFac_is _ At _ ct ts ((HTt.out.below (by repeat (first | with_reducible exact HDt1.out | with_reducible refine Below.drew ?_ | with_reducible refine bl_drewN ?_ _ | with_reducible refine bl_alloc ?_ _) : Below w1.heap.size w1 _)).more (Below.size (by repeat (first | with_reducible exact HDt1.out | with_reducible refine Below.drew ?_ | with_reducible refine bl_drewN ?_ _ | with_reducible refine bl_alloc ?_ _) : Below w1.heap.size w1 _))) (by omega) e0 (by repeat (first | exact HE.out.below HB1.out | refine EG.drewN ?_ _ | refine EG.drew ?_ | refine EG.alloc ?_ _)) 1 1 true HF.out.1 HF.out.2).mono ?_
      rintro e w2 ⟨rfl, hb⟩
      have hs2 := hb.size
      have HB2 := Lib.hid (show Below w.heap.size w w2 from bl_trans (by repeat (first | with_reducible exact HB1.out | with_reducible refine bl_drewN ?_ _ | with_reducible refine Below.drew ?_ | with_reducible refine bl_alloc ?_ _)) hb)
      have HDt2 := Lib.hid (show Below w1.heap.size w1 w2 from bl_trans (by repeat (first | with_reducible exact HDt1.out | with_reducible refine Below.drew ?_ | with_reducible refine bl_drewN ?_ _ | with_reducible refine bl_alloc ?_ _)) hb)
      clear hb HB1 HDt1
      go_wp2_with fail
      (try (go_quiet (fail); go_wp2_with fail))
      refine (sFac_is _ At _ ct ts ((HTt.out.below (by repeat (first | with_reducible exact HDt2.out | with_reducible refine Below.drew ?_ | with_reducible refine bl_drewN ?_ _ | with_reducible refine bl_alloc ?_ _) : Below w1.heap.size w1 _)).more (Below.size (by repeat (first | with_reducible exact HDt2.out | with_reducible refine Below.drew ?_ | with_reducible refine bl_drewN ?_ _ | with_reducible refine bl_alloc ?_ _) : Below w1.heap.size w1 _))) (by omega) 1 1 true HF.out.1 HF.out.2).mono ?_
      rintro e w3 ⟨rfl, hb⟩
      have hs3 := hb.size
      have HB3 := Lib.hid (show Below w.heap.size w w3 from bl_trans (by repeat (first | with_reducible exact HB2.out | with_reducible refine bl_drewN ?_ _ | with_reducible refine Below.drew ?_ | with_reducible refine bl_alloc ?_ _)) hb)
      have bx3 := Lib.hid (show Blk w3 (w2.heap.size) 27 #[.int .i64 (1 : Int), .int .i64 (1 : Int)] from Blk.below (by have hh := Blk.new w2 27 #[.int .i64 (1 : Int), .int .i64 (1 : Int)]; (try simp only [World.size_alloc] at hh); repeat (first | exact hh | with_reducible refine Blk.drewN ?_ _ | with_reducible refine Blk.drew ?_ | with_reducible refine Blk.alloc ?_ _)) hb (by first | omega | (simp; done) | (simp; omega)))
      have HDt3 := Lib.hid (show Below w1.heap.size w1 w3 from bl_trans (by repeat (first | with_reducible exact HDt2.out | with_reducible refine Below.drew ?_ | with_reducible refine bl_drewN ?_ _ | with_reducible refine bl_alloc ?_ _)) hb)
      clear hb HB2 HDt2
      have cx1 := fun o0 => (bx3.out.alloc o0).cell
      have cx := fun o0 o1 => ((bx3.out.alloc o0).alloc o1).cell
      go_wp2_with fail
      (try (go_quiet (fail); go_wp2_with fail))
      refine (iLow_is _ At _ ct ts true ((HTt.out.below (by repeat (first | with_reducible exact HDt3.out | with_reducible refine Below.drew ?_ | with_reducible refine bl_drewN ?_ _ | with_reducible refine bl_alloc ?_ _) : Below w1.heap.size w1 _)).more (Below.size (by repeat (first | with_reducible exact HDt3.out | with_reducible refine Below.drew ?_ | with_reducible refine bl_drewN ?_ _ | with_reducible refine bl_alloc ?_ _) : Below w1.heap.size w1 _))) (by omega) e0 (by repeat (first | exact HE.out.below HB3.out | refine EG.drewN ?_ _ | refine EG.drew ?_ | refine EG.alloc ?_ _)) u v HU.out).mono ?_
      rintro e w4 ⟨rfl, hb⟩
      have hs4 := hb.size
      have HB4 := Lib.hid (show Below w.heap.size w w4 from bl_trans (by repeat (first | with_reducible exact HB3.out | with_reducible refine bl_drewN ?_ _ | with_reducible refine Below.drew ?_ | with_reducible refine bl_alloc ?_ _)) hb)
      have bx4 := Lib.hid (show Blk w4 (w2.heap.size) 27 #[.int .i64 (1 : Int), .int .i64 (1 : Int)] from Blk.below (by repeat (first | with_reducible exact bx3.out | with_reducible refine Blk.drewN ?_ _ | with_reducible refine Blk.drew ?_ | with_reducible refine Blk.alloc ?_ _)) hb (by have := bx3.out.lt; first | omega | (simp; omega)))
      have bk4 := Lib.hid (show Blk w4 (w3.heap.size) 27 #[.int .i64 (1 : Int), .int .i64 (1 : Int)] from Blk.below (by have hh := Blk.new w3 27 #[.int .i64 (1 : Int), .int .i64 (1 : Int)]; (try simp only [World.size_alloc] at hh); repeat (first | exact hh | with_reducible refine Blk.drewN ?_ _ | with_reducible refine Blk.drew ?_ | with_reducible refine Blk.alloc ?_ _)) hb (by first | omega | (simp; done) | (simp; omega)))
      have bo4 := Lib.hid (show Blk w4 (w3.heap.size + 1) 27 #[.int .i64 1, .int .i64 1] from Blk.below (by have hh := Blk.new (w3.alloc (.cells #[.int .i64 (1 : Int), .int .i64 (1 : Int)] 27)) 27 #[.int .i64 1, .int .i64 1]; (try simp only [World.size_alloc] at hh); repeat (first | exact hh | with_reducible refine Blk.drewN ?_ _ | with_reducible refine Blk.drew ?_ | with_reducible refine Blk.alloc ?_ _)) hb (by first | omega | (simp; done) | (simp; omega)))
      have HDt4 := Lib.hid (show Below w1.heap.size w1 w4 from bl_trans (by repeat (first | with_reducible exact HDt3.out | with_reducible refine Below.drew ?_ | with_reducible refine bl_drewN ?_ _ | with_reducible refine bl_alloc ?_ _)) hb)
      clear hb HB3 bx3 cx HDt3
      have cx := bx4.out.cell
      have ck := bk4.out.cell
      have co := bo4.out.cell
      go_wp2_with fail
      (try (go_quiet (fail); go_wp2_with fail))
      refine (iLow_is _ At _ ct ts false ((HTt.out.below (by repeat (first | with_reducible exact HDt4.out | with_reducible refine Below.drew ?_ | with_reducible refine bl_drewN ?_ _ | with_reducible refine bl_alloc ?_ _) : Below w1.heap.size w1 _)).more (Below.size (by repeat (first | with_reducible exact HDt4.out | with_reducible refine Below.drew ?_ | with_reducible refine bl_drewN ?_ _ | with_reducible refine bl_alloc ?_ _) : Below w1.heap.size w1 _))) (by omega) e0 (by repeat (first | exact HE.out.below HB4.out | refine EG.drewN ?_ _ | refine EG.drew ?_ | refine EG.alloc ?_ _)) p q HP.out).mono ?_
      rintro e w5 ⟨rfl, hb⟩
      have hs5 := hb.size
      have HB5 := Lib.hid (show Below w.heap.size w w5 from bl_trans (by repeat (first | with_reducible exact HB4.out | with_reducible refine bl_drewN ?_ _ | with_reducible refine Below.drew ?_ | with_reducible refine bl_alloc ?_ _)) hb)
      have bx5 := Lib.hid (show Blk w5 (w2.heap.size) 27 #[.int .i64 (1 : Int), .int .i64 (1 : Int)] from Blk.below (by repeat (first | with_reducible exact bx4.out | with_reducible refine Blk.drewN ?_ _ | with_reducible refine Blk.drew ?_ | with_reducible refine Blk.alloc ?_ _)) hb (by have := bx4.out.lt; first | omega | (simp; omega)))
      have bk5 := Lib.hid (show Blk w5 (w3.heap.size) 27 #[.int .i64 (1 : Int), .int .i64 (1 : Int)] from Blk.below (by repeat (first | with_reducible exact bk4.out | with_reducible refine Blk.drewN ?_ _ | with_reducible refine Blk.drew ?_ | with_reducible refine Blk.alloc ?_ _)) hb (by have := bk4.out.lt; first | omega | (simp; omega)))
      have bo5 := Lib.hid (show Blk w5 (w3.heap.size + 1) 27 #[.int .i64 1, .int .i64 1] from Blk.below (by repeat (first | with_reducible exact bo4.out | with_reducible refine Blk.drewN ?_ _ | with_reducible refine Blk.drew ?_ | with_reducible refine Blk.alloc ?_ _)) hb (by have := bo4.out.lt; first | omega | (simp; omega)))
      have HDt5 := Lib.hid (show Below w1.heap.size w1 w5 from bl_trans (by repeat (first | with_reducible exact HDt4.out | with_reducible refine Below.drew ?_ | with_reducible refine bl_drewN ?_ _ | with_reducible refine bl_alloc ?_ _)) hb)
      clear hb HB4 bx4 bk4 bo4 cx ck co HDt4
      have cx := bx5.out.cell
      have ck := bk5.out.cell
      have co := bo5.out.cell
      go_wp2_with fail
      (try (go_quiet (fail); go_wp2_with fail))
      refine (iAdd_is _ e0 (by repeat (first | exact HE.out.below HB5.out | refine EG.drewN ?_ _ | refine EG.drew ?_ | refine EG.alloc ?_ _)) u v p q 1 1 true HA.out.1 HA.out.2).mono ?_
      rintro e w6 ⟨rfl, hb⟩
      have hs6 := hb.size
      have HB6 := Lib.hid (show Below w.heap.size w w6 from bl_trans (by repeat (first | with_reducible exact HB5.out | with_reducible refine bl_drewN ?_ _ | with_reducible refine Below.drew ?_ | with_reducible refine bl_alloc ?_ _)) hb)
      have bx6 := Lib.hid (show Blk w6 (w2.heap.size) 27 #[.int .i64 (1 : Int), .int .i64 (1 : Int)] from Blk.below (by repeat (first | with_reducible exact bx5.out | with_reducible refine Blk.drewN ?_ _ | with_reducible refine Blk.drew ?_ | with_reducible refine Blk.alloc ?_ _)) hb (by have := bx5.out.lt; first | omega | (simp; omega)))
      have bk6 := Lib.hid (show Blk w6 (w3.heap.size) 27 #[.int .i64 (1 : Int), .int .i64 (1 : Int)] from Blk.below (by repeat (first | with_reducible exact bk5.out | with_reducible refine Blk.drewN ?_ _ | with_reducible refine Blk.drew ?_ | with_reducible refine Blk.alloc ?_ _)) hb (by have := bk5.out.lt; first | omega | (simp; omega)))
      have bo6 := Lib.hid (show Blk w6 (w3.heap.size + 1) 27 #[.int .i64 1, .int .i64 1] from Blk.below (by repeat (first | with_reducible exact bo5.out | with_reducible refine Blk.drewN ?_ _ | with_reducible refine Blk.drew ?_ | with_reducible refine Blk.alloc ?_ _)) hb (by have := bo5.out.lt; first | omega | (simp; omega)))
      have HDt6 := Lib.hid (show Below w1.heap.size w1 w6 from bl_trans (by repeat (first | with_reducible exact HDt5.out | with_reducible refine Below.drew ?_ | with_reducible refine bl_drewN ?_ _ | with_reducible refine bl_alloc ?_ _)) hb)
      clear hb HB5 bx5 bk5 bo5 cx ck co HDt5
      have cx := fun o0 => (bx6.out.alloc o0).cell
      have ck := fun o0 => (bk6.out.alloc o0).cell
      have co := fun o0 => (bo6.out.alloc o0).cell
      have hS6 := And.intro (Blk.two (show Blk (w6.alloc (.cells #[.int .i64 (1 : Int), .int .i64 (1 : Int)] 27)) (w2.heap.size) 27 #[.int .i64 (1 : Int), .int .i64 (1 : Int)] from by repeat (first | with_reducible exact bx6.out | with_reducible refine Blk.alloc ?_ _))) (And.intro (Blk.two (show Blk (w6.alloc (.cells #[.int .i64 (1 : Int), .int .i64 (1 : Int)] 27)) (w3.heap.size + 1) 27 #[.int .i64 1, .int .i64 1] from by repeat (first | with_reducible exact bo6.out | with_reducible refine Blk.alloc ?_ _))) (Blk.two (show Blk (w6.alloc (.cells #[.int .i64 (1 : Int), .int .i64 (1 : Int)] 27)) (w6.heap.size) 27 #[.int .i64 (1 : Int), .int .i64 (1 : Int)] from by have hh := Blk.new w6 27 #[.int .i64 (1 : Int), .int .i64 (1 : Int)]; (try simp only [World.size_alloc] at hh); repeat (first | exact hh | with_reducible refine Blk.alloc ?_ _))))
      go_wp2_with fail
      first
      | (go_region_held3 (fun W => (W.cell? ⟨w2.heap.size, 0, none⟩ = some (.int .i64 (1 : Int)) ∧ W.cell? ⟨w2.heap.size, 1, none⟩ = some (.int .i64 (1 : Int))) ∧ (W.cell? ⟨w3.heap.size + 1, 0, none⟩ = some (.int .i64 1) ∧ W.cell? ⟨w3.heap.size + 1, 1, none⟩ = some (.int .i64 1)) ∧ (W.cell? ⟨w6.heap.size, 0, none⟩ = some (.int .i64 (1 : Int)) ∧ W.cell? ⟨w6.heap.size, 1, none⟩ = some (.int .i64 (1 : Int)))) (first | exact hS6 | exact hS7 | exact hS8 | exact hS9)
        ((first
          | (have uu := HB6; clear uu; go_at_call 27; refine (iShare_is _ 1 1 true HV.out).mono ?_; rintro e w7 ⟨rfl, hb⟩; have hs7 := hb.size; have HB7 := Lib.hid (show Below w.heap.size w w7 from bl_trans (by repeat (first | with_reducible exact HB6.out | with_reducible refine bl_drewN ?_ _ | with_reducible refine Below.drew ?_ | with_reducible refine bl_alloc ?_ _)) hb); have bx7 := Lib.hid (show Blk w7 (w2.heap.size) 27 #[.int .i64 (1 : Int), .int .i64 (1 : Int)] from Blk.below (by repeat (first | with_reducible exact bx6.out | with_reducible refine Blk.drewN ?_ _ | with_reducible refine Blk.drew ?_ | with_reducible refine Blk.alloc ?_ _)) hb (by have := bx6.out.lt; first | exact this | omega | (simp; omega))); have cx := bx7.out.cell; have bk7 := Lib.hid (show Blk w7 (w3.heap.size) 27 #[.int .i64 (1 : Int), .int .i64 (1 : Int)] from Blk.below (by repeat (first | with_reducible exact bk6.out | with_reducible refine Blk.drewN ?_ _ | with_reducible refine Blk.drew ?_ | with_reducible refine Blk.alloc ?_ _)) hb (by have := bk6.out.lt; first | exact this | omega | (simp; omega))); have ck := bk7.out.cell; have bo7 := Lib.hid (show Blk w7 (w3.heap.size + 1) 27 #[.int .i64 1, .int .i64 1] from Blk.below (by repeat (first | with_reducible exact bo6.out | with_reducible refine Blk.drewN ?_ _ | with_reducible refine Blk.drew ?_ | with_reducible refine Blk.alloc ?_ _)) hb (by have := bo6.out.lt; first | exact this | omega | (simp; omega))); have co := bo7.out.cell; have bl7 := Lib.hid (show Blk w7 (w6.heap.size) 27 #[.int .i64 (1 : Int), .int .i64 (1 : Int)] from Blk.below (by have hh := Blk.new w6 27 #[.int .i64 (1 : Int), .int .i64 (1 : Int)]; (try simp only [World.size_alloc] at hh); repeat (first | exact hh | with_reducible refine Blk.drewN ?_ _ | with_reducible refine Blk.drew ?_ | with_reducible refine Blk.alloc ?_ _)) hb (by first | omega | (simp; done) | (simp; omega))); have cl := bl7.out.cell; have HDt7 := Lib.hid (show Below w1.heap.size w1 w7 from bl_trans (by repeat (first | with_reducible exact HDt6.out | with_reducible refine Below.drew ?_ | with_reducible refine bl_drewN ?_ _ | with_reducible refine bl_alloc ?_ _)) hb); have hS7 := And.intro (Blk.two bx7.out) (And.intro (Blk.two bo7.out) (Blk.two bl7.out)); clear hb HB6)
          | (have uu := HB7; clear uu; go_at_call 21; refine (iCmp_is _ 1 1 1 1 z HZ.out).mono ?_; rintro e w8 ⟨rfl, hb⟩; have hs8 := hb.size; have HB8 := Lib.hid (show Below w.heap.size w w8 from bl_trans (by repeat (first | with_reducible exact HB7.out | with_reducible refine bl_drewN ?_ _ | with_reducible refine Below.drew ?_ | with_reducible refine bl_alloc ?_ _)) hb); have bx8 := Lib.hid (show Blk w8 (w2.heap.size) 27 #[.int .i64 (1 : Int), .int .i64 (1 : Int)] from Blk.below (by repeat (first | with_reducible exact bx7.out | with_reducible refine Blk.drewN ?_ _ | with_reducible refine Blk.drew ?_ | with_reducible refine Blk.alloc ?_ _)) hb (by have := bx7.out.lt; first | exact this | omega | (simp; omega))); have cx := bx8.out.cell; have bk8 := Lib.hid (show Blk w8 (w3.heap.size) 27 #[.int .i64 (1 : Int), .int .i64 (1 : Int)] from Blk.below (by repeat (first | with_reducible exact bk7.out | with_reducible refine Blk.drewN ?_ _ | with_reducible refine Blk.drew ?_ | with_reducible refine Blk.alloc ?_ _)) hb (by have := bk7.out.lt; first | exact this | omega | (simp; omega))); have ck := bk8.out.cell; have bo8 := Lib.hid (show Blk w8 (w3.heap.size + 1) 27 #[.int .i64 1, .int .i64 1] from Blk.below (by repeat (first | with_reducible exact bo7.out | with_reducible refine Blk.drewN ?_ _ | with_reducible refine Blk.drew ?_ | with_reducible refine Blk.alloc ?_ _)) hb (by have := bo7.out.lt; first | exact this | omega | (simp; omega))); have co := bo8.out.cell; have bl8 := Lib.hid (show Blk w8 (w6.heap.size) 27 #[.int .i64 (1 : Int), .int .i64 (1 : Int)] from Blk.below (by repeat (first | with_reducible exact bl7.out | with_reducible refine Blk.drewN ?_ _ | with_reducible refine Blk.drew ?_ | with_reducible refine Blk.alloc ?_ _)) hb (by have := bl7.out.lt; first | exact this | omega | (simp; omega))); have cl := bl8.out.cell; have HDt8 := Lib.hid (show Below w1.heap.size w1 w8 from bl_trans (by repeat (first | with_reducible exact HDt7.out | with_reducible refine Below.drew ?_ | with_reducible refine bl_drewN ?_ _ | with_reducible refine bl_alloc ?_ _)) hb); have hS8 := And.intro (Blk.two bx8.out) (And.intro (Blk.two bo8.out) (Blk.two bl8.out)); clear hb HB7)
          | (have uu := HB8; clear uu; go_at_call 18; refine (iPlain_is _ At _ ct ts ((HTt.out.below (by repeat (first | with_reducible exact HDt8.out | with_reducible refine Below.drew ?_ | with_reducible refine bl_drewN ?_ _ | with_reducible refine bl_alloc ?_ _) : Below w1.heap.size w1 _)).more (Below.size (by repeat (first | with_reducible exact HDt8.out | with_reducible refine Below.drew ?_ | with_reducible refine bl_drewN ?_ _ | with_reducible refine bl_alloc ?_ _) : Below w1.heap.size w1 _))) (by omega) e0 (by repeat (first | exact HE.out.below HB8.out | refine EG.drewN ?_ _ | refine EG.drew ?_ | refine EG.alloc ?_ _)) false HPL.out).mono ?_; rintro e w9 ⟨rfl, hb⟩; have hs9 := hb.size; have HB9 := Lib.hid (show Below w.heap.size w w9 from bl_trans (by repeat (first | with_reducible exact HB8.out | with_reducible refine bl_drewN ?_ _ | with_reducible refine Below.drew ?_ | with_reducible refine bl_alloc ?_ _)) hb); have bx9 := Lib.hid (show Blk w9 (w2.heap.size) 27 #[.int .i64 (1 : Int), .int .i64 (1 : Int)] from Blk.below (by repeat (first | with_reducible exact bx8.out | with_reducible refine Blk.drewN ?_ _ | with_reducible refine Blk.drew ?_ | with_reducible refine Blk.alloc ?_ _)) hb (by have := bx8.out.lt; first | exact this | omega | (simp; omega))); have cx := bx9.out.cell; have bk9 := Lib.hid (show Blk w9 (w3.heap.size) 27 #[.int .i64 (1 : Int), .int .i64 (1 : Int)] from Blk.below (by repeat (first | with_reducible exact bk8.out | with_reducible refine Blk.drewN ?_ _ | with_reducible refine Blk.drew ?_ | with_reducible refine Blk.alloc ?_ _)) hb (by have := bk8.out.lt; first | exact this | omega | (simp; omega))); have ck := bk9.out.cell; have bo9 := Lib.hid (show Blk w9 (w3.heap.size + 1) 27 #[.int .i64 1, .int .i64 1] from Blk.below (by repeat (first | with_reducible exact bo8.out | with_reducible refine Blk.drewN ?_ _ | with_reducible refine Blk.drew ?_ | with_reducible refine Blk.alloc ?_ _)) hb (by have := bo8.out.lt; first | exact this | omega | (simp; omega))); have co := bo9.out.cell; have bl9 := Lib.hid (show Blk w9 (w6.heap.size) 27 #[.int .i64 (1 : Int), .int .i64 (1 : Int)] from Blk.below (by repeat (first | with_reducible exact bl8.out | with_reducible refine Blk.drewN ?_ _ | with_reducible refine Blk.drew ?_ | with_reducible refine Blk.alloc ?_ _)) hb (by have := bl8.out.lt; first | exact this | omega | (simp; omega))); have cl := bl9.out.cell; have HDt9 := Lib.hid (show Below w1.heap.size w1 w9 from bl_trans (by repeat (first | with_reducible exact HDt8.out | with_reducible refine Below.drew ?_ | with_reducible refine bl_drewN ?_ _ | with_reducible refine bl_alloc ?_ _)) hb); have hS9 := And.intro (Blk.two bx9.out) (And.intro (Blk.two bo9.out) (Blk.two bl9.out)); clear hb HB8))))
      | fail "no region"
      have hkx9 := bx9.out.lt
      have hkk9 := bk9.out.lt
      have hko9 := bo9.out.lt
      have hkl9 := bl9.out.lt
      have cx := bx9.out.cell
      have ck := bk9.out.cell
      have co := bo9.out.cell
      have cl := bl9.out.cell
      go_wp2
      (try (go_quiet (fail); go_wp2))
      go_ret
      exact ⟨rfl, by repeat (first | with_reducible exact HB9.out | refine bl_drewN ?_ _ | refine Below.drew ?_ | refine bl_alloc ?_ _ | refine bl_set ?_ (by dsimp only; omega) _)⟩
    have hl : ¬ (x, y) = (1, 1) := fun e => hx (hone.2 e)
    clear hone
    by_cases hX : X = 1
    · skip
      have hY : ¬ Y = 1 := fun e => hx (by rw [hX, e])
      subst hX
      have h1 : ((Y : Int) == 1) = false := by rw [beq_eq_false_iff_ne]; omega
      have h1' : ¬ (Y : Int) = 1 := by omega
      clear hx hY
      by_cases hx2 : x = 1
      · skip
        have hY2 : ¬ y = 1 := fun e => hl (by rw [hx2, e])
        subst hx2
        have h2 : ((y : Int) == 1) = false := by rw [beq_eq_false_iff_ne]; omega
        have h2' : ¬ (y : Int) = 1 := by omega
        clear hl hY2
        go_wp2_with fail
        (try (go_quiet (fail); go_wp2_with fail))
        refine (iFac_is _ At _ ct ts ((HTt.out.below (by repeat (first | with_reducible exact HDt1.out | with_reducible refine Below.drew ?_ | with_reducible refine bl_drewN ?_ _ | with_reducible refine bl_alloc ?_ _) : Below w1.heap.size w1 _)).more (Below.size (by repeat (first | with_reducible exact HDt1.out | with_reducible refine Below.drew ?_ | with_reducible refine bl_drewN ?_ _ | with_reducible refine bl_alloc ?_ _) : Below w1.heap.size w1 _))) (by omega) e0 (by repeat (first | exact HE.out.below HB1.out | refine EG.drewN ?_ _ | refine EG.drew ?_ | refine EG.alloc ?_ _)) 1 Y true HF.out.1 HF.out.2).mono ?_
        rintro e w2 ⟨rfl, hb⟩
        have hs2 := hb.size
        have HB2 := Lib.hid (show Below w.heap.size w w2 from bl_trans (by repeat (first | with_reducible exact HB1.out | with_reducible refine bl_drewN ?_ _ | with_reducible refine Below.drew ?_ | with_reducible refine bl_alloc ?_ _)) hb)
        have HDt2 := Lib.hid (show Below w1.heap.size w1 w2 from bl_trans (by repeat (first | with_reducible exact HDt1.out | with_reducible refine Below.drew ?_ | with_reducible refine bl_drewN ?_ _ | with_reducible refine bl_alloc ?_ _)) hb)
        clear hb HB1 HDt1
        go_wp2_with fail
        (try (go_quiet (fail); go_wp2_with fail))
        refine (sFac_is _ At _ ct ts ((HTt.out.below (by repeat (first | with_reducible exact HDt2.out | with_reducible refine Below.drew ?_ | with_reducible refine bl_drewN ?_ _ | with_reducible refine bl_alloc ?_ _) : Below w1.heap.size w1 _)).more (Below.size (by repeat (first | with_reducible exact HDt2.out | with_reducible refine Below.drew ?_ | with_reducible refine bl_drewN ?_ _ | with_reducible refine bl_alloc ?_ _) : Below w1.heap.size w1 _))) (by omega) 1 Y true HF.out.1 HF.out.2).mono ?_
        rintro e w3 ⟨rfl, hb⟩
        have hs3 := hb.size
        have HB3 := Lib.hid (show Below w.heap.size w w3 from bl_trans (by repeat (first | with_reducible exact HB2.out | with_reducible refine bl_drewN ?_ _ | with_reducible refine Below.drew ?_ | with_reducible refine bl_alloc ?_ _)) hb)
        have bx3 := Lib.hid (show Blk w3 (w2.heap.size) 27 #[.int .i64 (1 : Int), .int .i64 (Y : Int)] from Blk.below (by have hh := Blk.new w2 27 #[.int .i64 (1 : Int), .int .i64 (Y : Int)]; (try simp only [World.size_alloc] at hh); repeat (first | exact hh | with_reducible refine Blk.drewN ?_ _ | with_reducible refine Blk.drew ?_ | with_reducible refine Blk.alloc ?_ _)) hb (by first | omega | (simp; done) | (simp; omega)))
        have HDt3 := Lib.hid (show Below w1.heap.size w1 w3 from bl_trans (by repeat (first | with_reducible exact HDt2.out | with_reducible refine Below.drew ?_ | with_reducible refine bl_drewN ?_ _ | with_reducible refine bl_alloc ?_ _)) hb)
        clear hb HB2 HDt2
        have cx1 := fun o0 => (bx3.out.alloc o0).cell
        have cx := fun o0 o1 => ((bx3.out.alloc o0).alloc o1).cell
        go_wp2_with fail
        (try (go_quiet (fail); go_wp2_with fail))
        refine (iLow_is _ At _ ct ts true ((HTt.out.below (by repeat (first | with_reducible exact HDt3.out | with_reducible refine Below.drew ?_ | with_reducible refine bl_drewN ?_ _ | with_reducible refine bl_alloc ?_ _) : Below w1.heap.size w1 _)).more (Below.size (by repeat (first | with_reducible exact HDt3.out | with_reducible refine Below.drew ?_ | with_reducible refine bl_drewN ?_ _ | with_reducible refine bl_alloc ?_ _) : Below w1.heap.size w1 _))) (by omega) e0 (by repeat (first | exact HE.out.below HB3.out | refine EG.drewN ?_ _ | refine EG.drew ?_ | refine EG.alloc ?_ _)) u v HU.out).mono ?_
        rintro e w4 ⟨rfl, hb⟩
        have hs4 := hb.size
        have HB4 := Lib.hid (show Below w.heap.size w w4 from bl_trans (by repeat (first | with_reducible exact HB3.out | with_reducible refine bl_drewN ?_ _ | with_reducible refine Below.drew ?_ | with_reducible refine bl_alloc ?_ _)) hb)
        have bx4 := Lib.hid (show Blk w4 (w2.heap.size) 27 #[.int .i64 (1 : Int), .int .i64 (Y : Int)] from Blk.below (by repeat (first | with_reducible exact bx3.out | with_reducible refine Blk.drewN ?_ _ | with_reducible refine Blk.drew ?_ | with_reducible refine Blk.alloc ?_ _)) hb (by have := bx3.out.lt; first | omega | (simp; omega)))
        have bk4 := Lib.hid (show Blk w4 (w3.heap.size) 27 #[.int .i64 (1 : Int), .int .i64 (Y : Int)] from Blk.below (by have hh := Blk.new w3 27 #[.int .i64 (1 : Int), .int .i64 (Y : Int)]; (try simp only [World.size_alloc] at hh); repeat (first | exact hh | with_reducible refine Blk.drewN ?_ _ | with_reducible refine Blk.drew ?_ | with_reducible refine Blk.alloc ?_ _)) hb (by first | omega | (simp; done) | (simp; omega)))
        have bo4 := Lib.hid (show Blk w4 (w3.heap.size + 1) 27 #[.int .i64 1, .int .i64 1] from Blk.below (by have hh := Blk.new (w3.alloc (.cells #[.int .i64 (1 : Int), .int .i64 (Y : Int)] 27)) 27 #[.int .i64 1, .int .i64 1]; (try simp only [World.size_alloc] at hh); repeat (first | exact hh | with_reducible refine Blk.drewN ?_ _ | with_reducible refine Blk.drew ?_ | with_reducible refine Blk.alloc ?_ _)) hb (by first | omega | (simp; done) | (simp; omega)))
        have HDt4 := Lib.hid (show Below w1.heap.size w1 w4 from bl_trans (by repeat (first | with_reducible exact HDt3.out | with_reducible refine Below.drew ?_ | with_reducible refine bl_drewN ?_ _ | with_reducible refine bl_alloc ?_ _)) hb)
        clear hb HB3 bx3 cx HDt3
        have cx := bx4.out.cell
        have ck := bk4.out.cell
        have co := bo4.out.cell
        go_wp2_with fail
        (try (go_quiet (fail); go_wp2_with fail))
        refine (iLow_is _ At _ ct ts false ((HTt.out.below (by repeat (first | with_reducible exact HDt4.out | with_reducible refine Below.drew ?_ | with_reducible refine bl_drewN ?_ _ | with_reducible refine bl_alloc ?_ _) : Below w1.heap.size w1 _)).more (Below.size (by repeat (first | with_reducible exact HDt4.out | with_reducible refine Below.drew ?_ | with_reducible refine bl_drewN ?_ _ | with_reducible refine bl_alloc ?_ _) : Below w1.heap.size w1 _))) (by omega) e0 (by repeat (first | exact HE.out.below HB4.out | refine EG.drewN ?_ _ | refine EG.drew ?_ | refine EG.alloc ?_ _)) p q HP.out).mono ?_
        rintro e w5 ⟨rfl, hb⟩
        have hs5 := hb.size
        have HB5 := Lib.hid (show Below w.heap.size w w5 from bl_trans (by repeat (first | with_reducible exact HB4.out | with_reducible refine bl_drewN ?_ _ | with_reducible refine Below.drew ?_ | with_reducible refine bl_alloc ?_ _)) hb)
        have bx5 := Lib.hid (show Blk w5 (w2.heap.size) 27 #[.int .i64 (1 : Int), .int .i64 (Y : Int)] from Blk.below (by repeat (first | with_reducible exact bx4.out | with_reducible refine Blk.drewN ?_ _ | with_reducible refine Blk.drew ?_ | with_reducible refine Blk.alloc ?_ _)) hb (by have := bx4.out.lt; first | omega | (simp; omega)))
        have bk5 := Lib.hid (show Blk w5 (w3.heap.size) 27 #[.int .i64 (1 : Int), .int .i64 (Y : Int)] from Blk.below (by repeat (first | with_reducible exact bk4.out | with_reducible refine Blk.drewN ?_ _ | with_reducible refine Blk.drew ?_ | with_reducible refine Blk.alloc ?_ _)) hb (by have := bk4.out.lt; first | omega | (simp; omega)))
        have bo5 := Lib.hid (show Blk w5 (w3.heap.size + 1) 27 #[.int .i64 1, .int .i64 1] from Blk.below (by repeat (first | with_reducible exact bo4.out | with_reducible refine Blk.drewN ?_ _ | with_reducible refine Blk.drew ?_ | with_reducible refine Blk.alloc ?_ _)) hb (by have := bo4.out.lt; first | omega | (simp; omega)))
        have HDt5 := Lib.hid (show Below w1.heap.size w1 w5 from bl_trans (by repeat (first | with_reducible exact HDt4.out | with_reducible refine Below.drew ?_ | with_reducible refine bl_drewN ?_ _ | with_reducible refine bl_alloc ?_ _)) hb)
        clear hb HB4 bx4 bk4 bo4 cx ck co HDt4
        have cx := bx5.out.cell
        have ck := bk5.out.cell
        have co := bo5.out.cell
        go_wp2_with fail
        (try (go_quiet (fail); go_wp2_with fail))
        refine (iAdd_is _ e0 (by repeat (first | exact HE.out.below HB5.out | refine EG.drewN ?_ _ | refine EG.drew ?_ | refine EG.alloc ?_ _)) u v p q 1 y true HA.out.1 HA.out.2).mono ?_
        rintro e w6 ⟨rfl, hb⟩
        have hs6 := hb.size
        have HB6 := Lib.hid (show Below w.heap.size w w6 from bl_trans (by repeat (first | with_reducible exact HB5.out | with_reducible refine bl_drewN ?_ _ | with_reducible refine Below.drew ?_ | with_reducible refine bl_alloc ?_ _)) hb)
        have bx6 := Lib.hid (show Blk w6 (w2.heap.size) 27 #[.int .i64 (1 : Int), .int .i64 (Y : Int)] from Blk.below (by repeat (first | with_reducible exact bx5.out | with_reducible refine Blk.drewN ?_ _ | with_reducible refine Blk.drew ?_ | with_reducible refine Blk.alloc ?_ _)) hb (by have := bx5.out.lt; first | omega | (simp; omega)))
        have bk6 := Lib.hid (show Blk w6 (w3.heap.size) 27 #[.int .i64 (1 : Int), .int .i64 (Y : Int)] from Blk.below (by repeat (first | with_reducible exact bk5.out | with_reducible refine Blk.drewN ?_ _ | with_reducible refine Blk.drew ?_ | with_reducible refine Blk.alloc ?_ _)) hb (by have := bk5.out.lt; first | omega | (simp; omega)))
        have bo6 := Lib.hid (show Blk w6 (w3.heap.size + 1) 27 #[.int .i64 1, .int .i64 1] from Blk.below (by repeat (first | with_reducible exact bo5.out | with_reducible refine Blk.drewN ?_ _ | with_reducible refine Blk.drew ?_ | with_reducible refine Blk.alloc ?_ _)) hb (by have := bo5.out.lt; first | omega | (simp; omega)))
        have HDt6 := Lib.hid (show Below w1.heap.size w1 w6 from bl_trans (by repeat (first | with_reducible exact HDt5.out | with_reducible refine Below.drew ?_ | with_reducible refine bl_drewN ?_ _ | with_reducible refine bl_alloc ?_ _)) hb)
        clear hb HB5 bx5 bk5 bo5 cx ck co HDt5
        have cx := fun o0 => (bx6.out.alloc o0).cell
        have ck := fun o0 => (bk6.out.alloc o0).cell
        have co := fun o0 => (bo6.out.alloc o0).cell
        have hS6 := And.intro (Blk.two (show Blk (w6.alloc (.cells #[.int .i64 (1 : Int), .int .i64 (y : Int)] 27)) (w2.heap.size) 27 #[.int .i64 (1 : Int), .int .i64 (Y : Int)] from by repeat (first | with_reducible exact bx6.out | with_reducible refine Blk.alloc ?_ _))) (And.intro (Blk.two (show Blk (w6.alloc (.cells #[.int .i64 (1 : Int), .int .i64 (y : Int)] 27)) (w3.heap.size + 1) 27 #[.int .i64 1, .int .i64 1] from by repeat (first | with_reducible exact bo6.out | with_reducible refine Blk.alloc ?_ _))) (Blk.two (show Blk (w6.alloc (.cells #[.int .i64 (1 : Int), .int .i64 (y : Int)] 27)) (w6.heap.size) 27 #[.int .i64 (1 : Int), .int .i64 (y : Int)] from by have hh := Blk.new w6 27 #[.int .i64 (1 : Int), .int .i64 (y : Int)]; (try simp only [World.size_alloc] at hh); repeat (first | exact hh | with_reducible refine Blk.alloc ?_ _))))
        go_wp2_with fail
        first
        | (go_region_held3 (fun W => (W.cell? ⟨w2.heap.size, 0, none⟩ = some (.int .i64 (1 : Int)) ∧ W.cell? ⟨w2.heap.size, 1, none⟩ = some (.int .i64 (Y : Int))) ∧ (W.cell? ⟨w3.heap.size + 1, 0, none⟩ = some (.int .i64 1) ∧ W.cell? ⟨w3.heap.size + 1, 1, none⟩ = some (.int .i64 1)) ∧ (W.cell? ⟨w6.heap.size, 0, none⟩ = some (.int .i64 (1 : Int)) ∧ W.cell? ⟨w6.heap.size, 1, none⟩ = some (.int .i64 (y : Int)))) (first | exact hS6 | exact hS7 | exact hS8 | exact hS9)
          ((first
            | (have uu := HB6; clear uu; go_at_call 27; refine (iShare_is _ 1 Y true HV.out).mono ?_; rintro e w7 ⟨rfl, hb⟩; have hs7 := hb.size; have HB7 := Lib.hid (show Below w.heap.size w w7 from bl_trans (by repeat (first | with_reducible exact HB6.out | with_reducible refine bl_drewN ?_ _ | with_reducible refine Below.drew ?_ | with_reducible refine bl_alloc ?_ _)) hb); have bx7 := Lib.hid (show Blk w7 (w2.heap.size) 27 #[.int .i64 (1 : Int), .int .i64 (Y : Int)] from Blk.below (by repeat (first | with_reducible exact bx6.out | with_reducible refine Blk.drewN ?_ _ | with_reducible refine Blk.drew ?_ | with_reducible refine Blk.alloc ?_ _)) hb (by have := bx6.out.lt; first | exact this | omega | (simp; omega))); have cx := bx7.out.cell; have bk7 := Lib.hid (show Blk w7 (w3.heap.size) 27 #[.int .i64 (1 : Int), .int .i64 (Y : Int)] from Blk.below (by repeat (first | with_reducible exact bk6.out | with_reducible refine Blk.drewN ?_ _ | with_reducible refine Blk.drew ?_ | with_reducible refine Blk.alloc ?_ _)) hb (by have := bk6.out.lt; first | exact this | omega | (simp; omega))); have ck := bk7.out.cell; have bo7 := Lib.hid (show Blk w7 (w3.heap.size + 1) 27 #[.int .i64 1, .int .i64 1] from Blk.below (by repeat (first | with_reducible exact bo6.out | with_reducible refine Blk.drewN ?_ _ | with_reducible refine Blk.drew ?_ | with_reducible refine Blk.alloc ?_ _)) hb (by have := bo6.out.lt; first | exact this | omega | (simp; omega))); have co := bo7.out.cell; have bl7 := Lib.hid (show Blk w7 (w6.heap.size) 27 #[.int .i64 (1 : Int), .int .i64 (y : Int)] from Blk.below (by have hh := Blk.new w6 27 #[.int .i64 (1 : Int), .int .i64 (y : Int)]; (try simp only [World.size_alloc] at hh); repeat (first | exact hh | with_reducible refine Blk.drewN ?_ _ | with_reducible refine Blk.drew ?_ | with_reducible refine Blk.alloc ?_ _)) hb (by first | omega | (simp; done) | (simp; omega))); have cl := bl7.out.cell; have HDt7 := Lib.hid (show Below w1.heap.size w1 w7 from bl_trans (by repeat (first | with_reducible exact HDt6.out | with_reducible refine Below.drew ?_ | with_reducible refine bl_drewN ?_ _ | with_reducible refine bl_alloc ?_ _)) hb); have hS7 := And.intro (Blk.two bx7.out) (And.intro (Blk.two bo7.out) (Blk.two bl7.out)); clear hb HB6)
            | (have uu := HB7; clear uu; go_at_call 21; refine (iCmp_is _ 1 Y 1 1 z HZ.out).mono ?_; rintro e w8 ⟨rfl, hb⟩; have hs8 := hb.size; have HB8 := Lib.hid (show Below w.heap.size w w8 from bl_trans (by repeat (first | with_reducible exact HB7.out | with_reducible refine bl_drewN ?_ _ | with_reducible refine Below.drew ?_ | with_reducible refine bl_alloc ?_ _)) hb); have bx8 := Lib.hid (show Blk w8 (w2.heap.size) 27 #[.int .i64 (1 : Int), .int .i64 (Y : Int)] from Blk.below (by repeat (first | with_reducible exact bx7.out | with_reducible refine Blk.drewN ?_ _ | with_reducible refine Blk.drew ?_ | with_reducible refine Blk.alloc ?_ _)) hb (by have := bx7.out.lt; first | exact this | omega | (simp; omega))); have cx := bx8.out.cell; have bk8 := Lib.hid (show Blk w8 (w3.heap.size) 27 #[.int .i64 (1 : Int), .int .i64 (Y : Int)] from Blk.below (by repeat (first | with_reducible exact bk7.out | with_reducible refine Blk.drewN ?_ _ | with_reducible refine Blk.drew ?_ | with_reducible refine Blk.alloc ?_ _)) hb (by have := bk7.out.lt; first | exact this | omega | (simp; omega))); have ck := bk8.out.cell; have bo8 := Lib.hid (show Blk w8 (w3.heap.size + 1) 27 #[.int .i64 1, .int .i64 1] from Blk.below (by repeat (first | with_reducible exact bo7.out | with_reducible refine Blk.drewN ?_ _ | with_reducible refine Blk.drew ?_ | with_reducible refine Blk.alloc ?_ _)) hb (by have := bo7.out.lt; first | exact this | omega | (simp; omega))); have co := bo8.out.cell; have bl8 := Lib.hid (show Blk w8 (w6.heap.size) 27 #[.int .i64 (1 : Int), .int .i64 (y : Int)] from Blk.below (by repeat (first | with_reducible exact bl7.out | with_reducible refine Blk.drewN ?_ _ | with_reducible refine Blk.drew ?_ | with_reducible refine Blk.alloc ?_ _)) hb (by have := bl7.out.lt; first | exact this | omega | (simp; omega))); have cl := bl8.out.cell; have HDt8 := Lib.hid (show Below w1.heap.size w1 w8 from bl_trans (by repeat (first | with_reducible exact HDt7.out | with_reducible refine Below.drew ?_ | with_reducible refine bl_drewN ?_ _ | with_reducible refine bl_alloc ?_ _)) hb); have hS8 := And.intro (Blk.two bx8.out) (And.intro (Blk.two bo8.out) (Blk.two bl8.out)); clear hb HB7)
            | (have uu := HB8; clear uu; go_at_call 18; refine (iPlain_is _ At _ ct ts ((HTt.out.below (by repeat (first | with_reducible exact HDt8.out | with_reducible refine Below.drew ?_ | with_reducible refine bl_drewN ?_ _ | with_reducible refine bl_alloc ?_ _) : Below w1.heap.size w1 _)).more (Below.size (by repeat (first | with_reducible exact HDt8.out | with_reducible refine Below.drew ?_ | with_reducible refine bl_drewN ?_ _ | with_reducible refine bl_alloc ?_ _) : Below w1.heap.size w1 _))) (by omega) e0 (by repeat (first | exact HE.out.below HB8.out | refine EG.drewN ?_ _ | refine EG.drew ?_ | refine EG.alloc ?_ _)) false HPL.out).mono ?_; rintro e w9 ⟨rfl, hb⟩; have hs9 := hb.size; have HB9 := Lib.hid (show Below w.heap.size w w9 from bl_trans (by repeat (first | with_reducible exact HB8.out | with_reducible refine bl_drewN ?_ _ | with_reducible refine Below.drew ?_ | with_reducible refine bl_alloc ?_ _)) hb); have bx9 := Lib.hid (show Blk w9 (w2.heap.size) 27 #[.int .i64 (1 : Int), .int .i64 (Y : Int)] from Blk.below (by repeat (first | with_reducible exact bx8.out | with_reducible refine Blk.drewN ?_ _ | with_reducible refine Blk.drew ?_ | with_reducible refine Blk.alloc ?_ _)) hb (by have := bx8.out.lt; first | exact this | omega | (simp; omega))); have cx := bx9.out.cell; have bk9 := Lib.hid (show Blk w9 (w3.heap.size) 27 #[.int .i64 (1 : Int), .int .i64 (Y : Int)] from Blk.below (by repeat (first | with_reducible exact bk8.out | with_reducible refine Blk.drewN ?_ _ | with_reducible refine Blk.drew ?_ | with_reducible refine Blk.alloc ?_ _)) hb (by have := bk8.out.lt; first | exact this | omega | (simp; omega))); have ck := bk9.out.cell; have bo9 := Lib.hid (show Blk w9 (w3.heap.size + 1) 27 #[.int .i64 1, .int .i64 1] from Blk.below (by repeat (first | with_reducible exact bo8.out | with_reducible refine Blk.drewN ?_ _ | with_reducible refine Blk.drew ?_ | with_reducible refine Blk.alloc ?_ _)) hb (by have := bo8.out.lt; first | exact this | omega | (simp; omega))); have co := bo9.out.cell; have bl9 := Lib.hid (show Blk w9 (w6.heap.size) 27 #[.int .i64 (1 : Int), .int .i64 (y : Int)] from Blk.below (by repeat (first | with_reducible exact bl8.out | with_reducible refine Blk.drewN ?_ _ | with_reducible refine Blk.drew ?_ | with_reducible refine Blk.alloc ?_ _)) hb (by have := bl8.out.lt; first | exact this | omega | (simp; omega))); have cl := bl9.out.cell; have HDt9 := Lib.hid (show Below w1.heap.size w1 w9 from bl_trans (by repeat (first | with_reducible exact HDt8.out | with_reducible refine Below.drew ?_ | with_reducible refine bl_drewN ?_ _ | with_reducible refine bl_alloc ?_ _)) hb); have hS9 := And.intro (Blk.two bx9.out) (And.intro (Blk.two bo9.out) (Blk.two bl9.out)); clear hb HB8))))
        | fail "no region"
        have hkx9 := bx9.out.lt
        have hkk9 := bk9.out.lt
        have hko9 := bo9.out.lt
        have hkl9 := bl9.out.lt
        have cx := bx9.out.cell
        have ck := bk9.out.cell
        have co := bo9.out.cell
        have cl := bl9.out.cell
        go_wp2
        (try (go_quiet (fail); go_wp2))
        go_ret
        exact ⟨rfl, by repeat (first | with_reducible exact HB9.out | refine bl_drewN ?_ _ | refine Below.drew ?_ | refine bl_alloc ?_ _ | refine bl_set ?_ (by dsimp only; omega) _)⟩
      · skip
        have h2 : ((x : Int) == 1) = false := by rw [beq_eq_false_iff_ne]; omega
        have h2' : ¬ (x : Int) = 1 := by omega
        clear hl hx2
        go_wp2_with fail
        (try (go_quiet (fail); go_wp2_with fail))
        refine (iFac_is _ At _ ct ts ((HTt.out.below (by repeat (first | with_reducible exact HDt1.out | with_reducible refine Below.drew ?_ | with_reducible refine bl_drewN ?_ _ | with_reducible refine bl_alloc ?_ _) : Below w1.heap.size w1 _)).more (Below.size (by repeat (first | with_reducible exact HDt1.out | with_reducible refine Below.drew ?_ | with_reducible refine bl_drewN ?_ _ | with_reducible refine bl_alloc ?_ _) : Below w1.heap.size w1 _))) (by omega) e0 (by repeat (first | exact HE.out.below HB1.out | refine EG.drewN ?_ _ | refine EG.drew ?_ | refine EG.alloc ?_ _)) 1 Y true HF.out.1 HF.out.2).mono ?_
        rintro e w2 ⟨rfl, hb⟩
        have hs2 := hb.size
        have HB2 := Lib.hid (show Below w.heap.size w w2 from bl_trans (by repeat (first | with_reducible exact HB1.out | with_reducible refine bl_drewN ?_ _ | with_reducible refine Below.drew ?_ | with_reducible refine bl_alloc ?_ _)) hb)
        have HDt2 := Lib.hid (show Below w1.heap.size w1 w2 from bl_trans (by repeat (first | with_reducible exact HDt1.out | with_reducible refine Below.drew ?_ | with_reducible refine bl_drewN ?_ _ | with_reducible refine bl_alloc ?_ _)) hb)
        clear hb HB1 HDt1
        go_wp2_with fail
        (try (go_quiet (fail); go_wp2_with fail))
        refine (sFac_is _ At _ ct ts ((HTt.out.below (by repeat (first | with_reducible exact HDt2.out | with_reducible refine Below.drew ?_ | with_reducible refine bl_drewN ?_ _ | with_reducible refine bl_alloc ?_ _) : Below w1.heap.size w1 _)).more (Below.size (by repeat (first | with_reducible exact HDt2.out | with_reducible refine Below.drew ?_ | with_reducible refine bl_drewN ?_ _ | with_reducible refine bl_alloc ?_ _) : Below w1.heap.size w1 _))) (by omega) 1 Y true HF.out.1 HF.out.2).mono ?_
        rintro e w3 ⟨rfl, hb⟩
        have hs3 := hb.size
        have HB3 := Lib.hid (show Below w.heap.size w w3 from bl_trans (by repeat (first | with_reducible exact HB2.out | with_reducible refine bl_drewN ?_ _ | with_reducible refine Below.drew ?_ | with_reducible refine bl_alloc ?_ _)) hb)
        have bx3 := Lib.hid (show Blk w3 (w2.heap.size) 27 #[.int .i64 (1 : Int), .int .i64 (Y : Int)] from Blk.below (by have hh := Blk.new w2 27 #[.int .i64 (1 : Int), .int .i64 (Y : Int)]; (try simp only [World.size_alloc] at hh); repeat (first | exact hh | with_reducible refine Blk.drewN ?_ _ | with_reducible refine Blk.drew ?_ | with_reducible refine Blk.alloc ?_ _)) hb (by first | omega | (simp; done) | (simp; omega)))
        have HDt3 := Lib.hid (show Below w1.heap.size w1 w3 from bl_trans (by repeat (first | with_reducible exact HDt2.out | with_reducible refine Below.drew ?_ | with_reducible refine bl_drewN ?_ _ | with_reducible refine bl_alloc ?_ _)) hb)
        clear hb HB2 HDt2
        have cx1 := fun o0 => (bx3.out.alloc o0).cell
        have cx := fun o0 o1 => ((bx3.out.alloc o0).alloc o1).cell
        go_wp2_with fail
        (try (go_quiet (fail); go_wp2_with fail))
        refine (iLow_is _ At _ ct ts true ((HTt.out.below (by repeat (first | with_reducible exact HDt3.out | with_reducible refine Below.drew ?_ | with_reducible refine bl_drewN ?_ _ | with_reducible refine bl_alloc ?_ _) : Below w1.heap.size w1 _)).more (Below.size (by repeat (first | with_reducible exact HDt3.out | with_reducible refine Below.drew ?_ | with_reducible refine bl_drewN ?_ _ | with_reducible refine bl_alloc ?_ _) : Below w1.heap.size w1 _))) (by omega) e0 (by repeat (first | exact HE.out.below HB3.out | refine EG.drewN ?_ _ | refine EG.drew ?_ | refine EG.alloc ?_ _)) u v HU.out).mono ?_
        rintro e w4 ⟨rfl, hb⟩
        have hs4 := hb.size
        have HB4 := Lib.hid (show Below w.heap.size w w4 from bl_trans (by repeat (first | with_reducible exact HB3.out | with_reducible refine bl_drewN ?_ _ | with_reducible refine Below.drew ?_ | with_reducible refine bl_alloc ?_ _)) hb)
        have bx4 := Lib.hid (show Blk w4 (w2.heap.size) 27 #[.int .i64 (1 : Int), .int .i64 (Y : Int)] from Blk.below (by repeat (first | with_reducible exact bx3.out | with_reducible refine Blk.drewN ?_ _ | with_reducible refine Blk.drew ?_ | with_reducible refine Blk.alloc ?_ _)) hb (by have := bx3.out.lt; first | omega | (simp; omega)))
        have bk4 := Lib.hid (show Blk w4 (w3.heap.size) 27 #[.int .i64 (1 : Int), .int .i64 (Y : Int)] from Blk.below (by have hh := Blk.new w3 27 #[.int .i64 (1 : Int), .int .i64 (Y : Int)]; (try simp only [World.size_alloc] at hh); repeat (first | exact hh | with_reducible refine Blk.drewN ?_ _ | with_reducible refine Blk.drew ?_ | with_reducible refine Blk.alloc ?_ _)) hb (by first | omega | (simp; done) | (simp; omega)))
        have bo4 := Lib.hid (show Blk w4 (w3.heap.size + 1) 27 #[.int .i64 1, .int .i64 1] from Blk.below (by have hh := Blk.new (w3.alloc (.cells #[.int .i64 (1 : Int), .int .i64 (Y : Int)] 27)) 27 #[.int .i64 1, .int .i64 1]; (try simp only [World.size_alloc] at hh); repeat (first | exact hh | with_reducible refine Blk.drewN ?_ _ | with_reducible refine Blk.drew ?_ | with_reducible refine Blk.alloc ?_ _)) hb (by first | omega | (simp; done) | (simp; omega)))
        have HDt4 := Lib.hid (show Below w1.heap.size w1 w4 from bl_trans (by repeat (first | with_reducible exact HDt3.out | with_reducible refine Below.drew ?_ | with_reducible refine bl_drewN ?_ _ | with_reducible refine bl_alloc ?_ _)) hb)
        clear hb HB3 bx3 cx HDt3
        have cx := bx4.out.cell
        have ck := bk4.out.cell
        have co := bo4.out.cell
        go_wp2_with fail
        (try (go_quiet (fail); go_wp2_with fail))
        refine (iLow_is _ At _ ct ts false ((HTt.out.below (by repeat (first | with_reducible exact HDt4.out | with_reducible refine Below.drew ?_ | with_reducible refine bl_drewN ?_ _ | with_reducible refine bl_alloc ?_ _) : Below w1.heap.size w1 _)).more (Below.size (by repeat (first | with_reducible exact HDt4.out | with_reducible refine Below.drew ?_ | with_reducible refine bl_drewN ?_ _ | with_reducible refine bl_alloc ?_ _) : Below w1.heap.size w1 _))) (by omega) e0 (by repeat (first | exact HE.out.below HB4.out | refine EG.drewN ?_ _ | refine EG.drew ?_ | refine EG.alloc ?_ _)) p q HP.out).mono ?_
        rintro e w5 ⟨rfl, hb⟩
        have hs5 := hb.size
        have HB5 := Lib.hid (show Below w.heap.size w w5 from bl_trans (by repeat (first | with_reducible exact HB4.out | with_reducible refine bl_drewN ?_ _ | with_reducible refine Below.drew ?_ | with_reducible refine bl_alloc ?_ _)) hb)
        have bx5 := Lib.hid (show Blk w5 (w2.heap.size) 27 #[.int .i64 (1 : Int), .int .i64 (Y : Int)] from Blk.below (by repeat (first | with_reducible exact bx4.out | with_reducible refine Blk.drewN ?_ _ | with_reducible refine Blk.drew ?_ | with_reducible refine Blk.alloc ?_ _)) hb (by have := bx4.out.lt; first | omega | (simp; omega)))
        have bk5 := Lib.hid (show Blk w5 (w3.heap.size) 27 #[.int .i64 (1 : Int), .int .i64 (Y : Int)] from Blk.below (by repeat (first | with_reducible exact bk4.out | with_reducible refine Blk.drewN ?_ _ | with_reducible refine Blk.drew ?_ | with_reducible refine Blk.alloc ?_ _)) hb (by have := bk4.out.lt; first | omega | (simp; omega)))
        have bo5 := Lib.hid (show Blk w5 (w3.heap.size + 1) 27 #[.int .i64 1, .int .i64 1] from Blk.below (by repeat (first | with_reducible exact bo4.out | with_reducible refine Blk.drewN ?_ _ | with_reducible refine Blk.drew ?_ | with_reducible refine Blk.alloc ?_ _)) hb (by have := bo4.out.lt; first | omega | (simp; omega)))
        have HDt5 := Lib.hid (show Below w1.heap.size w1 w5 from bl_trans (by repeat (first | with_reducible exact HDt4.out | with_reducible refine Below.drew ?_ | with_reducible refine bl_drewN ?_ _ | with_reducible refine bl_alloc ?_ _)) hb)
        clear hb HB4 bx4 bk4 bo4 cx ck co HDt4
        have cx := bx5.out.cell
        have ck := bk5.out.cell
        have co := bo5.out.cell
        go_wp2_with fail
        (try (go_quiet (fail); go_wp2_with fail))
        refine (iAdd_is _ e0 (by repeat (first | exact HE.out.below HB5.out | refine EG.drewN ?_ _ | refine EG.drew ?_ | refine EG.alloc ?_ _)) u v p q x y true HA.out.1 HA.out.2).mono ?_
        rintro e w6 ⟨rfl, hb⟩
        have hs6 := hb.size
        have HB6 := Lib.hid (show Below w.heap.size w w6 from bl_trans (by repeat (first | with_reducible exact HB5.out | with_reducible refine bl_drewN ?_ _ | with_reducible refine Below.drew ?_ | with_reducible refine bl_alloc ?_ _)) hb)
        have bx6 := Lib.hid (show Blk w6 (w2.heap.size) 27 #[.int .i64 (1 : Int), .int .i64 (Y : Int)] from Blk.below (by repeat (first | with_reducible exact bx5.out | with_reducible refine Blk.drewN ?_ _ | with_reducible refine Blk.drew ?_ | with_reducible refine Blk.alloc ?_ _)) hb (by have := bx5.out.lt; first | omega | (simp; omega)))
        have bk6 := Lib.hid (show Blk w6 (w3.heap.size) 27 #[.int .i64 (1 : Int), .int .i64 (Y : Int)] from Blk.below (by repeat (first | with_reducible exact bk5.out | with_reducible refine Blk.drewN ?_ _ | with_reducible refine Blk.drew ?_ | with_reducible refine Blk.alloc ?_ _)) hb (by have := bk5.out.lt; first | omega | (simp; omega)))
        have bo6 := Lib.hid (show Blk w6 (w3.heap.size + 1) 27 #[.int .i64 1, .int .i64 1] from Blk.below (by repeat (first | with_reducible exact bo5.out | with_reducible refine Blk.drewN ?_ _ | with_reducible refine Blk.drew ?_ | with_reducible refine Blk.alloc ?_ _)) hb (by have := bo5.out.lt; first | omega | (simp; omega)))
        have HDt6 := Lib.hid (show Below w1.heap.size w1 w6 from bl_trans (by repeat (first | with_reducible exact HDt5.out | with_reducible refine Below.drew ?_ | with_reducible refine bl_drewN ?_ _ | with_reducible refine bl_alloc ?_ _)) hb)
        clear hb HB5 bx5 bk5 bo5 cx ck co HDt5
        have cx := fun o0 => (bx6.out.alloc o0).cell
        have ck := fun o0 => (bk6.out.alloc o0).cell
        have co := fun o0 => (bo6.out.alloc o0).cell
        have hS6 := And.intro (Blk.two (show Blk (w6.alloc (.cells #[.int .i64 (x : Int), .int .i64 (y : Int)] 27)) (w2.heap.size) 27 #[.int .i64 (1 : Int), .int .i64 (Y : Int)] from by repeat (first | with_reducible exact bx6.out | with_reducible refine Blk.alloc ?_ _))) (And.intro (Blk.two (show Blk (w6.alloc (.cells #[.int .i64 (x : Int), .int .i64 (y : Int)] 27)) (w3.heap.size + 1) 27 #[.int .i64 1, .int .i64 1] from by repeat (first | with_reducible exact bo6.out | with_reducible refine Blk.alloc ?_ _))) (Blk.two (show Blk (w6.alloc (.cells #[.int .i64 (x : Int), .int .i64 (y : Int)] 27)) (w6.heap.size) 27 #[.int .i64 (x : Int), .int .i64 (y : Int)] from by have hh := Blk.new w6 27 #[.int .i64 (x : Int), .int .i64 (y : Int)]; (try simp only [World.size_alloc] at hh); repeat (first | exact hh | with_reducible refine Blk.alloc ?_ _))))
        go_wp2_with fail
        first
        | (go_region_held3 (fun W => (W.cell? ⟨w2.heap.size, 0, none⟩ = some (.int .i64 (1 : Int)) ∧ W.cell? ⟨w2.heap.size, 1, none⟩ = some (.int .i64 (Y : Int))) ∧ (W.cell? ⟨w3.heap.size + 1, 0, none⟩ = some (.int .i64 1) ∧ W.cell? ⟨w3.heap.size + 1, 1, none⟩ = some (.int .i64 1)) ∧ (W.cell? ⟨w6.heap.size, 0, none⟩ = some (.int .i64 (x : Int)) ∧ W.cell? ⟨w6.heap.size, 1, none⟩ = some (.int .i64 (y : Int)))) (first | exact hS6 | exact hS7 | exact hS8 | exact hS9)
          ((first
            | (have uu := HB6; clear uu; go_at_call 27; refine (iShare_is _ 1 Y true HV.out).mono ?_; rintro e w7 ⟨rfl, hb⟩; have hs7 := hb.size; have HB7 := Lib.hid (show Below w.heap.size w w7 from bl_trans (by repeat (first | with_reducible exact HB6.out | with_reducible refine bl_drewN ?_ _ | with_reducible refine Below.drew ?_ | with_reducible refine bl_alloc ?_ _)) hb); have bx7 := Lib.hid (show Blk w7 (w2.heap.size) 27 #[.int .i64 (1 : Int), .int .i64 (Y : Int)] from Blk.below (by repeat (first | with_reducible exact bx6.out | with_reducible refine Blk.drewN ?_ _ | with_reducible refine Blk.drew ?_ | with_reducible refine Blk.alloc ?_ _)) hb (by have := bx6.out.lt; first | exact this | omega | (simp; omega))); have cx := bx7.out.cell; have bk7 := Lib.hid (show Blk w7 (w3.heap.size) 27 #[.int .i64 (1 : Int), .int .i64 (Y : Int)] from Blk.below (by repeat (first | with_reducible exact bk6.out | with_reducible refine Blk.drewN ?_ _ | with_reducible refine Blk.drew ?_ | with_reducible refine Blk.alloc ?_ _)) hb (by have := bk6.out.lt; first | exact this | omega | (simp; omega))); have ck := bk7.out.cell; have bo7 := Lib.hid (show Blk w7 (w3.heap.size + 1) 27 #[.int .i64 1, .int .i64 1] from Blk.below (by repeat (first | with_reducible exact bo6.out | with_reducible refine Blk.drewN ?_ _ | with_reducible refine Blk.drew ?_ | with_reducible refine Blk.alloc ?_ _)) hb (by have := bo6.out.lt; first | exact this | omega | (simp; omega))); have co := bo7.out.cell; have bl7 := Lib.hid (show Blk w7 (w6.heap.size) 27 #[.int .i64 (x : Int), .int .i64 (y : Int)] from Blk.below (by have hh := Blk.new w6 27 #[.int .i64 (x : Int), .int .i64 (y : Int)]; (try simp only [World.size_alloc] at hh); repeat (first | exact hh | with_reducible refine Blk.drewN ?_ _ | with_reducible refine Blk.drew ?_ | with_reducible refine Blk.alloc ?_ _)) hb (by first | omega | (simp; done) | (simp; omega))); have cl := bl7.out.cell; have HDt7 := Lib.hid (show Below w1.heap.size w1 w7 from bl_trans (by repeat (first | with_reducible exact HDt6.out | with_reducible refine Below.drew ?_ | with_reducible refine bl_drewN ?_ _ | with_reducible refine bl_alloc ?_ _)) hb); have hS7 := And.intro (Blk.two bx7.out) (And.intro (Blk.two bo7.out) (Blk.two bl7.out)); clear hb HB6)
            | (have uu := HB7; clear uu; go_at_call 21; refine (iCmp_is _ 1 Y 1 1 z HZ.out).mono ?_; rintro e w8 ⟨rfl, hb⟩; have hs8 := hb.size; have HB8 := Lib.hid (show Below w.heap.size w w8 from bl_trans (by repeat (first | with_reducible exact HB7.out | with_reducible refine bl_drewN ?_ _ | with_reducible refine Below.drew ?_ | with_reducible refine bl_alloc ?_ _)) hb); have bx8 := Lib.hid (show Blk w8 (w2.heap.size) 27 #[.int .i64 (1 : Int), .int .i64 (Y : Int)] from Blk.below (by repeat (first | with_reducible exact bx7.out | with_reducible refine Blk.drewN ?_ _ | with_reducible refine Blk.drew ?_ | with_reducible refine Blk.alloc ?_ _)) hb (by have := bx7.out.lt; first | exact this | omega | (simp; omega))); have cx := bx8.out.cell; have bk8 := Lib.hid (show Blk w8 (w3.heap.size) 27 #[.int .i64 (1 : Int), .int .i64 (Y : Int)] from Blk.below (by repeat (first | with_reducible exact bk7.out | with_reducible refine Blk.drewN ?_ _ | with_reducible refine Blk.drew ?_ | with_reducible refine Blk.alloc ?_ _)) hb (by have := bk7.out.lt; first | exact this | omega | (simp; omega))); have ck := bk8.out.cell; have bo8 := Lib.hid (show Blk w8 (w3.heap.size + 1) 27 #[.int .i64 1, .int .i64 1] from Blk.below (by repeat (first | with_reducible exact bo7.out | with_reducible refine Blk.drewN ?_ _ | with_reducible refine Blk.drew ?_ | with_reducible refine Blk.alloc ?_ _)) hb (by have := bo7.out.lt; first | exact this | omega | (simp; omega))); have co := bo8.out.cell; have bl8 := Lib.hid (show Blk w8 (w6.heap.size) 27 #[.int .i64 (x : Int), .int .i64 (y : Int)] from Blk.below (by repeat (first | with_reducible exact bl7.out | with_reducible refine Blk.drewN ?_ _ | with_reducible refine Blk.drew ?_ | with_reducible refine Blk.alloc ?_ _)) hb (by have := bl7.out.lt; first | exact this | omega | (simp; omega))); have cl := bl8.out.cell; have HDt8 := Lib.hid (show Below w1.heap.size w1 w8 from bl_trans (by repeat (first | with_reducible exact HDt7.out | with_reducible refine Below.drew ?_ | with_reducible refine bl_drewN ?_ _ | with_reducible refine bl_alloc ?_ _)) hb); have hS8 := And.intro (Blk.two bx8.out) (And.intro (Blk.two bo8.out) (Blk.two bl8.out)); clear hb HB7)
            | (have uu := HB8; clear uu; go_at_call 18; refine (iPlain_is _ At _ ct ts ((HTt.out.below (by repeat (first | with_reducible exact HDt8.out | with_reducible refine Below.drew ?_ | with_reducible refine bl_drewN ?_ _ | with_reducible refine bl_alloc ?_ _) : Below w1.heap.size w1 _)).more (Below.size (by repeat (first | with_reducible exact HDt8.out | with_reducible refine Below.drew ?_ | with_reducible refine bl_drewN ?_ _ | with_reducible refine bl_alloc ?_ _) : Below w1.heap.size w1 _))) (by omega) e0 (by repeat (first | exact HE.out.below HB8.out | refine EG.drewN ?_ _ | refine EG.drew ?_ | refine EG.alloc ?_ _)) false HPL.out).mono ?_; rintro e w9 ⟨rfl, hb⟩; have hs9 := hb.size; have HB9 := Lib.hid (show Below w.heap.size w w9 from bl_trans (by repeat (first | with_reducible exact HB8.out | with_reducible refine bl_drewN ?_ _ | with_reducible refine Below.drew ?_ | with_reducible refine bl_alloc ?_ _)) hb); have bx9 := Lib.hid (show Blk w9 (w2.heap.size) 27 #[.int .i64 (1 : Int), .int .i64 (Y : Int)] from Blk.below (by repeat (first | with_reducible exact bx8.out | with_reducible refine Blk.drewN ?_ _ | with_reducible refine Blk.drew ?_ | with_reducible refine Blk.alloc ?_ _)) hb (by have := bx8.out.lt; first | exact this | omega | (simp; omega))); have cx := bx9.out.cell; have bk9 := Lib.hid (show Blk w9 (w3.heap.size) 27 #[.int .i64 (1 : Int), .int .i64 (Y : Int)] from Blk.below (by repeat (first | with_reducible exact bk8.out | with_reducible refine Blk.drewN ?_ _ | with_reducible refine Blk.drew ?_ | with_reducible refine Blk.alloc ?_ _)) hb (by have := bk8.out.lt; first | exact this | omega | (simp; omega))); have ck := bk9.out.cell; have bo9 := Lib.hid (show Blk w9 (w3.heap.size + 1) 27 #[.int .i64 1, .int .i64 1] from Blk.below (by repeat (first | with_reducible exact bo8.out | with_reducible refine Blk.drewN ?_ _ | with_reducible refine Blk.drew ?_ | with_reducible refine Blk.alloc ?_ _)) hb (by have := bo8.out.lt; first | exact this | omega | (simp; omega))); have co := bo9.out.cell; have bl9 := Lib.hid (show Blk w9 (w6.heap.size) 27 #[.int .i64 (x : Int), .int .i64 (y : Int)] from Blk.below (by repeat (first | with_reducible exact bl8.out | with_reducible refine Blk.drewN ?_ _ | with_reducible refine Blk.drew ?_ | with_reducible refine Blk.alloc ?_ _)) hb (by have := bl8.out.lt; first | exact this | omega | (simp; omega))); have cl := bl9.out.cell; have HDt9 := Lib.hid (show Below w1.heap.size w1 w9 from bl_trans (by repeat (first | with_reducible exact HDt8.out | with_reducible refine Below.drew ?_ | with_reducible refine bl_drewN ?_ _ | with_reducible refine bl_alloc ?_ _)) hb); have hS9 := And.intro (Blk.two bx9.out) (And.intro (Blk.two bo9.out) (Blk.two bl9.out)); clear hb HB8))))
        | fail "no region"
        have hkx9 := bx9.out.lt
        have hkk9 := bk9.out.lt
        have hko9 := bo9.out.lt
        have hkl9 := bl9.out.lt
        have cx := bx9.out.cell
        have ck := bk9.out.cell
        have co := bo9.out.cell
        have cl := bl9.out.cell
        go_wp2
        (try (go_quiet (fail); go_wp2))
        go_ret
        exact ⟨rfl, by repeat (first | with_reducible exact HB9.out | refine bl_drewN ?_ _ | refine Below.drew ?_ | refine bl_alloc ?_ _ | refine bl_set ?_ (by dsimp only; omega) _)⟩
    · skip
      have h1 : ((X : Int) == 1) = false := by rw [beq_eq_false_iff_ne]; omega
      have h1' : ¬ (X : Int) = 1 := by omega
      clear hx hX
      by_cases hx2 : x = 1
      · skip
        have hY2 : ¬ y = 1 := fun e => hl (by rw [hx2, e])
        subst hx2
        have h2 : ((y : Int) == 1) = false := by rw [beq_eq_false_iff_ne]; omega
        have h2' : ¬ (y : Int) = 1 := by omega
        clear hl hY2
        go_wp2_with fail
        (try (go_quiet (fail); go_wp2_with fail))
        refine (iFac_is _ At _ ct ts ((HTt.out.below (by repeat (first | with_reducible exact HDt1.out | with_reducible refine Below.drew ?_ | with_reducible refine bl_drewN ?_ _ | with_reducible refine bl_alloc ?_ _) : Below w1.heap.size w1 _)).more (Below.size (by repeat (first | with_reducible exact HDt1.out | with_reducible refine Below.drew ?_ | with_reducible refine bl_drewN ?_ _ | with_reducible refine bl_alloc ?_ _) : Below w1.heap.size w1 _))) (by omega) e0 (by repeat (first | exact HE.out.below HB1.out | refine EG.drewN ?_ _ | refine EG.drew ?_ | refine EG.alloc ?_ _)) X Y true HF.out.1 HF.out.2).mono ?_
        rintro e w2 ⟨rfl, hb⟩
        have hs2 := hb.size
        have HB2 := Lib.hid (show Below w.heap.size w w2 from bl_trans (by repeat (first | with_reducible exact HB1.out | with_reducible refine bl_drewN ?_ _ | with_reducible refine Below.drew ?_ | with_reducible refine bl_alloc ?_ _)) hb)
        have HDt2 := Lib.hid (show Below w1.heap.size w1 w2 from bl_trans (by repeat (first | with_reducible exact HDt1.out | with_reducible refine Below.drew ?_ | with_reducible refine bl_drewN ?_ _ | with_reducible refine bl_alloc ?_ _)) hb)
        clear hb HB1 HDt1
        go_wp2_with fail
        (try (go_quiet (fail); go_wp2_with fail))
        refine (sFac_is _ At _ ct ts ((HTt.out.below (by repeat (first | with_reducible exact HDt2.out | with_reducible refine Below.drew ?_ | with_reducible refine bl_drewN ?_ _ | with_reducible refine bl_alloc ?_ _) : Below w1.heap.size w1 _)).more (Below.size (by repeat (first | with_reducible exact HDt2.out | with_reducible refine Below.drew ?_ | with_reducible refine bl_drewN ?_ _ | with_reducible refine bl_alloc ?_ _) : Below w1.heap.size w1 _))) (by omega) X Y true HF.out.1 HF.out.2).mono ?_
        rintro e w3 ⟨rfl, hb⟩
        have hs3 := hb.size
        have HB3 := Lib.hid (show Below w.heap.size w w3 from bl_trans (by repeat (first | with_reducible exact HB2.out | with_reducible refine bl_drewN ?_ _ | with_reducible refine Below.drew ?_ | with_reducible refine bl_alloc ?_ _)) hb)
        have bx3 := Lib.hid (show Blk w3 (w2.heap.size) 27 #[.int .i64 (X : Int), .int .i64 (Y : Int)] from Blk.below (by have hh := Blk.new w2 27 #[.int .i64 (X : Int), .int .i64 (Y : Int)]; (try simp only [World.size_alloc] at hh); repeat (first | exact hh | with_reducible refine Blk.drewN ?_ _ | with_reducible refine Blk.drew ?_ | with_reducible refine Blk.alloc ?_ _)) hb (by first | omega | (simp; done) | (simp; omega)))
        have HDt3 := Lib.hid (show Below w1.heap.size w1 w3 from bl_trans (by repeat (first | with_reducible exact HDt2.out | with_reducible refine Below.drew ?_ | with_reducible refine bl_drewN ?_ _ | with_reducible refine bl_alloc ?_ _)) hb)
        clear hb HB2 HDt2
        have cx1 := fun o0 => (bx3.out.alloc o0).cell
        have cx := fun o0 o1 => ((bx3.out.alloc o0).alloc o1).cell
        go_wp2_with fail
        (try (go_quiet (fail); go_wp2_with fail))
        refine (iLow_is _ At _ ct ts true ((HTt.out.below (by repeat (first | with_reducible exact HDt3.out | with_reducible refine Below.drew ?_ | with_reducible refine bl_drewN ?_ _ | with_reducible refine bl_alloc ?_ _) : Below w1.heap.size w1 _)).more (Below.size (by repeat (first | with_reducible exact HDt3.out | with_reducible refine Below.drew ?_ | with_reducible refine bl_drewN ?_ _ | with_reducible refine bl_alloc ?_ _) : Below w1.heap.size w1 _))) (by omega) e0 (by repeat (first | exact HE.out.below HB3.out | refine EG.drewN ?_ _ | refine EG.drew ?_ | refine EG.alloc ?_ _)) u v HU.out).mono ?_
        rintro e w4 ⟨rfl, hb⟩
        have hs4 := hb.size
        have HB4 := Lib.hid (show Below w.heap.size w w4 from bl_trans (by repeat (first | with_reducible exact HB3.out | with_reducible refine bl_drewN ?_ _ | with_reducible refine Below.drew ?_ | with_reducible refine bl_alloc ?_ _)) hb)
        have bx4 := Lib.hid (show Blk w4 (w2.heap.size) 27 #[.int .i64 (X : Int), .int .i64 (Y : Int)] from Blk.below (by repeat (first | with_reducible exact bx3.out | with_reducible refine Blk.drewN ?_ _ | with_reducible refine Blk.drew ?_ | with_reducible refine Blk.alloc ?_ _)) hb (by have := bx3.out.lt; first | omega | (simp; omega)))
        have bk4 := Lib.hid (show Blk w4 (w3.heap.size) 27 #[.int .i64 (X : Int), .int .i64 (Y : Int)] from Blk.below (by have hh := Blk.new w3 27 #[.int .i64 (X : Int), .int .i64 (Y : Int)]; (try simp only [World.size_alloc] at hh); repeat (first | exact hh | with_reducible refine Blk.drewN ?_ _ | with_reducible refine Blk.drew ?_ | with_reducible refine Blk.alloc ?_ _)) hb (by first | omega | (simp; done) | (simp; omega)))
        have bo4 := Lib.hid (show Blk w4 (w3.heap.size + 1) 27 #[.int .i64 1, .int .i64 1] from Blk.below (by have hh := Blk.new (w3.alloc (.cells #[.int .i64 (X : Int), .int .i64 (Y : Int)] 27)) 27 #[.int .i64 1, .int .i64 1]; (try simp only [World.size_alloc] at hh); repeat (first | exact hh | with_reducible refine Blk.drewN ?_ _ | with_reducible refine Blk.drew ?_ | with_reducible refine Blk.alloc ?_ _)) hb (by first | omega | (simp; done) | (simp; omega)))
        have HDt4 := Lib.hid (show Below w1.heap.size w1 w4 from bl_trans (by repeat (first | with_reducible exact HDt3.out | with_reducible refine Below.drew ?_ | with_reducible refine bl_drewN ?_ _ | with_reducible refine bl_alloc ?_ _)) hb)
        clear hb HB3 bx3 cx HDt3
        have cx := bx4.out.cell
        have ck := bk4.out.cell
        have co := bo4.out.cell
        go_wp2_with fail
        (try (go_quiet (fail); go_wp2_with fail))
        refine (iLow_is _ At _ ct ts false ((HTt.out.below (by repeat (first | with_reducible exact HDt4.out | with_reducible refine Below.drew ?_ | with_reducible refine bl_drewN ?_ _ | with_reducible refine bl_alloc ?_ _) : Below w1.heap.size w1 _)).more (Below.size (by repeat (first | with_reducible exact HDt4.out | with_reducible refine Below.drew ?_ | with_reducible refine bl_drewN ?_ _ | with_reducible refine bl_alloc ?_ _) : Below w1.heap.size w1 _))) (by omega) e0 (by repeat (first | exact HE.out.below HB4.out | refine EG.drewN ?_ _ | refine EG.drew ?_ | refine EG.alloc ?_ _)) p q HP.out).mono ?_
        rintro e w5 ⟨rfl, hb⟩
        have hs5 := hb.size
        have HB5 := Lib.hid (show Below w.heap.size w w5 from bl_trans (by repeat (first | with_reducible exact HB4.out | with_reducible refine bl_drewN ?_ _ | with_reducible refine Below.drew ?_ | with_reducible refine bl_alloc ?_ _)) hb)
        have bx5 := Lib.hid (show Blk w5 (w2.heap.size) 27 #[.int .i64 (X : Int), .int .i64 (Y : Int)] from Blk.below (by repeat (first | with_reducible exact bx4.out | with_reducible refine Blk.drewN ?_ _ | with_reducible refine Blk.drew ?_ | with_reducible refine Blk.alloc ?_ _)) hb (by have := bx4.out.lt; first | omega | (simp; omega)))
        have bk5 := Lib.hid (show Blk w5 (w3.heap.size) 27 #[.int .i64 (X : Int), .int .i64 (Y : Int)] from Blk.below (by repeat (first | with_reducible exact bk4.out | with_reducible refine Blk.drewN ?_ _ | with_reducible refine Blk.drew ?_ | with_reducible refine Blk.alloc ?_ _)) hb (by have := bk4.out.lt; first | omega | (simp; omega)))
        have bo5 := Lib.hid (show Blk w5 (w3.heap.size + 1) 27 #[.int .i64 1, .int .i64 1] from Blk.below (by repeat (first | with_reducible exact bo4.out | with_reducible refine Blk.drewN ?_ _ | with_reducible refine Blk.drew ?_ | with_reducible refine Blk.alloc ?_ _)) hb (by have := bo4.out.lt; first | omega | (simp; omega)))
        have HDt5 := Lib.hid (show Below w1.heap.size w1 w5 from bl_trans (by repeat (first | with_reducible exact HDt4.out | with_reducible refine Below.drew ?_ | with_reducible refine bl_drewN ?_ _ | with_reducible refine bl_alloc ?_ _)) hb)
        clear hb HB4 bx4 bk4 bo4 cx ck co HDt4
        have cx := bx5.out.cell
        have ck := bk5.out.cell
        have co := bo5.out.cell
        go_wp2_with fail
        (try (go_quiet (fail); go_wp2_with fail))
        refine (iAdd_is _ e0 (by repeat (first | exact HE.out.below HB5.out | refine EG.drewN ?_ _ | refine EG.drew ?_ | refine EG.alloc ?_ _)) u v p q 1 y true HA.out.1 HA.out.2).mono ?_
        rintro e w6 ⟨rfl, hb⟩
        have hs6 := hb.size
        have HB6 := Lib.hid (show Below w.heap.size w w6 from bl_trans (by repeat (first | with_reducible exact HB5.out | with_reducible refine bl_drewN ?_ _ | with_reducible refine Below.drew ?_ | with_reducible refine bl_alloc ?_ _)) hb)
        have bx6 := Lib.hid (show Blk w6 (w2.heap.size) 27 #[.int .i64 (X : Int), .int .i64 (Y : Int)] from Blk.below (by repeat (first | with_reducible exact bx5.out | with_reducible refine Blk.drewN ?_ _ | with_reducible refine Blk.drew ?_ | with_reducible refine Blk.alloc ?_ _)) hb (by have := bx5.out.lt; first | omega | (simp; omega)))
        have bk6 := Lib.hid (show Blk w6 (w3.heap.size) 27 #[.int .i64 (X : Int), .int .i64 (Y : Int)] from Blk.below (by repeat (first | with_reducible exact bk5.out | with_reducible refine Blk.drewN ?_ _ | with_reducible refine Blk.drew ?_ | with_reducible refine Blk.alloc ?_ _)) hb (by have := bk5.out.lt; first | omega | (simp; omega)))
        have bo6 := Lib.hid (show Blk w6 (w3.heap.size + 1) 27 #[.int .i64 1, .int .i64 1] from Blk.below (by repeat (first | with_reducible exact bo5.out | with_reducible refine Blk.drewN ?_ _ | with_reducible refine Blk.drew ?_ | with_reducible refine Blk.alloc ?_ _)) hb (by have := bo5.out.lt; first | omega | (simp; omega)))
        have HDt6 := Lib.hid (show Below w1.heap.size w1 w6 from bl_trans (by repeat (first | with_reducible exact HDt5.out | with_reducible refine Below.drew ?_ | with_reducible refine bl_drewN ?_ _ | with_reducible refine bl_alloc ?_ _)) hb)
        clear hb HB5 bx5 bk5 bo5 cx ck co HDt5
        have cx := fun o0 => (bx6.out.alloc o0).cell
        have ck := fun o0 => (bk6.out.alloc o0).cell
        have co := fun o0 => (bo6.out.alloc o0).cell
        have hS6 := And.intro (Blk.two (show Blk (w6.alloc (.cells #[.int .i64 (1 : Int), .int .i64 (y : Int)] 27)) (w2.heap.size) 27 #[.int .i64 (X : Int), .int .i64 (Y : Int)] from by repeat (first | with_reducible exact bx6.out | with_reducible refine Blk.alloc ?_ _))) (And.intro (Blk.two (show Blk (w6.alloc (.cells #[.int .i64 (1 : Int), .int .i64 (y : Int)] 27)) (w3.heap.size + 1) 27 #[.int .i64 1, .int .i64 1] from by repeat (first | with_reducible exact bo6.out | with_reducible refine Blk.alloc ?_ _))) (Blk.two (show Blk (w6.alloc (.cells #[.int .i64 (1 : Int), .int .i64 (y : Int)] 27)) (w6.heap.size) 27 #[.int .i64 (1 : Int), .int .i64 (y : Int)] from by have hh := Blk.new w6 27 #[.int .i64 (1 : Int), .int .i64 (y : Int)]; (try simp only [World.size_alloc] at hh); repeat (first | exact hh | with_reducible refine Blk.alloc ?_ _))))
        go_wp2_with fail
        first
        | (go_region_held3 (fun W => (W.cell? ⟨w2.heap.size, 0, none⟩ = some (.int .i64 (X : Int)) ∧ W.cell? ⟨w2.heap.size, 1, none⟩ = some (.int .i64 (Y : Int))) ∧ (W.cell? ⟨w3.heap.size + 1, 0, none⟩ = some (.int .i64 1) ∧ W.cell? ⟨w3.heap.size + 1, 1, none⟩ = some (.int .i64 1)) ∧ (W.cell? ⟨w6.heap.size, 0, none⟩ = some (.int .i64 (1 : Int)) ∧ W.cell? ⟨w6.heap.size, 1, none⟩ = some (.int .i64 (y : Int)))) (first | exact hS6 | exact hS7 | exact hS8 | exact hS9)
          ((first
            | (have uu := HB6; clear uu; go_at_call 27; refine (iShare_is _ X Y true HV.out).mono ?_; rintro e w7 ⟨rfl, hb⟩; have hs7 := hb.size; have HB7 := Lib.hid (show Below w.heap.size w w7 from bl_trans (by repeat (first | with_reducible exact HB6.out | with_reducible refine bl_drewN ?_ _ | with_reducible refine Below.drew ?_ | with_reducible refine bl_alloc ?_ _)) hb); have bx7 := Lib.hid (show Blk w7 (w2.heap.size) 27 #[.int .i64 (X : Int), .int .i64 (Y : Int)] from Blk.below (by repeat (first | with_reducible exact bx6.out | with_reducible refine Blk.drewN ?_ _ | with_reducible refine Blk.drew ?_ | with_reducible refine Blk.alloc ?_ _)) hb (by have := bx6.out.lt; first | exact this | omega | (simp; omega))); have cx := bx7.out.cell; have bk7 := Lib.hid (show Blk w7 (w3.heap.size) 27 #[.int .i64 (X : Int), .int .i64 (Y : Int)] from Blk.below (by repeat (first | with_reducible exact bk6.out | with_reducible refine Blk.drewN ?_ _ | with_reducible refine Blk.drew ?_ | with_reducible refine Blk.alloc ?_ _)) hb (by have := bk6.out.lt; first | exact this | omega | (simp; omega))); have ck := bk7.out.cell; have bo7 := Lib.hid (show Blk w7 (w3.heap.size + 1) 27 #[.int .i64 1, .int .i64 1] from Blk.below (by repeat (first | with_reducible exact bo6.out | with_reducible refine Blk.drewN ?_ _ | with_reducible refine Blk.drew ?_ | with_reducible refine Blk.alloc ?_ _)) hb (by have := bo6.out.lt; first | exact this | omega | (simp; omega))); have co := bo7.out.cell; have bl7 := Lib.hid (show Blk w7 (w6.heap.size) 27 #[.int .i64 (1 : Int), .int .i64 (y : Int)] from Blk.below (by have hh := Blk.new w6 27 #[.int .i64 (1 : Int), .int .i64 (y : Int)]; (try simp only [World.size_alloc] at hh); repeat (first | exact hh | with_reducible refine Blk.drewN ?_ _ | with_reducible refine Blk.drew ?_ | with_reducible refine Blk.alloc ?_ _)) hb (by first | omega | (simp; done) | (simp; omega))); have cl := bl7.out.cell; have HDt7 := Lib.hid (show Below w1.heap.size w1 w7 from bl_trans (by repeat (first | with_reducible exact HDt6.out | with_reducible refine Below.drew ?_ | with_reducible refine bl_drewN ?_ _ | with_reducible refine bl_alloc ?_ _)) hb); have hS7 := And.intro (Blk.two bx7.out) (And.intro (Blk.two bo7.out) (Blk.two bl7.out)); clear hb HB6)
            | (have uu := HB7; clear uu; go_at_call 21; refine (iCmp_is _ X Y 1 1 z HZ.out).mono ?_; rintro e w8 ⟨rfl, hb⟩; have hs8 := hb.size; have HB8 := Lib.hid (show Below w.heap.size w w8 from bl_trans (by repeat (first | with_reducible exact HB7.out | with_reducible refine bl_drewN ?_ _ | with_reducible refine Below.drew ?_ | with_reducible refine bl_alloc ?_ _)) hb); have bx8 := Lib.hid (show Blk w8 (w2.heap.size) 27 #[.int .i64 (X : Int), .int .i64 (Y : Int)] from Blk.below (by repeat (first | with_reducible exact bx7.out | with_reducible refine Blk.drewN ?_ _ | with_reducible refine Blk.drew ?_ | with_reducible refine Blk.alloc ?_ _)) hb (by have := bx7.out.lt; first | exact this | omega | (simp; omega))); have cx := bx8.out.cell; have bk8 := Lib.hid (show Blk w8 (w3.heap.size) 27 #[.int .i64 (X : Int), .int .i64 (Y : Int)] from Blk.below (by repeat (first | with_reducible exact bk7.out | with_reducible refine Blk.drewN ?_ _ | with_reducible refine Blk.drew ?_ | with_reducible refine Blk.alloc ?_ _)) hb (by have := bk7.out.lt; first | exact this | omega | (simp; omega))); have ck := bk8.out.cell; have bo8 := Lib.hid (show Blk w8 (w3.heap.size + 1) 27 #[.int .i64 1, .int .i64 1] from Blk.below (by repeat (first | with_reducible exact bo7.out | with_reducible refine Blk.drewN ?_ _ | with_reducible refine Blk.drew ?_ | with_reducible refine Blk.alloc ?_ _)) hb (by have := bo7.out.lt; first | exact this | omega | (simp; omega))); have co := bo8.out.cell; have bl8 := Lib.hid (show Blk w8 (w6.heap.size) 27 #[.int .i64 (1 : Int), .int .i64 (y : Int)] from Blk.below (by repeat (first | with_reducible exact bl7.out | with_reducible refine Blk.drewN ?_ _ | with_reducible refine Blk.drew ?_ | with_reducible refine Blk.alloc ?_ _)) hb (by have := bl7.out.lt; first | exact this | omega | (simp; omega))); have cl := bl8.out.cell; have HDt8 := Lib.hid (show Below w1.heap.size w1 w8 from bl_trans (by repeat (first | with_reducible exact HDt7.out | with_reducible refine Below.drew ?_ | with_reducible refine bl_drewN ?_ _ | with_reducible refine bl_alloc ?_ _)) hb); have hS8 := And.intro (Blk.two bx8.out) (And.intro (Blk.two bo8.out) (Blk.two bl8.out)); clear hb HB7)
            | (have uu := HB8; clear uu; go_at_call 18; refine (iPlain_is _ At _ ct ts ((HTt.out.below (by repeat (first | with_reducible exact HDt8.out | with_reducible refine Below.drew ?_ | with_reducible refine bl_drewN ?_ _ | with_reducible refine bl_alloc ?_ _) : Below w1.heap.size w1 _)).more (Below.size (by repeat (first | with_reducible exact HDt8.out | with_reducible refine Below.drew ?_ | with_reducible refine bl_drewN ?_ _ | with_reducible refine bl_alloc ?_ _) : Below w1.heap.size w1 _))) (by omega) e0 (by repeat (first | exact HE.out.below HB8.out | refine EG.drewN ?_ _ | refine EG.drew ?_ | refine EG.alloc ?_ _)) false HPL.out).mono ?_; rintro e w9 ⟨rfl, hb⟩; have hs9 := hb.size; have HB9 := Lib.hid (show Below w.heap.size w w9 from bl_trans (by repeat (first | with_reducible exact HB8.out | with_reducible refine bl_drewN ?_ _ | with_reducible refine Below.drew ?_ | with_reducible refine bl_alloc ?_ _)) hb); have bx9 := Lib.hid (show Blk w9 (w2.heap.size) 27 #[.int .i64 (X : Int), .int .i64 (Y : Int)] from Blk.below (by repeat (first | with_reducible exact bx8.out | with_reducible refine Blk.drewN ?_ _ | with_reducible refine Blk.drew ?_ | with_reducible refine Blk.alloc ?_ _)) hb (by have := bx8.out.lt; first | exact this | omega | (simp; omega))); have cx := bx9.out.cell; have bk9 := Lib.hid (show Blk w9 (w3.heap.size) 27 #[.int .i64 (X : Int), .int .i64 (Y : Int)] from Blk.below (by repeat (first | with_reducible exact bk8.out | with_reducible refine Blk.drewN ?_ _ | with_reducible refine Blk.drew ?_ | with_reducible refine Blk.alloc ?_ _)) hb (by have := bk8.out.lt; first | exact this | omega | (simp; omega))); have ck := bk9.out.cell; have bo9 := Lib.hid (show Blk w9 (w3.heap.size + 1) 27 #[.int .i64 1, .int .i64 1] from Blk.below (by repeat (first | with_reducible exact bo8.out | with_reducible refine Blk.drewN ?_ _ | with_reducible refine Blk.drew ?_ | with_reducible refine Blk.alloc ?_ _)) hb (by have := bo8.out.lt; first | exact this | omega | (simp; omega))); have co := bo9.out.cell; have bl9 := Lib.hid (show Blk w9 (w6.heap.size) 27 #[.int .i64 (1 : Int), .int .i64 (y : Int)] from Blk.below (by repeat (first | with_reducible exact bl8.out | with_reducible refine Blk.drewN ?_ _ | with_reducible refine Blk.drew ?_ | with_reducible refine Blk.alloc ?_ _)) hb (by have := bl8.out.lt; first | exact this | omega | (simp; omega))); have cl := bl9.out.cell; have HDt9 := Lib.hid (show Below w1.heap.size w1 w9 from bl_trans (by repeat (first | with_reducible exact HDt8.out | with_reducible refine Below.drew ?_ | with_reducible refine bl_drewN ?_ _ | with_reducible refine bl_alloc ?_ _)) hb); have hS9 := And.intro (Blk.two bx9.out) (And.intro (Blk.two bo9.out) (Blk.two bl9.out)); clear hb HB8))))
        | fail "no region"
        have hkx9 := bx9.out.lt
        have hkk9 := bk9.out.lt
        have hko9 := bo9.out.lt
        have hkl9 := bl9.out.lt
        have cx := bx9.out.cell
        have ck := bk9.out.cell
        have co := bo9.out.cell
        have cl := bl9.out.cell
        go_wp2
        (try (go_quiet (fail); go_wp2))
        go_ret
        exact ⟨rfl, by repeat (first | with_reducible exact HB9.out | refine bl_drewN ?_ _ | refine Below.drew ?_ | refine bl_alloc ?_ _ | refine bl_set ?_ (by dsimp only; omega) _)⟩
      · skip
        have h2 : ((x : Int) == 1) = false := by rw [beq_eq_false_iff_ne]; omega
        have h2' : ¬ (x : Int) = 1 := by omega
        clear hl hx2
        go_wp2_with fail
        (try (go_quiet (fail); go_wp2_with fail))
        refine (iFac_is _ At _ ct ts ((HTt.out.below (by repeat (first | with_reducible exact HDt1.out | with_reducible refine Below.drew ?_ | with_reducible refine bl_drewN ?_ _ | with_reducible refine bl_alloc ?_ _) : Below w1.heap.size w1 _)).more (Below.size (by repeat (first | with_reducible exact HDt1.out | with_reducible refine Below.drew ?_ | with_reducible refine bl_drewN ?_ _ | with_reducible refine bl_alloc ?_ _) : Below w1.heap.size w1 _))) (by omega) e0 (by repeat (first | exact HE.out.below HB1.out | refine EG.drewN ?_ _ | refine EG.drew ?_ | refine EG.alloc ?_ _)) X Y true HF.out.1 HF.out.2).mono ?_
        rintro e w2 ⟨rfl, hb⟩
        have hs2 := hb.size
        have HB2 := Lib.hid (show Below w.heap.size w w2 from bl_trans (by repeat (first | with_reducible exact HB1.out | with_reducible refine bl_drewN ?_ _ | with_reducible refine Below.drew ?_ | with_reducible refine bl_alloc ?_ _)) hb)
        have HDt2 := Lib.hid (show Below w1.heap.size w1 w2 from bl_trans (by repeat (first | with_reducible exact HDt1.out | with_reducible refine Below.drew ?_ | with_reducible refine bl_drewN ?_ _ | with_reducible refine bl_alloc ?_ _)) hb)
        clear hb HB1 HDt1
        go_wp2_with fail
        (try (go_quiet (fail); go_wp2_with fail))
        refine (sFac_is _ At _ ct ts ((HTt.out.below (by repeat (first | with_reducible exact HDt2.out | with_reducible refine Below.drew ?_ | with_reducible refine bl_drewN ?_ _ | with_reducible refine bl_alloc ?_ _) : Below w1.heap.size w1 _)).more (Below.size (by repeat (first | with_reducible exact HDt2.out | with_reducible refine Below.drew ?_ | with_reducible refine bl_drewN ?_ _ | with_reducible refine bl_alloc ?_ _) : Below w1.heap.size w1 _))) (by omega) X Y true HF.out.1 HF.out.2).mono ?_
        rintro e w3 ⟨rfl, hb⟩
        have hs3 := hb.size
        have HB3 := Lib.hid (show Below w.heap.size w w3 from bl_trans (by repeat (first | with_reducible exact HB2.out | with_reducible refine bl_drewN ?_ _ | with_reducible refine Below.drew ?_ | with_reducible refine bl_alloc ?_ _)) hb)
        have bx3 := Lib.hid (show Blk w3 (w2.heap.size) 27 #[.int .i64 (X : Int), .int .i64 (Y : Int)] from Blk.below (by have hh := Blk.new w2 27 #[.int .i64 (X : Int), .int .i64 (Y : Int)]; (try simp only [World.size_alloc] at hh); repeat (first | exact hh | with_reducible refine Blk.drewN ?_ _ | with_reducible refine Blk.drew ?_ | with_reducible refine Blk.alloc ?_ _)) hb (by first | omega | (simp; done) | (simp; omega)))
        have HDt3 := Lib.hid (show Below w1.heap.size w1 w3 from bl_trans (by repeat (first | with_reducible exact HDt2.out | with_reducible refine Below.drew ?_ | with_reducible refine bl_drewN ?_ _ | with_reducible refine bl_alloc ?_ _)) hb)
        clear hb HB2 HDt2
        have cx1 := fun o0 => (bx3.out.alloc o0).cell
        have cx := fun o0 o1 => ((bx3.out.alloc o0).alloc o1).cell
        go_wp2_with fail
        (try (go_quiet (fail); go_wp2_with fail))
        refine (iLow_is _ At _ ct ts true ((HTt.out.below (by repeat (first | with_reducible exact HDt3.out | with_reducible refine Below.drew ?_ | with_reducible refine bl_drewN ?_ _ | with_reducible refine bl_alloc ?_ _) : Below w1.heap.size w1 _)).more (Below.size (by repeat (first | with_reducible exact HDt3.out | with_reducible refine Below.drew ?_ | with_reducible refine bl_drewN ?_ _ | with_reducible refine bl_alloc ?_ _) : Below w1.heap.size w1 _))) (by omega) e0 (by repeat (first | exact HE.out.below HB3.out | refine EG.drewN ?_ _ | refine EG.drew ?_ | refine EG.alloc ?_ _)) u v HU.out).mono ?_
        rintro e w4 ⟨rfl, hb⟩
        have hs4 := hb.size
        have HB4 := Lib.hid (show Below w.heap.size w w4 from bl_trans (by repeat (first | with_reducible exact HB3.out | with_reducible refine bl_drewN ?_ _ | with_reducible refine Below.drew ?_ | with_reducible refine bl_alloc ?_ _)) hb)
        have bx4 := Lib.hid (show Blk w4 (w2.heap.size) 27 #[.int .i64 (X : Int), .int .i64 (Y : Int)] from Blk.below (by repeat (first | with_reducible exact bx3.out | with_reducible refine Blk.drewN ?_ _ | with_reducible refine Blk.drew ?_ | with_reducible refine Blk.alloc ?_ _)) hb (by have := bx3.out.lt; first | omega | (simp; omega)))
        have bk4 := Lib.hid (show Blk w4 (w3.heap.size) 27 #[.int .i64 (X : Int), .int .i64 (Y : Int)] from Blk.below (by have hh := Blk.new w3 27 #[.int .i64 (X : Int), .int .i64 (Y : Int)]; (try simp only [World.size_alloc] at hh); repeat (first | exact hh | with_reducible refine Blk.drewN ?_ _ | with_reducible refine Blk.drew ?_ | with_reducible refine Blk.alloc ?_ _)) hb (by first | omega | (simp; done) | (simp; omega)))
        have bo4 := Lib.hid (show Blk w4 (w3.heap.size + 1) 27 #[.int .i64 1, .int .i64 1] from Blk.below (by have hh := Blk.new (w3.alloc (.cells #[.int .i64 (X : Int), .int .i64 (Y : Int)] 27)) 27 #[.int .i64 1, .int .i64 1]; (try simp only [World.size_alloc] at hh); repeat (first | exact hh | with_reducible refine Blk.drewN ?_ _ | with_reducible refine Blk.drew ?_ | with_reducible refine Blk.alloc ?_ _)) hb (by first | omega | (simp; done) | (simp; omega)))
        have HDt4 := Lib.hid (show Below w1.heap.size w1 w4 from bl_trans (by repeat (first | with_reducible exact HDt3.out | with_reducible refine Below.drew ?_ | with_reducible refine bl_drewN ?_ _ | with_reducible refine bl_alloc ?_ _)) hb)
        clear hb HB3 bx3 cx HDt3
        have cx := bx4.out.cell
        have ck := bk4.out.cell
        have co := bo4.out.cell
        go_wp2_with fail
        (try (go_quiet (fail); go_wp2_with fail))
        refine (iLow_is _ At _ ct ts false ((HTt.out.below (by repeat (first | with_reducible exact HDt4.out | with_reducible refine Below.drew ?_ | with_reducible refine bl_drewN ?_ _ | with_reducible refine bl_alloc ?_ _) : Below w1.heap.size w1 _)).more (Below.size (by repeat (first | with_reducible exact HDt4.out | with_reducible refine Below.drew ?_ | with_reducible refine bl_drewN ?_ _ | with_reducible refine bl_alloc ?_ _) : Below w1.heap.size w1 _))) (by omega) e0 (by repeat (first | exact HE.out.below HB4.out | refine EG.drewN ?_ _ | refine EG.drew ?_ | refine EG.alloc ?_ _)) p q HP.out).mono ?_
        rintro e w5 ⟨rfl, hb⟩
        have hs5 := hb.size
        have HB5 := Lib.hid (show Below w.heap.size w w5 from bl_trans (by repeat (first | with_reducible exact HB4.out | with_reducible refine bl_drewN ?_ _ | with_reducible refine Below.drew ?_ | with_reducible refine bl_alloc ?_ _)) hb)
        have bx5 := Lib.hid (show Blk w5 (w2.heap.size) 27 #[.int .i64 (X : Int), .int .i64 (Y : Int)] from Blk.below (by repeat (first | with_reducible exact bx4.out | with_reducible refine Blk.drewN ?_ _ | with_reducible refine Blk.drew ?_ | with_reducible refine Blk.alloc ?_ _)) hb (by have := bx4.out.lt; first | omega | (simp; omega)))
        have bk5 := Lib.hid (show Blk w5 (w3.heap.size) 27 #[.int .i64 (X : Int), .int .i64 (Y : Int)] from Blk.below (by repeat (first | with_reducible exact bk4.out | with_reducible refine Blk.drewN ?_ _ | with_reducible refine Blk.drew ?_ | with_reducible refine Blk.alloc ?_ _)) hb (by have := bk4.out.lt; first | omega | (simp; omega)))
        have bo5 := Lib.hid (show Blk w5 (w3.heap.size + 1) 27 #[.int .i64 1, .int .i64 1] from Blk.below (by repeat (first | with_reducible exact bo4.out | with_reducible refine Blk.drewN ?_ _ | with_reducible refine Blk.drew ?_ | with_reducible refine Blk.alloc ?_ _)) hb (by have := bo4.out.lt; first | omega | (simp; omega)))
        have HDt5 := Lib.hid (show Below w1.heap.size w1 w5 from bl_trans (by repeat (first | with_reducible exact HDt4.out | with_reducible refine Below.drew ?_ | with_reducible refine bl_drewN ?_ _ | with_reducible refine bl_alloc ?_ _)) hb)
        clear hb HB4 bx4 bk4 bo4 cx ck co HDt4
        have cx := bx5.out.cell
        have ck := bk5.out.cell
        have co := bo5.out.cell
        go_wp2_with fail
        (try (go_quiet (fail); go_wp2_with fail))
        refine (iAdd_is _ e0 (by repeat (first | exact HE.out.below HB5.out | refine EG.drewN ?_ _ | refine EG.drew ?_ | refine EG.alloc ?_ _)) u v p q x y true HA.out.1 HA.out.2).mono ?_
        rintro e w6 ⟨rfl, hb⟩
        have hs6 := hb.size
        have HB6 := Lib.hid (show Below w.heap.size w w6 from bl_trans (by repeat (first | with_reducible exact HB5.out | with_reducible refine bl_drewN ?_ _ | with_reducible refine Below.drew ?_ | with_reducible refine bl_alloc ?_ _)) hb)
        have bx6 := Lib.hid (show Blk w6 (w2.heap.size) 27 #[.int .i64 (X : Int), .int .i64 (Y : Int)] from Blk.below (by repeat (first | with_reducible exact bx5.out | with_reducible refine Blk.drewN ?_ _ | with_reducible refine Blk.drew ?_ | with_reducible refine Blk.alloc ?_ _)) hb (by have := bx5.out.lt; first | omega | (simp; omega)))
        have bk6 := Lib.hid (show Blk w6 (w3.heap.size) 27 #[.int .i64 (X : Int), .int .i64 (Y : Int)] from Blk.below (by repeat (first | with_reducible exact bk5.out | with_reducible refine Blk.drewN ?_ _ | with_reducible refine Blk.drew ?_ | with_reducible refine Blk.alloc ?_ _)) hb (by have := bk5.out.lt; first | omega | (simp; omega)))
        have bo6 := Lib.hid (show Blk w6 (w3.heap.size + 1) 27 #[.int .i64 1, .int .i64 1] from Blk.below (by repeat (first | with_reducible exact bo5.out | with_reducible refine Blk.drewN ?_ _ | with_reducible refine Blk.drew ?_ | with_reducible refine Blk.alloc ?_ _)) hb (by have := bo5.out.lt; first | omega | (simp; omega)))
        have HDt6 := Lib.hid (show Below w1.heap.size w1 w6 from bl_trans (by repeat (first | with_reducible exact HDt5.out | with_reducible refine Below.drew ?_ | with_reducible refine bl_drewN ?_ _ | with_reducible refine bl_alloc ?_ _)) hb)
        clear hb HB5 bx5 bk5 bo5 cx ck co HDt5
        have cx := fun o0 => (bx6.out.alloc o0).cell
        have ck := fun o0 => (bk6.out.alloc o0).cell
        have co := fun o0 => (bo6.out.alloc o0).cell
        have hS6 := And.intro (Blk.two (show Blk (w6.alloc (.cells #[.int .i64 (x : Int), .int .i64 (y : Int)] 27)) (w2.heap.size) 27 #[.int .i64 (X : Int), .int .i64 (Y : Int)] from by repeat (first | with_reducible exact bx6.out | with_reducible refine Blk.alloc ?_ _))) (And.intro (Blk.two (show Blk (w6.alloc (.cells #[.int .i64 (x : Int), .int .i64 (y : Int)] 27)) (w3.heap.size + 1) 27 #[.int .i64 1, .int .i64 1] from by repeat (first | with_reducible exact bo6.out | with_reducible refine Blk.alloc ?_ _))) (Blk.two (show Blk (w6.alloc (.cells #[.int .i64 (x : Int), .int .i64 (y : Int)] 27)) (w6.heap.size) 27 #[.int .i64 (x : Int), .int .i64 (y : Int)] from by have hh := Blk.new w6 27 #[.int .i64 (x : Int), .int .i64 (y : Int)]; (try simp only [World.size_alloc] at hh); repeat (first | exact hh | with_reducible refine Blk.alloc ?_ _))))
        go_wp2_with fail
        first
        | (go_region_held3 (fun W => (W.cell? ⟨w2.heap.size, 0, none⟩ = some (.int .i64 (X : Int)) ∧ W.cell? ⟨w2.heap.size, 1, none⟩ = some (.int .i64 (Y : Int))) ∧ (W.cell? ⟨w3.heap.size + 1, 0, none⟩ = some (.int .i64 1) ∧ W.cell? ⟨w3.heap.size + 1, 1, none⟩ = some (.int .i64 1)) ∧ (W.cell? ⟨w6.heap.size, 0, none⟩ = some (.int .i64 (x : Int)) ∧ W.cell? ⟨w6.heap.size, 1, none⟩ = some (.int .i64 (y : Int)))) (first | exact hS6 | exact hS7 | exact hS8 | exact hS9)
          ((first
            | (have uu := HB6; clear uu; go_at_call 27; refine (iShare_is _ X Y true HV.out).mono ?_; rintro e w7 ⟨rfl, hb⟩; have hs7 := hb.size; have HB7 := Lib.hid (show Below w.heap.size w w7 from bl_trans (by repeat (first | with_reducible exact HB6.out | with_reducible refine bl_drewN ?_ _ | with_reducible refine Below.drew ?_ | with_reducible refine bl_alloc ?_ _)) hb); have bx7 := Lib.hid (show Blk w7 (w2.heap.size) 27 #[.int .i64 (X : Int), .int .i64 (Y : Int)] from Blk.below (by repeat (first | with_reducible exact bx6.out | with_reducible refine Blk.drewN ?_ _ | with_reducible refine Blk.drew ?_ | with_reducible refine Blk.alloc ?_ _)) hb (by have := bx6.out.lt; first | exact this | omega | (simp; omega))); have cx := bx7.out.cell; have bk7 := Lib.hid (show Blk w7 (w3.heap.size) 27 #[.int .i64 (X : Int), .int .i64 (Y : Int)] from Blk.below (by repeat (first | with_reducible exact bk6.out | with_reducible refine Blk.drewN ?_ _ | with_reducible refine Blk.drew ?_ | with_reducible refine Blk.alloc ?_ _)) hb (by have := bk6.out.lt; first | exact this | omega | (simp; omega))); have ck := bk7.out.cell; have bo7 := Lib.hid (show Blk w7 (w3.heap.size + 1) 27 #[.int .i64 1, .int .i64 1] from Blk.below (by repeat (first | with_reducible exact bo6.out | with_reducible refine Blk.drewN ?_ _ | with_reducible refine Blk.drew ?_ | with_reducible refine Blk.alloc ?_ _)) hb (by have := bo6.out.lt; first | exact this | omega | (simp; omega))); have co := bo7.out.cell; have bl7 := Lib.hid (show Blk w7 (w6.heap.size) 27 #[.int .i64 (x : Int), .int .i64 (y : Int)] from Blk.below (by have hh := Blk.new w6 27 #[.int .i64 (x : Int), .int .i64 (y : Int)]; (try simp only [World.size_alloc] at hh); repeat (first | exact hh | with_reducible refine Blk.drewN ?_ _ | with_reducible refine Blk.drew ?_ | with_reducible refine Blk.alloc ?_ _)) hb (by first | omega | (simp; done) | (simp; omega))); have cl := bl7.out.cell; have HDt7 := Lib.hid (show Below w1.heap.size w1 w7 from bl_trans (by repeat (first | with_reducible exact HDt6.out | with_reducible refine Below.drew ?_ | with_reducible refine bl_drewN ?_ _ | with_reducible refine bl_alloc ?_ _)) hb); have hS7 := And.intro (Blk.two bx7.out) (And.intro (Blk.two bo7.out) (Blk.two bl7.out)); clear hb HB6)
            | (have uu := HB7; clear uu; go_at_call 21; refine (iCmp_is _ X Y 1 1 z HZ.out).mono ?_; rintro e w8 ⟨rfl, hb⟩; have hs8 := hb.size; have HB8 := Lib.hid (show Below w.heap.size w w8 from bl_trans (by repeat (first | with_reducible exact HB7.out | with_reducible refine bl_drewN ?_ _ | with_reducible refine Below.drew ?_ | with_reducible refine bl_alloc ?_ _)) hb); have bx8 := Lib.hid (show Blk w8 (w2.heap.size) 27 #[.int .i64 (X : Int), .int .i64 (Y : Int)] from Blk.below (by repeat (first | with_reducible exact bx7.out | with_reducible refine Blk.drewN ?_ _ | with_reducible refine Blk.drew ?_ | with_reducible refine Blk.alloc ?_ _)) hb (by have := bx7.out.lt; first | exact this | omega | (simp; omega))); have cx := bx8.out.cell; have bk8 := Lib.hid (show Blk w8 (w3.heap.size) 27 #[.int .i64 (X : Int), .int .i64 (Y : Int)] from Blk.below (by repeat (first | with_reducible exact bk7.out | with_reducible refine Blk.drewN ?_ _ | with_reducible refine Blk.drew ?_ | with_reducible refine Blk.alloc ?_ _)) hb (by have := bk7.out.lt; first | exact this | omega | (simp; omega))); have ck := bk8.out.cell; have bo8 := Lib.hid (show Blk w8 (w3.heap.size + 1) 27 #[.int .i64 1, .int .i64 1] from Blk.below (by repeat (first | with_reducible exact bo7.out | with_reducible refine Blk.drewN ?_ _ | with_reducible refine Blk.drew ?_ | with_reducible refine Blk.alloc ?_ _)) hb (by have := bo7.out.lt; first | exact this | omega | (simp; omega))); have co := bo8.out.cell; have bl8 := Lib.hid (show Blk w8 (w6.heap.size) 27 #[.int .i64 (x : Int), .int .i64 (y : Int)] from Blk.below (by repeat (first | with_reducible exact bl7.out | with_reducible refine Blk.drewN ?_ _ | with_reducible refine Blk.drew ?_ | with_reducible refine Blk.alloc ?_ _)) hb (by have := bl7.out.lt; first | exact this | omega | (simp; omega))); have cl := bl8.out.cell; have HDt8 := Lib.hid (show Below w1.heap.size w1 w8 from bl_trans (by repeat (first | with_reducible exact HDt7.out | with_reducible refine Below.drew ?_ | with_reducible refine bl_drewN ?_ _ | with_reducible refine bl_alloc ?_ _)) hb); have hS8 := And.intro (Blk.two bx8.out) (And.intro (Blk.two bo8.out) (Blk.two bl8.out)); clear hb HB7)
            | (have uu := HB8; clear uu; go_at_call 18; refine (iPlain_is _ At _ ct ts ((HTt.out.below (by repeat (first | with_reducible exact HDt8.out | with_reducible refine Below.drew ?_ | with_reducible refine bl_drewN ?_ _ | with_reducible refine bl_alloc ?_ _) : Below w1.heap.size w1 _)).more (Below.size (by repeat (first | with_reducible exact HDt8.out | with_reducible refine Below.drew ?_ | with_reducible refine bl_drewN ?_ _ | with_reducible refine bl_alloc ?_ _) : Below w1.heap.size w1 _))) (by omega) e0 (by repeat (first | exact HE.out.below HB8.out | refine EG.drewN ?_ _ | refine EG.drew ?_ | refine EG.alloc ?_ _)) false HPL.out).mono ?_; rintro e w9 ⟨rfl, hb⟩; have hs9 := hb.size; have HB9 := Lib.hid (show Below w.heap.size w w9 from bl_trans (by repeat (first | with_reducible exact HB8.out | with_reducible refine bl_drewN ?_ _ | with_reducible refine Below.drew ?_ | with_reducible refine bl_alloc ?_ _)) hb); have bx9 := Lib.hid (show Blk w9 (w2.heap.size) 27 #[.int .i64 (X : Int), .int .i64 (Y : Int)] from Blk.below (by repeat (first | with_reducible exact bx8.out | with_reducible refine Blk.drewN ?_ _ | with_reducible refine Blk.drew ?_ | with_reducible refine Blk.alloc ?_ _)) hb (by have := bx8.out.lt; first | exact this | omega | (simp; omega))); have cx := bx9.out.cell; have bk9 := Lib.hid (show Blk w9 (w3.heap.size) 27 #[.int .i64 (X : Int), .int .i64 (Y : Int)] from Blk.below (by repeat (first | with_reducible exact bk8.out | with_reducible refine Blk.drewN ?_ _ | with_reducible refine Blk.drew ?_ | with_reducible refine Blk.alloc ?_ _)) hb (by have := bk8.out.lt; first | exact this | omega | (simp; omega))); have ck := bk9.out.cell; have bo9 := Lib.hid (show Blk w9 (w3.heap.size + 1) 27 #[.int .i64 1, .int .i64 1] from Blk.below (by repeat (first | with_reducible exact bo8.out | with_reducible refine Blk.drewN ?_ _ | with_reducible refine Blk.drew ?_ | with_reducible refine Blk.alloc ?_ _)) hb (by have := bo8.out.lt; first | exact this | omega | (simp; omega))); have co := bo9.out.cell; have bl9 := Lib.hid (show Blk w9 (w6.heap.size) 27 #[.int .i64 (x : Int), .int .i64 (y : Int)] from Blk.below (by repeat (first | with_reducible exact bl8.out | with_reducible refine Blk.drewN ?_ _ | with_reducible refine Blk.drew ?_ | with_reducible refine Blk.alloc ?_ _)) hb (by have := bl8.out.lt; first | exact this | omega | (simp; omega))); have cl := bl9.out.cell; have HDt9 := Lib.hid (show Below w1.heap.size w1 w9 from bl_trans (by repeat (first | with_reducible exact HDt8.out | with_reducible refine Below.drew ?_ | with_reducible refine bl_drewN ?_ _ | with_reducible refine bl_alloc ?_ _)) hb); have hS9 := And.intro (Blk.two bx9.out) (And.intro (Blk.two bo9.out) (Blk.two bl9.out)); clear hb HB8))))
        | fail "no region"
        have hkx9 := bx9.out.lt
        have hkk9 := bk9.out.lt
        have hko9 := bo9.out.lt
        have hkl9 := bl9.out.lt
        have cx := bx9.out.cell
        have ck := bk9.out.cell
        have co := bo9.out.cell
        have cl := bl9.out.cell
        go_wp2
        (try (go_quiet (fail); go_wp2))
        go_ret
        exact ⟨rfl, by repeat (first | with_reducible exact HB9.out | refine bl_drewN ?_ _ | refine Below.drew ?_ | refine bl_alloc ?_ _ | refine bl_set ?_ (by dsimp only; omega) _)⟩
  · have HPL := Lib.hid hp
    have hx1 : (X, Y) = (1, 1) := hone.2 (.inl hp)
    obtain ⟨rfl, rfl⟩ := Prod.mk.inj hx1
    clear hone hp hXY hx1
    go_wp2_with fail
    (try (go_quiet (fail); go_wp2_with fail))
    refine (iFac_is _ At _ ct ts ((HTt.out.below (by repeat (first | with_reducible exact HDt1.out | with_reducible refine Below.drew ?_ | with_reducible refine bl_drewN ?_ _ | with_reducible refine bl_alloc ?_ _) : Below w1.heap.size w1 _)).more (Below.size (by repeat (first | with_reducible exact HDt1.out | with_reducible refine Below.drew ?_ | with_reducible refine bl_drewN ?_ _ | with_reducible refine bl_alloc ?_ _) : Below w1.heap.size w1 _))) (by omega) e0 (by repeat (first | exact HE.out.below HB1.out | refine EG.drewN ?_ _ | refine EG.drew ?_ | refine EG.alloc ?_ _)) 1 1 true HF.out.1 HF.out.2).mono ?_
    rintro e w2 ⟨rfl, hb⟩
    have hs2 := hb.size
    have HB2 := Lib.hid (show Below w.heap.size w w2 from bl_trans (by repeat (first | with_reducible exact HB1.out | with_reducible refine bl_drewN ?_ _ | with_reducible refine Below.drew ?_ | with_reducible refine bl_alloc ?_ _)) hb)
    have HDt2 := Lib.hid (show Below w1.heap.size w1 w2 from bl_trans (by repeat (first | with_reducible exact HDt1.out | with_reducible refine Below.drew ?_ | with_reducible refine bl_drewN ?_ _ | with_reducible refine bl_alloc ?_ _)) hb)
    clear hb HB1 HDt1
    go_wp2_with fail
    (try (go_quiet (fail); go_wp2_with fail))
    refine (sFac_is _ At _ ct ts ((HTt.out.below (by repeat (first | with_reducible exact HDt2.out | with_reducible refine Below.drew ?_ | with_reducible refine bl_drewN ?_ _ | with_reducible refine bl_alloc ?_ _) : Below w1.heap.size w1 _)).more (Below.size (by repeat (first | with_reducible exact HDt2.out | with_reducible refine Below.drew ?_ | with_reducible refine bl_drewN ?_ _ | with_reducible refine bl_alloc ?_ _) : Below w1.heap.size w1 _))) (by omega) 1 1 true HF.out.1 HF.out.2).mono ?_
    rintro e w3 ⟨rfl, hb⟩
    have hs3 := hb.size
    have HB3 := Lib.hid (show Below w.heap.size w w3 from bl_trans (by repeat (first | with_reducible exact HB2.out | with_reducible refine bl_drewN ?_ _ | with_reducible refine Below.drew ?_ | with_reducible refine bl_alloc ?_ _)) hb)
    have bx3 := Lib.hid (show Blk w3 (w2.heap.size) 27 #[.int .i64 (1 : Int), .int .i64 (1 : Int)] from Blk.below (by have hh := Blk.new w2 27 #[.int .i64 (1 : Int), .int .i64 (1 : Int)]; (try simp only [World.size_alloc] at hh); repeat (first | exact hh | with_reducible refine Blk.drewN ?_ _ | with_reducible refine Blk.drew ?_ | with_reducible refine Blk.alloc ?_ _)) hb (by first | omega | (simp; done) | (simp; omega)))
    have HDt3 := Lib.hid (show Below w1.heap.size w1 w3 from bl_trans (by repeat (first | with_reducible exact HDt2.out | with_reducible refine Below.drew ?_ | with_reducible refine bl_drewN ?_ _ | with_reducible refine bl_alloc ?_ _)) hb)
    clear hb HB2 HDt2
    have cx1 := fun o0 => (bx3.out.alloc o0).cell
    have cx := fun o0 o1 => ((bx3.out.alloc o0).alloc o1).cell
    go_wp2_with fail
    (try (go_quiet (fail); go_wp2_with fail))
    refine (iLow_is _ At _ ct ts true ((HTt.out.below (by repeat (first | with_reducible exact HDt3.out | with_reducible refine Below.drew ?_ | with_reducible refine bl_drewN ?_ _ | with_reducible refine bl_alloc ?_ _) : Below w1.heap.size w1 _)).more (Below.size (by repeat (first | with_reducible exact HDt3.out | with_reducible refine Below.drew ?_ | with_reducible refine bl_drewN ?_ _ | with_reducible refine bl_alloc ?_ _) : Below w1.heap.size w1 _))) (by omega) e0 (by repeat (first | exact HE.out.below HB3.out | refine EG.drewN ?_ _ | refine EG.drew ?_ | refine EG.alloc ?_ _)) u v HU.out).mono ?_
    rintro e w4 ⟨rfl, hb⟩
    have hs4 := hb.size
    have HB4 := Lib.hid (show Below w.heap.size w w4 from bl_trans (by repeat (first | with_reducible exact HB3.out | with_reducible refine bl_drewN ?_ _ | with_reducible refine Below.drew ?_ | with_reducible refine bl_alloc ?_ _)) hb)
    have bx4 := Lib.hid (show Blk w4 (w2.heap.size) 27 #[.int .i64 (1 : Int), .int .i64 (1 : Int)] from Blk.below (by repeat (first | with_reducible exact bx3.out | with_reducible refine Blk.drewN ?_ _ | with_reducible refine Blk.drew ?_ | with_reducible refine Blk.alloc ?_ _)) hb (by have := bx3.out.lt; first | omega | (simp; omega)))
    have bk4 := Lib.hid (show Blk w4 (w3.heap.size) 27 #[.int .i64 (1 : Int), .int .i64 (1 : Int)] from Blk.below (by have hh := Blk.new w3 27 #[.int .i64 (1 : Int), .int .i64 (1 : Int)]; (try simp only [World.size_alloc] at hh); repeat (first | exact hh | with_reducible refine Blk.drewN ?_ _ | with_reducible refine Blk.drew ?_ | with_reducible refine Blk.alloc ?_ _)) hb (by first | omega | (simp; done) | (simp; omega)))
    have bo4 := Lib.hid (show Blk w4 (w3.heap.size + 1) 27 #[.int .i64 1, .int .i64 1] from Blk.below (by have hh := Blk.new (w3.alloc (.cells #[.int .i64 (1 : Int), .int .i64 (1 : Int)] 27)) 27 #[.int .i64 1, .int .i64 1]; (try simp only [World.size_alloc] at hh); repeat (first | exact hh | with_reducible refine Blk.drewN ?_ _ | with_reducible refine Blk.drew ?_ | with_reducible refine Blk.alloc ?_ _)) hb (by first | omega | (simp; done) | (simp; omega)))
    have HDt4 := Lib.hid (show Below w1.heap.size w1 w4 from bl_trans (by repeat (first | with_reducible exact HDt3.out | with_reducible refine Below.drew ?_ | with_reducible refine bl_drewN ?_ _ | with_reducible refine bl_alloc ?_ _)) hb)
    clear hb HB3 bx3 cx HDt3
    have cx := bx4.out.cell
    have ck := bk4.out.cell
    have co := bo4.out.cell
    go_wp2_with fail
    (try (go_quiet (fail); go_wp2_with fail))
    refine (iLow_is _ At _ ct ts false ((HTt.out.below (by repeat (first | with_reducible exact HDt4.out | with_reducible refine Below.drew ?_ | with_reducible refine bl_drewN ?_ _ | with_reducible refine bl_alloc ?_ _) : Below w1.heap.size w1 _)).more (Below.size (by repeat (first | with_reducible exact HDt4.out | with_reducible refine Below.drew ?_ | with_reducible refine bl_drewN ?_ _ | with_reducible refine bl_alloc ?_ _) : Below w1.heap.size w1 _))) (by omega) e0 (by repeat (first | exact HE.out.below HB4.out | refine EG.drewN ?_ _ | refine EG.drew ?_ | refine EG.alloc ?_ _)) p q HP.out).mono ?_
    rintro e w5 ⟨rfl, hb⟩
    have hs5 := hb.size
    have HB5 := Lib.hid (show Below w.heap.size w w5 from bl_trans (by repeat (first | with_reducible exact HB4.out | with_reducible refine bl_drewN ?_ _ | with_reducible refine Below.drew ?_ | with_reducible refine bl_alloc ?_ _)) hb)
    have bx5 := Lib.hid (show Blk w5 (w2.heap.size) 27 #[.int .i64 (1 : Int), .int .i64 (1 : Int)] from Blk.below (by repeat (first | with_reducible exact bx4.out | with_reducible refine Blk.drewN ?_ _ | with_reducible refine Blk.drew ?_ | with_reducible refine Blk.alloc ?_ _)) hb (by have := bx4.out.lt; first | omega | (simp; omega)))
    have bk5 := Lib.hid (show Blk w5 (w3.heap.size) 27 #[.int .i64 (1 : Int), .int .i64 (1 : Int)] from Blk.below (by repeat (first | with_reducible exact bk4.out | with_reducible refine Blk.drewN ?_ _ | with_reducible refine Blk.drew ?_ | with_reducible refine Blk.alloc ?_ _)) hb (by have := bk4.out.lt; first | omega | (simp; omega)))
    have bo5 := Lib.hid (show Blk w5 (w3.heap.size + 1) 27 #[.int .i64 1, .int .i64 1] from Blk.below (by repeat (first | with_reducible exact bo4.out | with_reducible refine Blk.drewN ?_ _ | with_reducible refine Blk.drew ?_ | with_reducible refine Blk.alloc ?_ _)) hb (by have := bo4.out.lt; first | omega | (simp; omega)))
    have HDt5 := Lib.hid (show Below w1.heap.size w1 w5 from bl_trans (by repeat (first | with_reducible exact HDt4.out | with_reducible refine Below.drew ?_ | with_reducible refine bl_drewN ?_ _ | with_reducible refine bl_alloc ?_ _)) hb)
    clear hb HB4 bx4 bk4 bo4 cx ck co HDt4
    have cx := bx5.out.cell
    have ck := bk5.out.cell
    have co := bo5.out.cell
    go_wp2_with fail
    (try (go_quiet (fail); go_wp2_with fail))
    refine (iAdd_is _ e0 (by repeat (first | exact HE.out.below HB5.out | refine EG.drewN ?_ _ | refine EG.drew ?_ | refine EG.alloc ?_ _)) u v p q x y true HA.out.1 HA.out.2).mono ?_
    rintro e w6 ⟨rfl, hb⟩
    have hs6 := hb.size
    have HB6 := Lib.hid (show Below w.heap.size w w6 from bl_trans (by repeat (first | with_reducible exact HB5.out | with_reducible refine bl_drewN ?_ _ | with_reducible refine Below.drew ?_ | with_reducible refine bl_alloc ?_ _)) hb)
    have bx6 := Lib.hid (show Blk w6 (w2.heap.size) 27 #[.int .i64 (1 : Int), .int .i64 (1 : Int)] from Blk.below (by repeat (first | with_reducible exact bx5.out | with_reducible refine Blk.drewN ?_ _ | with_reducible refine Blk.drew ?_ | with_reducible refine Blk.alloc ?_ _)) hb (by have := bx5.out.lt; first | omega | (simp; omega)))
    have bk6 := Lib.hid (show Blk w6 (w3.heap.size) 27 #[.int .i64 (1 : Int), .int .i64 (1 : Int)] from Blk.below (by repeat (first | with_reducible exact bk5.out | with_reducible refine Blk.drewN ?_ _ | with_reducible refine Blk.drew ?_ | with_reducible refine Blk.alloc ?_ _)) hb (by have := bk5.out.lt; first | omega | (simp; omega)))
    have bo6 := Lib.hid (show Blk w6 (w3.heap.size + 1) 27 #[.int .i64 1, .int .i64 1] from Blk.below (by repeat (first | with_reducible exact bo5.out | with_reducible refine Blk.drewN ?_ _ | with_reducible refine Blk.drew ?_ | with_reducible refine Blk.alloc ?_ _)) hb (by have := bo5.out.lt; first | omega | (simp; omega)))
    have HDt6 := Lib.hid (show Below w1.heap.size w1 w6 from bl_trans (by repeat (first | with_reducible exact HDt5.out | with_reducible refine Below.drew ?_ | with_reducible refine bl_drewN ?_ _ | with_reducible refine bl_alloc ?_ _)) hb)
    clear hb HB5 bx5 bk5 bo5 cx ck co HDt5
    have cx := fun o0 => (bx6.out.alloc o0).cell
    have ck := fun o0 => (bk6.out.alloc o0).cell
    have co := fun o0 => (bo6.out.alloc o0).cell
    have hS6 := And.intro (Blk.two (show Blk (w6.alloc (.cells #[.int .i64 (x : Int), .int .i64 (y : Int)] 27)) (w2.heap.size) 27 #[.int .i64 (1 : Int), .int .i64 (1 : Int)] from by repeat (first | with_reducible exact bx6.out | with_reducible refine Blk.alloc ?_ _))) (And.intro (Blk.two (show Blk (w6.alloc (.cells #[.int .i64 (x : Int), .int .i64 (y : Int)] 27)) (w3.heap.size + 1) 27 #[.int .i64 1, .int .i64 1] from by repeat (first | with_reducible exact bo6.out | with_reducible refine Blk.alloc ?_ _))) (Blk.two (show Blk (w6.alloc (.cells #[.int .i64 (x : Int), .int .i64 (y : Int)] 27)) (w6.heap.size) 27 #[.int .i64 (x : Int), .int .i64 (y : Int)] from by have hh := Blk.new w6 27 #[.int .i64 (x : Int), .int .i64 (y : Int)]; (try simp only [World.size_alloc] at hh); repeat (first | exact hh | with_reducible refine Blk.alloc ?_ _))))
    go_wp2_with fail
    refine wp_region_held_drew (S := (fun W => (W.cell? ⟨w2.heap.size, 0, none⟩ = some (.int .i64 (1 : Int)) ∧ W.cell? ⟨w2.heap.size, 1, none⟩ = some (.int .i64 (1 : Int))) ∧ (W.cell? ⟨w3.heap.size + 1, 0, none⟩ = some (.int .i64 1) ∧ W.cell? ⟨w3.heap.size + 1, 1, none⟩ = some (.int .i64 1)) ∧ (W.cell? ⟨w6.heap.size, 0, none⟩ = some (.int .i64 (x : Int)) ∧ W.cell? ⟨w6.heap.size, 1, none⟩ = some (.int .i64 (y : Int))))) (by kernel_rfl) (by (first | exact hS6 | exact hS7 | exact hS8 | exact hS9)) (fun hHeld0 => ?_)
    refine wpAnyH_take (i := 0) (oi := { dst := some 60, op := Go.Op.load 27 (Go.Operand.tmp 4), type := 27, pos := "laws.go:1254", after := #[], guard := none }) (v := ?v0) rfl (by kernel_rfl) (by kernel_rfl) (by kernel_rfl) (fun _ _ _ h => h) (Or.inl ⟨by rfl, ?hy0⟩) hHeld0 ?rest0
    case hy0 => first | (intro w hSw; (try dsimp only at hSw); go_simp; done) | (intro w hSw; (try dsimp only at hSw); go_simp; with_reducible rfl)
    (try simp only [Act.put, List.setIfInBounds_toArray, List.set_cons_zero, List.set_cons_succ])
    refine wpAnyH_ready (rs := [1]) (by kernel_rfl) (by simp) ?_
    refine AllReadyH.cons (o := { dst := some 61, op := Go.Op.call { callee := Go.Callee.value (Go.Operand.func 27), args := #[Go.Operand.tmp 60], argTypes := #[27] }, type := 4, pos := "laws.go:1254", after := #[{ on := 0, ground := Go.Ground.data }], guard := none }) rfl (fun K hK => ?_) AllReadyH.nil
    go_simp
    (have uu := HB6; clear uu; go_at_call 27; refine (iShare_is _ 1 1 true HV.out).mono ?_; rintro e w7 ⟨rfl, hb⟩; have hs7 := hb.size; have HB7 := Lib.hid (show Below w.heap.size w w7 from bl_trans (by repeat (first | with_reducible exact HB6.out | with_reducible refine bl_drewN ?_ _ | with_reducible refine Below.drew ?_ | with_reducible refine bl_alloc ?_ _)) hb); have bx7 := Lib.hid (show Blk w7 (w2.heap.size) 27 #[.int .i64 (1 : Int), .int .i64 (1 : Int)] from Blk.below (by repeat (first | with_reducible exact bx6.out | with_reducible refine Blk.drewN ?_ _ | with_reducible refine Blk.drew ?_ | with_reducible refine Blk.alloc ?_ _)) hb (by have := bx6.out.lt; first | exact this | omega | (simp; omega))); have cx := bx7.out.cell; have bk7 := Lib.hid (show Blk w7 (w3.heap.size) 27 #[.int .i64 (1 : Int), .int .i64 (1 : Int)] from Blk.below (by repeat (first | with_reducible exact bk6.out | with_reducible refine Blk.drewN ?_ _ | with_reducible refine Blk.drew ?_ | with_reducible refine Blk.alloc ?_ _)) hb (by have := bk6.out.lt; first | exact this | omega | (simp; omega))); have ck := bk7.out.cell; have bo7 := Lib.hid (show Blk w7 (w3.heap.size + 1) 27 #[.int .i64 1, .int .i64 1] from Blk.below (by repeat (first | with_reducible exact bo6.out | with_reducible refine Blk.drewN ?_ _ | with_reducible refine Blk.drew ?_ | with_reducible refine Blk.alloc ?_ _)) hb (by have := bo6.out.lt; first | exact this | omega | (simp; omega))); have co := bo7.out.cell; have bl7 := Lib.hid (show Blk w7 (w6.heap.size) 27 #[.int .i64 (x : Int), .int .i64 (y : Int)] from Blk.below (by have hh := Blk.new w6 27 #[.int .i64 (x : Int), .int .i64 (y : Int)]; (try simp only [World.size_alloc] at hh); repeat (first | exact hh | with_reducible refine Blk.drewN ?_ _ | with_reducible refine Blk.drew ?_ | with_reducible refine Blk.alloc ?_ _)) hb (by first | omega | (simp; done) | (simp; omega))); have cl := bl7.out.cell; have HDt7 := Lib.hid (show Below w1.heap.size w1 w7 from bl_trans (by repeat (first | with_reducible exact HDt6.out | with_reducible refine Below.drew ?_ | with_reducible refine bl_drewN ?_ _ | with_reducible refine bl_alloc ?_ _)) hb); have hS7 := And.intro (Blk.two bx7.out) (And.intro (Blk.two bo7.out) (Blk.two bl7.out)); clear hb HB6)
    (try go_wp2_with fail)
    refine hK.out _ _ (by (first | exact hS6 | exact hS7 | exact hS8 | exact hS9)) (fun hHeld1 => ?_)
    clear hK K
    (try simp only [Act.put, List.setIfInBounds_toArray, List.set_cons_zero, List.set_cons_succ])
    refine wpAnyH_take (i := 2) (oi := { dst := some 62, op := Go.Op.move (Go.Operand.tmp 61), type := 4, pos := "laws.go:1254", after := #[{ on := 1, ground := Go.Ground.data }, { on := 1, ground := Go.Ground.chain }], guard := none }) (v := ?v2) rfl (by kernel_rfl) (by kernel_rfl) (by kernel_rfl) (fun _ _ _ h => h) (Or.inl ⟨by rfl, ?hy2⟩) hHeld1 ?rest2
    case hy2 => first | (intro w hSw; (try dsimp only at hSw); go_simp; done) | (intro w hSw; (try dsimp only at hSw); go_simp; with_reducible rfl)
    (try simp only [Act.put, List.setIfInBounds_toArray, List.set_cons_zero, List.set_cons_succ])
    refine wpAnyH_take (i := 3) (oi := { dst := some 63, op := Go.Op.load 27 (Go.Operand.tmp 4), type := 27, pos := "laws.go:1254", after := #[{ on := 2, ground := Go.Ground.guard }], guard := some (2, true) }) (v := ?v3) rfl (by kernel_rfl) (by kernel_rfl) (by kernel_rfl) (fun _ _ _ h => h) (Or.inl ⟨by rfl, ?hy3⟩) hHeld1 ?rest3
    case hy3 => first | (intro w hSw; (try dsimp only at hSw); go_simp; done) | (intro w hSw; (try dsimp only at hSw); go_simp; with_reducible rfl)
    (try simp only [Act.put, List.setIfInBounds_toArray, List.set_cons_zero, List.set_cons_succ])
    refine wpAnyH_take (i := 4) (oi := { dst := some 64, op := Go.Op.load 27 (Go.Operand.tmp 8), type := 27, pos := "laws.go:1254", after := #[{ on := 2, ground := Go.Ground.guard }], guard := some (2, true) }) (v := ?v4) rfl (by kernel_rfl) (by kernel_rfl) (by kernel_rfl) (fun _ _ _ h => h) (Or.inl ⟨by rfl, ?hy4⟩) hHeld1 ?rest4
    case hy4 => first | (intro w hSw; (try dsimp only at hSw); go_simp; done) | (intro w hSw; (try dsimp only at hSw); go_simp; with_reducible rfl)
    (try simp only [Act.put, List.setIfInBounds_toArray, List.set_cons_zero, List.set_cons_succ])
    refine wpAnyH_ready (rs := [5]) (by kernel_rfl) (by simp) ?_
    refine AllReadyH.cons (o := { dst := some 65, op := Go.Op.call { callee := Go.Callee.value (Go.Operand.func 21), args := #[Go.Operand.tmp 63, Go.Operand.tmp 64], argTypes := #[27, 27] }, type := 3, pos := "laws.go:1254", after := #[{ on := 3, ground := Go.Ground.data }, { on := 4, ground := Go.Ground.data }, { on := 2, ground := Go.Ground.chain }, { on := 2, ground := Go.Ground.guard }], guard := some (2, true) }) rfl (fun K hK => ?_) AllReadyH.nil
    go_simp
    (have uu := HB7; clear uu; go_at_call 21; refine (iCmp_is _ 1 1 1 1 z HZ.out).mono ?_; rintro e w8 ⟨rfl, hb⟩; have hs8 := hb.size; have HB8 := Lib.hid (show Below w.heap.size w w8 from bl_trans (by repeat (first | with_reducible exact HB7.out | with_reducible refine bl_drewN ?_ _ | with_reducible refine Below.drew ?_ | with_reducible refine bl_alloc ?_ _)) hb); have bx8 := Lib.hid (show Blk w8 (w2.heap.size) 27 #[.int .i64 (1 : Int), .int .i64 (1 : Int)] from Blk.below (by repeat (first | with_reducible exact bx7.out | with_reducible refine Blk.drewN ?_ _ | with_reducible refine Blk.drew ?_ | with_reducible refine Blk.alloc ?_ _)) hb (by have := bx7.out.lt; first | exact this | omega | (simp; omega))); have cx := bx8.out.cell; have bk8 := Lib.hid (show Blk w8 (w3.heap.size) 27 #[.int .i64 (1 : Int), .int .i64 (1 : Int)] from Blk.below (by repeat (first | with_reducible exact bk7.out | with_reducible refine Blk.drewN ?_ _ | with_reducible refine Blk.drew ?_ | with_reducible refine Blk.alloc ?_ _)) hb (by have := bk7.out.lt; first | exact this | omega | (simp; omega))); have ck := bk8.out.cell; have bo8 := Lib.hid (show Blk w8 (w3.heap.size + 1) 27 #[.int .i64 1, .int .i64 1] from Blk.below (by repeat (first | with_reducible exact bo7.out | with_reducible refine Blk.drewN ?_ _ | with_reducible refine Blk.drew ?_ | with_reducible refine Blk.alloc ?_ _)) hb (by have := bo7.out.lt; first | exact this | omega | (simp; omega))); have co := bo8.out.cell; have bl8 := Lib.hid (show Blk w8 (w6.heap.size) 27 #[.int .i64 (x : Int), .int .i64 (y : Int)] from Blk.below (by repeat (first | with_reducible exact bl7.out | with_reducible refine Blk.drewN ?_ _ | with_reducible refine Blk.drew ?_ | with_reducible refine Blk.alloc ?_ _)) hb (by have := bl7.out.lt; first | exact this | omega | (simp; omega))); have cl := bl8.out.cell; have HDt8 := Lib.hid (show Below w1.heap.size w1 w8 from bl_trans (by repeat (first | with_reducible exact HDt7.out | with_reducible refine Below.drew ?_ | with_reducible refine bl_drewN ?_ _ | with_reducible refine bl_alloc ?_ _)) hb); have hS8 := And.intro (Blk.two bx8.out) (And.intro (Blk.two bo8.out) (Blk.two bl8.out)); clear hb HB7)
    (try go_wp2_with fail)
    refine hK.out _ _ (by (first | exact hS6 | exact hS7 | exact hS8 | exact hS9)) (fun hHeld2 => ?_)
    clear hK K
    (try simp only [Act.put, List.setIfInBounds_toArray, List.set_cons_zero, List.set_cons_succ])
    refine wpAnyH_take (i := 6) (oi := { dst := some 66, op := Go.Op.binOp Go.BinOp.leq 3 (Go.Operand.tmp 65) (Go.Operand.const (Go.Value.int Go.IntKind.i64 0)) 3, type := 4, pos := "laws.go:1254", after := #[{ on := 5, ground := Go.Ground.data }, { on := 2, ground := Go.Ground.guard }], guard := some (2, true) }) (v := ?v6) rfl (by kernel_rfl) (by kernel_rfl) (by kernel_rfl) (fun _ _ _ h => h) (Or.inl ⟨by rfl, ?hy6⟩) hHeld2 ?rest6
    case hy6 => first | (intro w hSw; (try dsimp only at hSw); go_simp; done) | (intro w hSw; (try dsimp only at hSw); go_simp; with_reducible rfl)
    (try simp only [Act.put, List.setIfInBounds_toArray, List.set_cons_zero, List.set_cons_succ])
    refine wpAnyH_take (i := 7) (oi := { dst := some 67, op := Go.Op.pick (Go.Operand.tmp 62) (Go.Operand.tmp 66) (Go.Operand.const (Go.Value.bool false)), type := 4, pos := "laws.go:1254", after := #[{ on := 2, ground := Go.Ground.data }, { on := 6, ground := Go.Ground.data }], guard := none }) (v := ?v7) rfl (by kernel_rfl) (by kernel_rfl) (by kernel_rfl) (fun _ _ _ h => h) (Or.inl ⟨by rfl, ?hy7⟩) hHeld2 ?rest7
    case hy7 => first | (intro w hSw; (try dsimp only at hSw); go_simp; done) | (intro w hSw; (try dsimp only at hSw); go_simp; with_reducible rfl)
    (try simp only [Act.put, List.setIfInBounds_toArray, List.set_cons_zero, List.set_cons_succ])
    refine wpAnyH_take (i := 8) (oi := { dst := some 68, op := Go.Op.move (Go.Operand.tmp 67), type := 4, pos := "laws.go:1254", after := #[{ on := 7, ground := Go.Ground.data }, { on := 5, ground := Go.Ground.chain }], guard := none }) (v := ?v8) rfl (by kernel_rfl) (by kernel_rfl) (by kernel_rfl) (fun _ _ _ h => h) (Or.inl ⟨by rfl, ?hy8⟩) hHeld2 ?rest8
    case hy8 => first | (intro w hSw; (try dsimp only at hSw); go_simp; done) | (intro w hSw; (try dsimp only at hSw); go_simp; with_reducible rfl)
    (try simp only [Act.put, List.setIfInBounds_toArray, List.set_cons_zero, List.set_cons_succ])
    refine wpAnyH_take (i := 9) (oi := { dst := some 69, op := Go.Op.move (Go.Operand.tmp 10), type := 4, pos := "laws.go:1254", after := #[{ on := 8, ground := Go.Ground.guard }], guard := some (8, true) }) (v := ?v9) rfl (by kernel_rfl) (by kernel_rfl) (by kernel_rfl) (fun _ _ _ h => h) (Or.inl ⟨by rfl, ?hy9⟩) hHeld2 ?rest9
    case hy9 => first | (intro w hSw; (try dsimp only at hSw); go_simp; done) | (intro w hSw; (try dsimp only at hSw); go_simp; with_reducible rfl)
    (try simp only [Act.put, List.setIfInBounds_toArray, List.set_cons_zero, List.set_cons_succ])
    refine wpAnyH_take (i := 10) (oi := { dst := some 70, op := Go.Op.pick (Go.Operand.tmp 68) (Go.Operand.tmp 69) (Go.Operand.const (Go.Value.bool false)), type := 4, pos := "laws.go:1254", after := #[{ on := 8, ground := Go.Ground.data }, { on := 9, ground := Go.Ground.data }], guard := none }) (v := ?v10) rfl (by kernel_rfl) (by kernel_rfl) (by kernel_rfl) (fun _ _ _ h => h) (Or.inl ⟨by rfl, ?hy10⟩) hHeld2 ?rest10
    case hy10 => first | (intro w hSw; (try dsimp only at hSw); go_simp; done) | (intro w hSw; (try dsimp only at hSw); go_simp; with_reducible rfl)
    (try simp only [Act.put, List.setIfInBounds_toArray, List.set_cons_zero, List.set_cons_succ])
    refine wpAnyH_take (i := 11) (oi := { dst := some 71, op := Go.Op.move (Go.Operand.tmp 70), type := 4, pos := "laws.go:1254", after := #[{ on := 10, ground := Go.Ground.data }, { on := 8, ground := Go.Ground.chain }], guard := none }) (v := ?v11) rfl (by kernel_rfl) (by kernel_rfl) (by kernel_rfl) (fun _ _ _ h => h) (Or.inl ⟨by rfl, ?hy11⟩) hHeld2 ?rest11
    case hy11 => first | (intro w hSw; (try dsimp only at hSw); go_simp; done) | (intro w hSw; (try dsimp only at hSw); go_simp; with_reducible rfl)
    (try simp only [Act.put, List.setIfInBounds_toArray, List.set_cons_zero, List.set_cons_succ])
    refine wpAnyH_take (i := 12) (oi := { dst := some 72, op := Go.Op.load 27 (Go.Operand.tmp 4), type := 27, pos := "laws.go:1254", after := #[{ on := 11, ground := Go.Ground.guard }], guard := some (11, true) }) (v := ?v12) rfl (by kernel_rfl) (by kernel_rfl) (by kernel_rfl) (fun _ _ _ h => h) (Or.inl ⟨by rfl, ?hy12⟩) hHeld2 ?rest12
    case hy12 => first | (intro w hSw; (try dsimp only at hSw); go_simp; done) | (intro w hSw; (try dsimp only at hSw); go_simp; with_reducible rfl)
    (try simp only [Act.put, List.setIfInBounds_toArray, List.set_cons_zero, List.set_cons_succ])
    refine wpAnyH_take (i := 13) (oi := { dst := some 73, op := Go.Op.load 27 (Go.Operand.tmp 8), type := 27, pos := "laws.go:1254", after := #[{ on := 11, ground := Go.Ground.guard }], guard := some (11, true) }) (v := ?v13) rfl (by kernel_rfl) (by kernel_rfl) (by kernel_rfl) (fun _ _ _ h => h) (Or.inl ⟨by rfl, ?hy13⟩) hHeld2 ?rest13
    case hy13 => first | (intro w hSw; (try dsimp only at hSw); go_simp; done) | (intro w hSw; (try dsimp only at hSw); go_simp; with_reducible rfl)
    (try simp only [Act.put, List.setIfInBounds_toArray, List.set_cons_zero, List.set_cons_succ])
    refine wpAnyH_take (i := 14) (oi := { dst := some 74, op := Go.Op.binOp Go.BinOp.eql 27 (Go.Operand.tmp 72) (Go.Operand.tmp 73) 27, type := 4, pos := "laws.go:1254", after := #[{ on := 12, ground := Go.Ground.data }, { on := 13, ground := Go.Ground.data }, { on := 11, ground := Go.Ground.guard }], guard := some (11, true) }) (v := ?v14) rfl (by kernel_rfl) (by kernel_rfl) (by kernel_rfl) (fun _ _ _ h => h) (Or.inl ⟨by rfl, ?hy14⟩) hHeld2 ?rest14
    case hy14 => first | (intro w hSw; (try dsimp only at hSw); go_simp; done) | (intro w hSw; (try dsimp only at hSw); go_simp; with_reducible rfl)
    (try simp only [Act.put, List.setIfInBounds_toArray, List.set_cons_zero, List.set_cons_succ])
    refine wpAnyH_take (i := 15) (oi := { dst := some 75, op := Go.Op.move (Go.Operand.tmp 3), type := 23, pos := "laws.go:1254", after := #[{ on := 11, ground := Go.Ground.guard }], guard := some (11, true) }) (v := ?v15) rfl (by kernel_rfl) (by kernel_rfl) (by kernel_rfl) (fun _ _ _ h => h) (Or.inl ⟨by rfl, ?hy15⟩) hHeld2 ?rest15
    case hy15 => first | (intro w hSw; (try dsimp only at hSw); go_simp; done) | (intro w hSw; (try dsimp only at hSw); go_simp; with_reducible rfl)
    (try simp only [Act.put, List.setIfInBounds_toArray, List.set_cons_zero, List.set_cons_succ])
    refine wpAnyH_ready (rs := [16]) (by kernel_rfl) (by simp) ?_
    refine AllReadyH.cons (o := { dst := some 76, op := Go.Op.call { callee := Go.Callee.value (Go.Operand.func 18), args := #[Go.Operand.tmp 75], argTypes := #[23] }, type := 4, pos := "laws.go:1254", after := #[{ on := 15, ground := Go.Ground.data }, { on := 11, ground := Go.Ground.chain }, { on := 11, ground := Go.Ground.guard }], guard := some (11, true) }) rfl (fun K hK => ?_) AllReadyH.nil
    go_simp
    (have uu := HB8; clear uu; go_at_call 18; refine (iPlain_is _ At _ ct ts ((HTt.out.below (by repeat (first | with_reducible exact HDt8.out | with_reducible refine Below.drew ?_ | with_reducible refine bl_drewN ?_ _ | with_reducible refine bl_alloc ?_ _) : Below w1.heap.size w1 _)).more (Below.size (by repeat (first | with_reducible exact HDt8.out | with_reducible refine Below.drew ?_ | with_reducible refine bl_drewN ?_ _ | with_reducible refine bl_alloc ?_ _) : Below w1.heap.size w1 _))) (by omega) e0 (by repeat (first | exact HE.out.below HB8.out | refine EG.drewN ?_ _ | refine EG.drew ?_ | refine EG.alloc ?_ _)) true HPL.out).mono ?_; rintro e w9 ⟨rfl, hb⟩; have hs9 := hb.size; have HB9 := Lib.hid (show Below w.heap.size w w9 from bl_trans (by repeat (first | with_reducible exact HB8.out | with_reducible refine bl_drewN ?_ _ | with_reducible refine Below.drew ?_ | with_reducible refine bl_alloc ?_ _)) hb); have bx9 := Lib.hid (show Blk w9 (w2.heap.size) 27 #[.int .i64 (1 : Int), .int .i64 (1 : Int)] from Blk.below (by repeat (first | with_reducible exact bx8.out | with_reducible refine Blk.drewN ?_ _ | with_reducible refine Blk.drew ?_ | with_reducible refine Blk.alloc ?_ _)) hb (by have := bx8.out.lt; first | exact this | omega | (simp; omega))); have cx := bx9.out.cell; have bk9 := Lib.hid (show Blk w9 (w3.heap.size) 27 #[.int .i64 (1 : Int), .int .i64 (1 : Int)] from Blk.below (by repeat (first | with_reducible exact bk8.out | with_reducible refine Blk.drewN ?_ _ | with_reducible refine Blk.drew ?_ | with_reducible refine Blk.alloc ?_ _)) hb (by have := bk8.out.lt; first | exact this | omega | (simp; omega))); have ck := bk9.out.cell; have bo9 := Lib.hid (show Blk w9 (w3.heap.size + 1) 27 #[.int .i64 1, .int .i64 1] from Blk.below (by repeat (first | with_reducible exact bo8.out | with_reducible refine Blk.drewN ?_ _ | with_reducible refine Blk.drew ?_ | with_reducible refine Blk.alloc ?_ _)) hb (by have := bo8.out.lt; first | exact this | omega | (simp; omega))); have co := bo9.out.cell; have bl9 := Lib.hid (show Blk w9 (w6.heap.size) 27 #[.int .i64 (x : Int), .int .i64 (y : Int)] from Blk.below (by repeat (first | with_reducible exact bl8.out | with_reducible refine Blk.drewN ?_ _ | with_reducible refine Blk.drew ?_ | with_reducible refine Blk.alloc ?_ _)) hb (by have := bl8.out.lt; first | exact this | omega | (simp; omega))); have cl := bl9.out.cell; have HDt9 := Lib.hid (show Below w1.heap.size w1 w9 from bl_trans (by repeat (first | with_reducible exact HDt8.out | with_reducible refine Below.drew ?_ | with_reducible refine bl_drewN ?_ _ | with_reducible refine bl_alloc ?_ _)) hb); have hS9 := And.intro (Blk.two bx9.out) (And.intro (Blk.two bo9.out) (Blk.two bl9.out)); clear hb HB8)
    (try go_wp2_with fail)
    refine hK.out _ _ (by (first | exact hS6 | exact hS7 | exact hS8 | exact hS9)) (fun hHeld3 => ?_)
    clear hK K
    (try simp only [Act.put, List.setIfInBounds_toArray, List.set_cons_zero, List.set_cons_succ])
    refine wpAnyH_take (i := 17) (oi := { dst := some 77, op := Go.Op.move (Go.Operand.tmp 76), type := 4, pos := "laws.go:1254", after := #[{ on := 16, ground := Go.Ground.data }, { on := 16, ground := Go.Ground.chain }, { on := 11, ground := Go.Ground.guard }], guard := some (11, true) }) (v := ?v17) rfl (by kernel_rfl) (by kernel_rfl) (by kernel_rfl) (fun _ _ _ h => h) (Or.inl ⟨by rfl, ?hy17⟩) hHeld3 ?rest17
    case hy17 => first | (intro w hSw; (try dsimp only at hSw); go_simp; done) | (intro w hSw; (try dsimp only at hSw); go_simp; with_reducible rfl)
    (try simp only [Act.put, List.setIfInBounds_toArray, List.set_cons_zero, List.set_cons_succ])
    refine wpAnyH_take (i := 18) (oi := { dst := some 78, op := Go.Op.load 27 (Go.Operand.tmp 9), type := 27, pos := "laws.go:1254", after := #[{ on := 17, ground := Go.Ground.guard }], guard := some (17, false) }) (v := undef) rfl (by kernel_rfl) (by kernel_rfl) (by kernel_rfl) (fun _ _ _ h => h) (Or.inr ⟨by rfl, by rfl⟩) hHeld3 ?_
    (try simp only [Act.put, List.setIfInBounds_toArray, List.set_cons_zero, List.set_cons_succ])
    refine wpAnyH_take (i := 19) (oi := { dst := some 79, op := Go.Op.load 27 (Go.Operand.tmp 8), type := 27, pos := "laws.go:1254", after := #[{ on := 17, ground := Go.Ground.guard }], guard := some (17, false) }) (v := undef) rfl (by kernel_rfl) (by kernel_rfl) (by kernel_rfl) (fun _ _ _ h => h) (Or.inr ⟨by rfl, by rfl⟩) hHeld3 ?_
    (try simp only [Act.put, List.setIfInBounds_toArray, List.set_cons_zero, List.set_cons_succ])
    refine wpAnyH_take (i := 20) (oi := { dst := some 80, op := Go.Op.binOp Go.BinOp.eql 27 (Go.Operand.tmp 78) (Go.Operand.tmp 79) 27, type := 4, pos := "laws.go:1254", after := #[{ on := 18, ground := Go.Ground.data }, { on := 19, ground := Go.Ground.data }, { on := 17, ground := Go.Ground.guard }], guard := some (17, false) }) (v := undef) rfl (by kernel_rfl) (by kernel_rfl) (by kernel_rfl) (fun _ _ _ h => h) (Or.inr ⟨by rfl, by rfl⟩) hHeld3 ?_
    (try simp only [Act.put, List.setIfInBounds_toArray, List.set_cons_zero, List.set_cons_succ])
    refine wpAnyH_take (i := 21) (oi := { dst := some 81, op := Go.Op.pick (Go.Operand.tmp 77) (Go.Operand.const (Go.Value.bool true)) (Go.Operand.tmp 80), type := 4, pos := "laws.go:1254", after := #[{ on := 17, ground := Go.Ground.data }, { on := 20, ground := Go.Ground.data }, { on := 11, ground := Go.Ground.guard }], guard := some (11, true) }) (v := ?v21) rfl (by kernel_rfl) (by kernel_rfl) (by kernel_rfl) (fun _ _ _ h => h) (Or.inl ⟨by rfl, ?hy21⟩) hHeld3 ?rest21
    case hy21 => first | (intro w hSw; (try dsimp only at hSw); go_simp; done) | (intro w hSw; (try dsimp only at hSw); go_simp; with_reducible rfl)
    (try simp only [Act.put, List.setIfInBounds_toArray, List.set_cons_zero, List.set_cons_succ])
    refine wpAnyH_take (i := 22) (oi := { dst := some 82, op := Go.Op.binOp Go.BinOp.eql 4 (Go.Operand.tmp 74) (Go.Operand.tmp 81) 4, type := 4, pos := "laws.go:1254", after := #[{ on := 14, ground := Go.Ground.data }, { on := 21, ground := Go.Ground.data }, { on := 11, ground := Go.Ground.guard }], guard := some (11, true) }) (v := ?v22) rfl (by kernel_rfl) (by kernel_rfl) (by kernel_rfl) (fun _ _ _ h => h) (Or.inl ⟨by rfl, ?hy22⟩) hHeld3 ?rest22
    case hy22 => first | (intro w hSw; (try dsimp only at hSw); go_simp; done) | (intro w hSw; (try dsimp only at hSw); go_simp; with_reducible rfl)
    (try simp only [Act.put, List.setIfInBounds_toArray, List.set_cons_zero, List.set_cons_succ])
    refine wpAnyH_take (i := 23) (oi := { dst := some 83, op := Go.Op.pick (Go.Operand.tmp 71) (Go.Operand.tmp 82) (Go.Operand.const (Go.Value.bool false)), type := 4, pos := "laws.go:1254", after := #[{ on := 11, ground := Go.Ground.data }, { on := 22, ground := Go.Ground.data }], guard := none }) (v := ?v23) rfl (by kernel_rfl) (by kernel_rfl) (by kernel_rfl) (fun _ _ _ h => h) (Or.inl ⟨by rfl, ?hy23⟩) hHeld3 ?rest23
    case hy23 => first | (intro w hSw; (try dsimp only at hSw); go_simp; done) | (intro w hSw; (try dsimp only at hSw); go_simp; with_reducible rfl)
    (try simp only [Act.put, List.setIfInBounds_toArray, List.set_cons_zero, List.set_cons_succ])
    refine wpAnyH_take (i := 24) (oi := { dst := some 2, op := Go.Op.assign (Go.Operand.tmp 83), type := 4, pos := "laws.go:1254", after := #[{ on := 23, ground := Go.Ground.data }, { on := 17, ground := Go.Ground.chain }, { on := 0, ground := Go.Ground.phase }, { on := 1, ground := Go.Ground.phase }, { on := 2, ground := Go.Ground.phase }, { on := 3, ground := Go.Ground.phase }, { on := 4, ground := Go.Ground.phase }, { on := 5, ground := Go.Ground.phase }, { on := 6, ground := Go.Ground.phase }, { on := 7, ground := Go.Ground.phase }, { on := 8, ground := Go.Ground.phase }, { on := 9, ground := Go.Ground.phase }, { on := 10, ground := Go.Ground.phase }, { on := 11, ground := Go.Ground.phase }, { on := 12, ground := Go.Ground.phase }, { on := 13, ground := Go.Ground.phase }, { on := 14, ground := Go.Ground.phase }, { on := 15, ground := Go.Ground.phase }, { on := 16, ground := Go.Ground.phase }, { on := 17, ground := Go.Ground.phase }, { on := 18, ground := Go.Ground.phase }, { on := 19, ground := Go.Ground.phase }, { on := 20, ground := Go.Ground.phase }, { on := 21, ground := Go.Ground.phase }, { on := 22, ground := Go.Ground.phase }, { on := 23, ground := Go.Ground.phase }], guard := none }) (v := ?v24) rfl (by kernel_rfl) (by kernel_rfl) (by kernel_rfl) (fun _ _ _ h => h) (Or.inl ⟨by rfl, ?hy24⟩) hHeld3 ?rest24
    case hy24 => first | (intro w hSw; (try dsimp only at hSw); go_simp; done) | (intro w hSw; (try dsimp only at hSw); go_simp; with_reducible rfl)
    (try simp only [Act.put, List.setIfInBounds_toArray, List.set_cons_zero, List.set_cons_succ])
    refine wpAnyH_done (by kernel_rfl) ?_ _
    have hkx9 := bx9.out.lt
    have hkk9 := bk9.out.lt
    have hko9 := bo9.out.lt
    have hkl9 := bl9.out.lt
    have cx := bx9.out.cell
    have ck := bk9.out.cell
    have co := bo9.out.cell
    have cl := bl9.out.cell
    go_wp2
    (try (go_quiet (fail); go_wp2))
    go_ret
    exact ⟨rfl, by repeat (first | with_reducible exact HB9.out | refine bl_drewN ?_ _ | refine Below.drew ?_ | refine bl_alloc ?_ _ | refine bl_set ?_ (by dsimp only; omega) _)⟩

end Go.Proofs.YtpngfonnoepmfaaDoor
