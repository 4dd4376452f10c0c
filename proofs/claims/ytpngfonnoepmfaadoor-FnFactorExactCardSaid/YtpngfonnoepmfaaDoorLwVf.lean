/- Walk of the law FnFactorExact. -/
import Derived.Test.YtpngfonnoepmfaaDoorM6
import Derived.Test.YtpngfonnoepmfaaDoorM2
import Derived.Test.YtpngfonnoepmfaaDoorM8
import Derived.Test.YtpngfonnoepmfaaDoorM5
import Derived.Test.YtpngfonnoepmfaaDoorM3
import Derived.Deep.RegionWith
import Derived.Deep.RegionHeld3
namespace Go.Proofs.YtpngfonnoepmfaaDoor
open Go.RowKit
set_option linter.unusedVariables false

set_option maxRecDepth 100000 in
set_option maxHeartbeats 6000000 in
theorem fnFactorExact_walk (w : World) (A : Option Addr) (n c : Nat) (f : Nat → Int) (h : Code w w.heap.size A n c f) (e0 : Addr) (he : EG w e0) :
    Calls Tryd.prog 13 #[.slice A n c] w fun e w' => e = .returned (.bool true) ∧ Below w.heap.size w w' := by
  have H := Lib.hid h
  have HE := Lib.hid he
  have hle := h.le
  have hmax := h.max
  unfold maxLen at hmax
  clear h he
  by_cases hn : 1048576 < n
  · go_enter Tryd.func13, Tryd.ntmps13
    go_wp2
    go_ret
    exact ⟨rfl, Below.refl _ _⟩
  go_enter Tryd.func13, Tryd.ntmps13
  go_wp2_with fail
  refine (dDrawFactorOf_any _ A n c f H.out).mono ?_
  rintro e w1 ⟨At, ct, ts, rfl, hl, ho, hb⟩
  have HB1 := Lib.hid hb
  have HO := Lib.hid ho
  have HTt := Lib.hid ho.reads.2
  clear hb H ho
  have HDt1 := Lib.hid (Below.refl w1.heap.size w1)
  cases hf : facB ts
  · have hf0 := facV_no hf
    go_wp2_with fail
    (try (go_quiet (fail); go_wp2_with fail))
    refine (iFac_is _ At _ ct ts ((HTt.out.below (by repeat (first | with_reducible exact HDt1.out | with_reducible refine Below.drew ?_ | with_reducible refine bl_drewN ?_ _ | with_reducible refine bl_alloc ?_ _) : Below w1.heap.size w1 _)).more (Below.size (by repeat (first | with_reducible exact HDt1.out | with_reducible refine Below.drew ?_ | with_reducible refine bl_drewN ?_ _ | with_reducible refine bl_alloc ?_ _) : Below w1.heap.size w1 _))) (by omega) e0 (by repeat (first | exact HE.out.below HB1.out | refine EG.drewN ?_ _ | refine EG.drew ?_ | refine EG.alloc ?_ _)) 0 0 false hf0 hf).mono ?_
    rintro e w2 ⟨rfl, hb⟩
    have hs2 := hb.size
    have HB2 := Lib.hid (show Below w.heap.size w w2 from bl_trans (by repeat (first | with_reducible exact HB1.out | with_reducible refine bl_drewN ?_ _ | with_reducible refine Below.drew ?_ | with_reducible refine bl_alloc ?_ _)) hb)
    have HDt2 := Lib.hid (show Below w1.heap.size w1 w2 from bl_trans (by repeat (first | with_reducible exact HDt1.out | with_reducible refine Below.drew ?_ | with_reducible refine bl_drewN ?_ _ | with_reducible refine bl_alloc ?_ _)) hb)
    clear hb HB1 HDt1
    go_wp2_with fail
    (try (go_quiet (fail); go_wp2_with fail))
    refine (sFac_is _ At _ ct ts ((HTt.out.below (by repeat (first | with_reducible exact HDt2.out | with_reducible refine Below.drew ?_ | with_reducible refine bl_drewN ?_ _ | with_reducible refine bl_alloc ?_ _) : Below w1.heap.size w1 _)).more (Below.size (by repeat (first | with_reducible exact HDt2.out | with_reducible refine Below.drew ?_ | with_reducible refine bl_drewN ?_ _ | with_reducible refine bl_alloc ?_ _) : Below w1.heap.size w1 _))) (by omega) 0 0 false hf0 hf).mono ?_
    rintro e w3 ⟨rfl, hb⟩
    have hs3 := hb.size
    have HB3 := Lib.hid (show Below w.heap.size w w3 from bl_trans (by repeat (first | with_reducible exact HB2.out | with_reducible refine bl_drewN ?_ _ | with_reducible refine Below.drew ?_ | with_reducible refine bl_alloc ?_ _)) hb)
    have bx3 := Lib.hid (show Blk w3 (w2.heap.size) 27 #[.int .i64 0, .int .i64 0] from Blk.below (by have hh := Blk.new w2 27 #[.int .i64 0, .int .i64 0]; (try simp only [World.size_alloc] at hh); repeat (first | exact hh | with_reducible refine Blk.drewN ?_ _ | with_reducible refine Blk.drew ?_ | with_reducible refine Blk.alloc ?_ _)) hb (by first | omega | (simp; done) | (simp; omega)))
    have HDt3 := Lib.hid (show Below w1.heap.size w1 w3 from bl_trans (by repeat (first | with_reducible exact HDt2.out | with_reducible refine Below.drew ?_ | with_reducible refine bl_drewN ?_ _ | with_reducible refine bl_alloc ?_ _)) hb)
    clear hb HB2 HDt2
    have cx := fun o0 => (bx3.out.alloc o0).cell
    go_wp2
    (try (go_quiet (fail); go_wp2))
    go_ret
    exact ⟨rfl, by repeat (first | with_reducible exact HB3.out | refine bl_drewN ?_ _ | refine Below.drew ?_ | refine bl_alloc ?_ _ | refine bl_set ?_ (by dsimp only; omega) _)⟩
  obtain ⟨X, Y, hXY⟩ : ∃ p q, facV ts = (p, q) := ⟨_, _, rfl⟩
  by_cases hxy : X = Y
  · have hd : ((X : Int) == (Y : Int)) = true := by rw [hxy]; exact beq_self_eq_true _
    have HF := Lib.hid (And.intro hXY hf)
    clear hXY hf hxy
    go_wp2_with fail
    (try (go_quiet (fail); go_wp2_with fail))
    refine (iFac_is _ At _ ct ts ((HTt.out.below (by repeat (first | with_reducible exact HDt1.out | with_reducible refine Below.drew ?_ | with_reducible refine bl_drewN ?_ _ | with_reducible refine bl_alloc ?_ _) : Below w1.heap.size w1 _)).more (Below.size (by repeat (first | with_reducible exact HDt1.out | with_reducible refine Below.drew ?_ | with_reducible refine bl_drewN ?_ _ | with_reducible refine bl_alloc ?_ _) : Below w1.heap.size w1 _))) (by omega) e0 (by repeat (first | exact HE.out.below HB1.out | refine EG.drewN ?_ _ | refine EG.drew ?_ | refine EG.alloc ?_ _)) X Y true HF.out.1 HF.out.2).mono ?_
    rintro e w2 ⟨rfl, hb⟩
    have hs2 := hb.size
    have HB2 := Lib.hid (show Below w.heap.size w w2 from bl_trans (by repeat (first | with_reducible exact HB1.out | with_reducible refine bl_drewN ?_ _ | with_reducible refine Below.drew ?_ | with_reducible refine bl_alloc ?_ _)) hb)
    have HDt2 := Lib.hid (show Below w1.heap.size w1 w2 from bl_trans (by repeat (first | with_reducible exact HDt1.out | with_reducible refine Below.drew ?_ | with_reducible refine bl_drewN ?_ _ | with_reducible refine bl_alloc ?_ _)) hb)
    clear hb HB1 HDt1
    go_wp2_with fail
    (try (go_quiet (fail); go_wp2_with fail))
    refine (sFac_is _ At _ ct ts ((HTt.out.below (by repeat (first | with_reducible exact HDt2.out | with_reducible refine Below.drew ?_ | with_reducible refine bl_drewN ?_ _ | with_reducible refine bl_alloc ?_ _) : Below w1.heap.size w1 _)).more (Below.size (by repeat (first | with_reducible exact HDt2.out | with_reducible refine Below.drew ?_ | with_reducible refine bl_drewN ?_ _ | with_reducible refine bl_alloc ?_ _) : Below w1.heap.size w1 _))) (by omega) X Y true HF.out.1 HF.out.2).mono ?_
    rintro e w3 ⟨rfl, hb⟩
    have hs3 := hb.size
    have HB3 := Lib.hid (show Below w.heap.size w w3 from bl_trans (by repeat (first | with_reducible exact HB2.out | with_reducible refine bl_drewN ?_ _ | with_reducible refine Below.drew ?_ | with_reducible refine bl_alloc ?_ _)) hb)
    have bx3 := Lib.hid (show Blk w3 (w2.heap.size) 27 #[.int .i64 (X : Int), .int .i64 (Y : Int)] from Blk.below (by have hh := Blk.new w2 27 #[.int .i64 (X : Int), .int .i64 (Y : Int)]; (try simp only [World.size_alloc] at hh); repeat (first | exact hh | with_reducible refine Blk.drewN ?_ _ | with_reducible refine Blk.drew ?_ | with_reducible refine Blk.alloc ?_ _)) hb (by first | omega | (simp; done) | (simp; omega)))
    have HDt3 := Lib.hid (show Below w1.heap.size w1 w3 from bl_trans (by repeat (first | with_reducible exact HDt2.out | with_reducible refine Below.drew ?_ | with_reducible refine bl_drewN ?_ _ | with_reducible refine bl_alloc ?_ _)) hb)
    clear hb HB2 HDt2
    have cx := fun o0 => (bx3.out.alloc o0).cell
    go_wp2
    (try (go_quiet (fail); go_wp2))
    go_ret
    exact ⟨rfl, by repeat (first | with_reducible exact HB3.out | refine bl_drewN ?_ _ | refine Below.drew ?_ | refine bl_alloc ?_ _ | refine bl_set ?_ (by dsimp only; omega) _)⟩
  have hp : plainV ts = false := by
    cases hp : plainV ts
    · rfl
    · have := facV_plain hp
      rw [hXY] at this
      injection this with a b
      exact absurd (a.trans b.symm) hxy
  obtain ⟨p, q, hpq⟩ : ∃ p q, lowOf ts false = (p, q) := ⟨_, _, rfl⟩
  obtain ⟨u, v, huv⟩ : ∃ p q, lowOf ts true = (p, q) := ⟨_, _, rfl⟩
  obtain ⟨N, D, _, X0, Y0, hN, hD, hlt, _, _, _, _, N1, D0, D1, _, _, hf2, hsh, x1, y1⟩ := fac_pack hf hp hpq huv
  rw [hXY] at hf2
  obtain ⟨rfl, rfl⟩ := Prod.mk.inj hf2
  have hex := fac_exact hf (by rw [hXY]; exact hxy)
  rw [hXY, hpq, huv] at hex
  dsimp only at hex
  obtain ⟨R, hR⟩ : ∃ R, q - p = R := ⟨_, rfl⟩
  have hq := (lowOf_sh false (imp_set (fac_imp hf))).2.2
  have hp9 := (lowOf_sh false (imp_set (fac_imp hf))).2.1
  have hv := (lowOf_sh true (imp_set (fac_imp hf))).2.2
  have hu := (lowOf_sh true (imp_set (fac_imp hf))).2.1
  rw [hpq] at hq hp9
  rw [huv] at hv hu
  dsimp only at hq hv hu hp9
  rw [hR] at hD hex
  obtain ⟨M1, hM1⟩ : ∃ M, X * R = M := ⟨_, rfl⟩
  obtain ⟨M2, hM2⟩ : ∃ M, M1 * v = M := ⟨_, rfl⟩
  have hM3 : N * Y = M2 := by rw [← hM2, ← hM1, ← hN]; exact hex.symm
  have b1 : M1 ≤ 10240000000000 := by rw [← hM1]; exact Nat.le_trans (Nat.mul_le_mul x1 (by omega : R ≤ 3200000)) (by decide)
  have b2 : M2 ≤ 10240000000000 := by rw [← hM3]; exact Nat.le_trans (Nat.mul_le_mul N1 y1) (by decide)
  have qR : (q : Int) - (p : Int) = (R : Int) := by omega
  have qN := mul_cast u q N hN
  have qM1 := mul_cast X R M1 hM1
  have qM2 := mul_cast M1 v M2 hM2
  have qM3 := mul_cast N Y M2 hM3
  have hd : ((X : Int) == (Y : Int)) = false := by rw [beq_eq_false_iff_ne]; omega
  have HF := Lib.hid (And.intro hXY (And.intro hf (And.intro hpq huv)))
  clear hXY hf hxy hp hpq huv hN hD hlt D0 hsh hex hR hM1 hM2 hM3
  go_wp2_with fail
  (try (go_quiet (fail); go_wp2_with fail))
  refine (iFac_is _ At _ ct ts ((HTt.out.below (by repeat (first | with_reducible exact HDt1.out | with_reducible refine Below.drew ?_ | with_reducible refine bl_drewN ?_ _ | with_reducible refine bl_alloc ?_ _) : Below w1.heap.size w1 _)).more (Below.size (by repeat (first | with_reducible exact HDt1.out | with_reducible refine Below.drew ?_ | with_reducible refine bl_drewN ?_ _ | with_reducible refine bl_alloc ?_ _) : Below w1.heap.size w1 _))) (by omega) e0 (by repeat (first | exact HE.out.below HB1.out | refine EG.drewN ?_ _ | refine EG.drew ?_ | refine EG.alloc ?_ _)) X Y true HF.out.1 HF.out.2.1).mono ?_
  rintro e w2 ⟨rfl, hb⟩
  have hs2 := hb.size
  have HB2 := Lib.hid (show Below w.heap.size w w2 from bl_trans (by repeat (first | with_reducible exact HB1.out | with_reducible refine bl_drewN ?_ _ | with_reducible refine Below.drew ?_ | with_reducible refine bl_alloc ?_ _)) hb)
  have HDt2 := Lib.hid (show Below w1.heap.size w1 w2 from bl_trans (by repeat (first | with_reducible exact HDt1.out | with_reducible refine Below.drew ?_ | with_reducible refine bl_drewN ?_ _ | with_reducible refine bl_alloc ?_ _)) hb)
  clear hb HB1 HDt1
  go_wp2_with fail
  (try (go_quiet (fail); go_wp2_with fail))
  refine (sFac_is _ At _ ct ts ((HTt.out.below (by repeat (first | with_reducible exact HDt2.out | with_reducible refine Below.drew ?_ | with_reducible refine bl_drewN ?_ _ | with_reducible refine bl_alloc ?_ _) : Below w1.heap.size w1 _)).more (Below.size (by repeat (first | with_reducible exact HDt2.out | with_reducible refine Below.drew ?_ | with_reducible refine bl_drewN ?_ _ | with_reducible refine bl_alloc ?_ _) : Below w1.heap.size w1 _))) (by omega) X Y true HF.out.1 HF.out.2.1).mono ?_
  rintro e w3 ⟨rfl, hb⟩
  have hs3 := hb.size
  have HB3 := Lib.hid (show Below w.heap.size w w3 from bl_trans (by repeat (first | with_reducible exact HB2.out | with_reducible refine bl_drewN ?_ _ | with_reducible refine Below.drew ?_ | with_reducible refine bl_alloc ?_ _)) hb)
  have bx3 := Lib.hid (show Blk w3 (w2.heap.size) 27 #[.int .i64 (X : Int), .int .i64 (Y : Int)] from Blk.below (by have hh := Blk.new w2 27 #[.int .i64 (X : Int), .int .i64 (Y : Int)]; (try simp only [World.size_alloc] at hh); repeat (first | exact hh | with_reducible refine Blk.drewN ?_ _ | with_reducible refine Blk.drew ?_ | with_reducible refine Blk.alloc ?_ _)) hb (by first | omega | (simp; done) | (simp; omega)))
  have HDt3 := Lib.hid (show Below w1.heap.size w1 w3 from bl_trans (by repeat (first | with_reducible exact HDt2.out | with_reducible refine Below.drew ?_ | with_reducible refine bl_drewN ?_ _ | with_reducible refine bl_alloc ?_ _)) hb)
  clear hb HB2 HDt2
  have cx := fun o0 => (bx3.out.alloc o0).cell
  go_wp2_with fail
  (try (go_quiet (fail); go_wp2_with fail))
  refine (iLow_is _ At _ ct ts false ((HTt.out.below (by repeat (first | with_reducible exact HDt3.out | with_reducible refine Below.drew ?_ | with_reducible refine bl_drewN ?_ _ | with_reducible refine bl_alloc ?_ _) : Below w1.heap.size w1 _)).more (Below.size (by repeat (first | with_reducible exact HDt3.out | with_reducible refine Below.drew ?_ | with_reducible refine bl_drewN ?_ _ | with_reducible refine bl_alloc ?_ _) : Below w1.heap.size w1 _))) (by omega) e0 (by repeat (first | exact HE.out.below HB3.out | refine EG.drewN ?_ _ | refine EG.drew ?_ | refine EG.alloc ?_ _)) p q HF.out.2.2.1).mono ?_
  rintro e w4 ⟨rfl, hb⟩
  have hs4 := hb.size
  have HB4 := Lib.hid (show Below w.heap.size w w4 from bl_trans (by repeat (first | with_reducible exact HB3.out | with_reducible refine bl_drewN ?_ _ | with_reducible refine Below.drew ?_ | with_reducible refine bl_alloc ?_ _)) hb)
  have bx4 := Lib.hid (show Blk w4 (w2.heap.size) 27 #[.int .i64 (X : Int), .int .i64 (Y : Int)] from Blk.below (by repeat (first | with_reducible exact bx3.out | with_reducible refine Blk.drewN ?_ _ | with_reducible refine Blk.drew ?_ | with_reducible refine Blk.alloc ?_ _)) hb (by have := bx3.out.lt; first | omega | (simp; omega)))
  have bk4 := Lib.hid (show Blk w4 (w3.heap.size) 27 #[.int .i64 (X : Int), .int .i64 (Y : Int)] from Blk.below (by have hh := Blk.new w3 27 #[.int .i64 (X : Int), .int .i64 (Y : Int)]; (try simp only [World.size_alloc] at hh); repeat (first | exact hh | with_reducible refine Blk.drewN ?_ _ | with_reducible refine Blk.drew ?_ | with_reducible refine Blk.alloc ?_ _)) hb (by first | omega | (simp; done) | (simp; omega)))
  have HDt4 := Lib.hid (show Below w1.heap.size w1 w4 from bl_trans (by repeat (first | with_reducible exact HDt3.out | with_reducible refine Below.drew ?_ | with_reducible refine bl_drewN ?_ _ | with_reducible refine bl_alloc ?_ _)) hb)
  clear hb HB3 bx3 cx HDt3
  have cx := fun o0 => (bx4.out.alloc o0).cell
  have ck := fun o0 => (bk4.out.alloc o0).cell
  go_wp2_with fail
  (try (go_quiet (fail); go_wp2_with fail))
  refine (iLow_is _ At _ ct ts true ((HTt.out.below (by repeat (first | with_reducible exact HDt4.out | with_reducible refine Below.drew ?_ | with_reducible refine bl_drewN ?_ _ | with_reducible refine bl_alloc ?_ _) : Below w1.heap.size w1 _)).more (Below.size (by repeat (first | with_reducible exact HDt4.out | with_reducible refine Below.drew ?_ | with_reducible refine bl_drewN ?_ _ | with_reducible refine bl_alloc ?_ _) : Below w1.heap.size w1 _))) (by omega) e0 (by repeat (first | exact HE.out.below HB4.out | refine EG.drewN ?_ _ | refine EG.drew ?_ | refine EG.alloc ?_ _)) u v HF.out.2.2.2).mono ?_
  rintro e w5 ⟨rfl, hb⟩
  have hs5 := hb.size
  have HB5 := Lib.hid (show Below w.heap.size w w5 from bl_trans (by repeat (first | with_reducible exact HB4.out | with_reducible refine bl_drewN ?_ _ | with_reducible refine Below.drew ?_ | with_reducible refine bl_alloc ?_ _)) hb)
  have bx5 := Lib.hid (show Blk w5 (w2.heap.size) 27 #[.int .i64 (X : Int), .int .i64 (Y : Int)] from Blk.below (by repeat (first | with_reducible exact bx4.out | with_reducible refine Blk.drewN ?_ _ | with_reducible refine Blk.drew ?_ | with_reducible refine Blk.alloc ?_ _)) hb (by have := bx4.out.lt; first | omega | (simp; omega)))
  have bk5 := Lib.hid (show Blk w5 (w3.heap.size) 27 #[.int .i64 (X : Int), .int .i64 (Y : Int)] from Blk.below (by repeat (first | with_reducible exact bk4.out | with_reducible refine Blk.drewN ?_ _ | with_reducible refine Blk.drew ?_ | with_reducible refine Blk.alloc ?_ _)) hb (by have := bk4.out.lt; first | omega | (simp; omega)))
  have ba5 := Lib.hid (show Blk w5 (w4.heap.size) 27 #[.int .i64 (p : Int), .int .i64 (q : Int)] from Blk.below (by have hh := Blk.new w4 27 #[.int .i64 (p : Int), .int .i64 (q : Int)]; (try simp only [World.size_alloc] at hh); repeat (first | exact hh | with_reducible refine Blk.drewN ?_ _ | with_reducible refine Blk.drew ?_ | with_reducible refine Blk.alloc ?_ _)) hb (by first | omega | (simp; done) | (simp; omega)))
  have HDt5 := Lib.hid (show Below w1.heap.size w1 w5 from bl_trans (by repeat (first | with_reducible exact HDt4.out | with_reducible refine Below.drew ?_ | with_reducible refine bl_drewN ?_ _ | with_reducible refine bl_alloc ?_ _)) hb)
  clear hb HB4 bx4 bk4 cx ck HDt4
  have cx := fun o0 => (bx5.out.alloc o0).cell
  have ck := fun o0 => (bk5.out.alloc o0).cell
  have ca := fun o0 => (ba5.out.alloc o0).cell
  go_wp2
  (try (go_quiet (fail); go_wp2))
  go_ret
  exact ⟨rfl, by repeat (first | with_reducible exact HB5.out | refine bl_drewN ?_ _ | refine Below.drew ?_ | refine bl_alloc ?_ _ | refine bl_set ?_ (by dsimp only; omega) _)⟩

end Go.Proofs.YtpngfonnoepmfaaDoor
