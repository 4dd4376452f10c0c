/- Walk of the law FnLoadHigh. -/
import Derived.Test.YtpngfonnoepmfabDoorM6
import Derived.Test.YtpngfonnoepmfabDoorM2
import Derived.Test.YtpngfonnoepmfabDoorM8
import Derived.Test.YtpngfonnoepmfabDoorM5
import Derived.Test.YtpngfonnoepmfabDoorM3
import Derived.Deep.RegionWith
import Derived.Deep.RegionHeld3
namespace Go.Proofs.YtpngfonnoepmfabDoor
open Go.RowKit
set_option linter.unusedVariables false

set_option maxRecDepth 100000 in
set_option maxHeartbeats 6000000 in
theorem fnLoadHigh_walk (w : World) (A : Option Addr) (n c : Nat) (f : Nat → Int) (h : Code w w.heap.size A n c f) (e0 : Addr) (he : EG w e0) :
    Calls Tryd.prog 5 #[.slice A n c] w fun e w' => e = .returned (.bool true) ∧ Below w.heap.size w w' := by
  have H := Lib.hid h
  have HE := Lib.hid he
  have hle := h.le
  have hmax := h.max
  unfold maxLen at hmax
  clear h he
  by_cases hn : 1048576 < n
  · go_enter Tryd.func5, Tryd.ntmps5
    go_wp2
    go_ret
    exact ⟨rfl, Below.refl _ _⟩
  go_enter Tryd.func5, Tryd.ntmps5
  go_wp2_with fail
  refine (dDrawLoadOf_any _ A n c f H.out).mono ?_
  rintro e w1 ⟨At, ct, ts, rfl, hl, ho, hb⟩
  have HB1 := Lib.hid hb
  have HO := Lib.hid ho
  have HTt := Lib.hid ho.reads.2
  clear hb H ho
  have HDt1 := Lib.hid (Below.refl w1.heap.size w1)
  cases hs : setB ts
  · have hl0 : loadV ts = (0, 0) := by unfold loadV; rw [hs]; rfl
    go_wp2_with fail
    (try (go_quiet (fail); go_wp2_with fail))
    refine (iLoad_is _ At _ ct ts ((HTt.out.below (by repeat (first | with_reducible exact HDt1.out | with_reducible refine Below.drew ?_ | with_reducible refine bl_drewN ?_ _ | with_reducible refine bl_alloc ?_ _) : Below w1.heap.size w1 _)).more (Below.size (by repeat (first | with_reducible exact HDt1.out | with_reducible refine Below.drew ?_ | with_reducible refine bl_drewN ?_ _ | with_reducible refine bl_alloc ?_ _) : Below w1.heap.size w1 _))) (by omega) e0 (by repeat (first | exact HE.out.below HB1.out | refine EG.drewN ?_ _ | refine EG.drew ?_ | refine EG.alloc ?_ _)) 0 0 false hl0 hs).mono ?_
    rintro e w2 ⟨rfl, hb⟩
    have hs2 := hb.size
    have HB2 := Lib.hid (show Below w.heap.size w w2 from bl_trans (by repeat (first | with_reducible exact HB1.out | with_reducible refine bl_drewN ?_ _ | with_reducible refine Below.drew ?_ | with_reducible refine bl_alloc ?_ _)) hb)
    have HDt2 := Lib.hid (show Below w1.heap.size w1 w2 from bl_trans (by repeat (first | with_reducible exact HDt1.out | with_reducible refine Below.drew ?_ | with_reducible refine bl_drewN ?_ _ | with_reducible refine bl_alloc ?_ _)) hb)
    clear hb HB1 HDt1
    go_wp2_with fail
    (try (go_quiet (fail); go_wp2_with fail))
    refine (sLoad_is _ At _ ct ts ((HTt.out.below (by repeat (first | with_reducible exact HDt2.out | with_reducible refine Below.drew ?_ | with_reducible refine bl_drewN ?_ _ | with_reducible refine bl_alloc ?_ _) : Below w1.heap.size w1 _)).more (Below.size (by repeat (first | with_reducible exact HDt2.out | with_reducible refine Below.drew ?_ | with_reducible refine bl_drewN ?_ _ | with_reducible refine bl_alloc ?_ _) : Below w1.heap.size w1 _))) (by omega) 0 0 false hl0 hs).mono ?_
    rintro e w3 ⟨rfl, hb⟩
    have hs3 := hb.size
    have HB3 := Lib.hid (show Below w.heap.size w w3 from bl_trans (by repeat (first | with_reducible exact HB2.out | with_reducible refine bl_drewN ?_ _ | with_reducible refine Below.drew ?_ | with_reducible refine bl_alloc ?_ _)) hb)
    have bx3 := Lib.hid (show Blk w3 (w2.heap.size) 30 #[.int .i64 0, .int .i64 0] from Blk.below (by have hh := Blk.new w2 30 #[.int .i64 0, .int .i64 0]; (try simp only [World.size_alloc] at hh); repeat (first | exact hh | with_reducible refine Blk.drewN ?_ _ | with_reducible refine Blk.drew ?_ | with_reducible refine Blk.alloc ?_ _)) hb (by first | omega | (simp; done) | (simp; omega)))
    have HDt3 := Lib.hid (show Below w1.heap.size w1 w3 from bl_trans (by repeat (first | with_reducible exact HDt2.out | with_reducible refine Below.drew ?_ | with_reducible refine bl_drewN ?_ _ | with_reducible refine bl_alloc ?_ _)) hb)
    clear hb HB2 HDt2
    have cx := fun o0 => (bx3.out.alloc o0).cell
    go_wp2
    (try (go_quiet (fail); go_wp2))
    go_ret
    exact ⟨rfl, by repeat (first | with_reducible exact HB3.out | refine bl_drewN ?_ _ | refine Below.drew ?_ | refine bl_alloc ?_ _ | refine bl_set ?_ (by dsimp only; omega) _)⟩
  obtain ⟨X, Y, hXY⟩ : ∃ p q, loadV ts = (p, q) := ⟨_, _, rfl⟩
  obtain ⟨p, q, hpq⟩ : ∃ p q, lowOf ts false = (p, q) := ⟨_, _, rfl⟩
  obtain ⟨u, v, huv⟩ : ∃ p q, lowOf ts true = (p, q) := ⟨_, _, rfl⟩
  obtain ⟨s, t, hst⟩ : ∃ p q, highOf ts = (p, q) := ⟨_, _, rfl⟩
  obtain ⟨x, y, _, s1, s2, s3, e0', e1, e2, _, _⟩ := low_pack hs hpq huv
  obtain ⟨c1, c2⟩ := plus_comm (p : Int) q u v
  have HA := Lib.hid (And.intro (c2.symm.trans e1) (c1.symm.trans e2))
  have hor := load_or ts hs
  rw [hXY, hpq, huv, e0', hst] at hor
  have HL := Lib.hid (And.intro hXY hs)
  have HP := Lib.hid hpq
  have HU := Lib.hid huv
  have HH := Lib.hid hst
  clear hXY hpq huv hst s1 s2 s3 e0' e1 e2 c1 c2
  by_cases hxe : (X, Y) = (x, y)
  · obtain ⟨rfl, rfl⟩ := Prod.mk.inj hxe
    clear hor hxe
    go_wp2_with fail
    (try (go_quiet (fail); go_wp2_with fail))
    refine (iLoad_is _ At _ ct ts ((HTt.out.below (by repeat (first | with_reducible exact HDt1.out | with_reducible refine Below.drew ?_ | with_reducible refine bl_drewN ?_ _ | with_reducible refine bl_alloc ?_ _) : Below w1.heap.size w1 _)).more (Below.size (by repeat (first | with_reducible exact HDt1.out | with_reducible refine Below.drew ?_ | with_reducible refine bl_drewN ?_ _ | with_reducible refine bl_alloc ?_ _) : Below w1.heap.size w1 _))) (by omega) e0 (by repeat (first | exact HE.out.below HB1.out | refine EG.drewN ?_ _ | refine EG.drew ?_ | refine EG.alloc ?_ _)) X Y true HL.out.1 HL.out.2).mono ?_
    rintro e w2 ⟨rfl, hb⟩
    have hs2 := hb.size
    have HB2 := Lib.hid (show Below w.heap.size w w2 from bl_trans (by repeat (first | with_reducible exact HB1.out | with_reducible refine bl_drewN ?_ _ | with_reducible refine Below.drew ?_ | with_reducible refine bl_alloc ?_ _)) hb)
    have HDt2 := Lib.hid (show Below w1.heap.size w1 w2 from bl_trans (by repeat (first | with_reducible exact HDt1.out | with_reducible refine Below.drew ?_ | with_reducible refine bl_drewN ?_ _ | with_reducible refine bl_alloc ?_ _)) hb)
    clear hb HB1 HDt1
    go_wp2_with fail
    (try (go_quiet (fail); go_wp2_with fail))
    refine (sLoad_is _ At _ ct ts ((HTt.out.below (by repeat (first | with_reducible exact HDt2.out | with_reducible refine Below.drew ?_ | with_reducible refine bl_drewN ?_ _ | with_reducible refine bl_alloc ?_ _) : Below w1.heap.size w1 _)).more (Below.size (by repeat (first | with_reducible exact HDt2.out | with_reducible refine Below.drew ?_ | with_reducible refine bl_drewN ?_ _ | with_reducible refine bl_alloc ?_ _) : Below w1.heap.size w1 _))) (by omega) X Y true HL.out.1 HL.out.2).mono ?_
    rintro e w3 ⟨rfl, hb⟩
    have hs3 := hb.size
    have HB3 := Lib.hid (show Below w.heap.size w w3 from bl_trans (by repeat (first | with_reducible exact HB2.out | with_reducible refine bl_drewN ?_ _ | with_reducible refine Below.drew ?_ | with_reducible refine bl_alloc ?_ _)) hb)
    have bx3 := Lib.hid (show Blk w3 (w2.heap.size) 30 #[.int .i64 (X : Int), .int .i64 (Y : Int)] from Blk.below (by have hh := Blk.new w2 30 #[.int .i64 (X : Int), .int .i64 (Y : Int)]; (try simp only [World.size_alloc] at hh); repeat (first | exact hh | with_reducible refine Blk.drewN ?_ _ | with_reducible refine Blk.drew ?_ | with_reducible refine Blk.alloc ?_ _)) hb (by first | omega | (simp; done) | (simp; omega)))
    have HDt3 := Lib.hid (show Below w1.heap.size w1 w3 from bl_trans (by repeat (first | with_reducible exact HDt2.out | with_reducible refine Below.drew ?_ | with_reducible refine bl_drewN ?_ _ | with_reducible refine bl_alloc ?_ _)) hb)
    clear hb HB2 HDt2

    have cx := fun o0 => (bx3.out.alloc o0).cell
    go_wp2_with fail
    (try (go_quiet (fail); go_wp2_with fail))
    refine (iLow_is _ At _ ct ts true ((HTt.out.below (by repeat (first | with_reducible exact HDt3.out | with_reducible refine Below.drew ?_ | with_reducible refine bl_drewN ?_ _ | with_reducible refine bl_alloc ?_ _) : Below w1.heap.size w1 _)).more (Below.size (by repeat (first | with_reducible exact HDt3.out | with_reducible refine Below.drew ?_ | with_reducible refine bl_drewN ?_ _ | with_reducible refine bl_alloc ?_ _) : Below w1.heap.size w1 _))) (by omega) e0 (by repeat (first | exact HE.out.below HB3.out | refine EG.drewN ?_ _ | refine EG.drew ?_ | refine EG.alloc ?_ _)) u v HU.out).mono ?_
    rintro e w4 ⟨rfl, hb⟩
    have hs4 := hb.size
    have HB4 := Lib.hid (show Below w.heap.size w w4 from bl_trans (by repeat (first | with_reducible exact HB3.out | with_reducible refine bl_drewN ?_ _ | with_reducible refine Below.drew ?_ | with_reducible refine bl_alloc ?_ _)) hb)
    have bx4 := Lib.hid (show Blk w4 (w2.heap.size) 30 #[.int .i64 (X : Int), .int .i64 (Y : Int)] from Blk.below (by repeat (first | with_reducible exact bx3.out | with_reducible refine Blk.drewN ?_ _ | with_reducible refine Blk.drew ?_ | with_reducible refine Blk.alloc ?_ _)) hb (by have := bx3.out.lt; first | omega | (simp; omega)))
    have bk4 := Lib.hid (show Blk w4 (w3.heap.size) 30 #[.int .i64 (X : Int), .int .i64 (Y : Int)] from Blk.below (by have hh := Blk.new w3 30 #[.int .i64 (X : Int), .int .i64 (Y : Int)]; (try simp only [World.size_alloc] at hh); repeat (first | exact hh | with_reducible refine Blk.drewN ?_ _ | with_reducible refine Blk.drew ?_ | with_reducible refine Blk.alloc ?_ _)) hb (by first | omega | (simp; done) | (simp; omega)))
    have HDt4 := Lib.hid (show Below w1.heap.size w1 w4 from bl_trans (by repeat (first | with_reducible exact HDt3.out | with_reducible refine Below.drew ?_ | with_reducible refine bl_drewN ?_ _ | with_reducible refine bl_alloc ?_ _)) hb)
    clear hb HB3 bx3 cx HDt3
    have cx := bx4.out.cell
    have ck := bk4.out.cell
    go_wp2_with fail
    (try (go_quiet (fail); go_wp2_with fail))
    refine (iLow_is _ At _ ct ts false ((HTt.out.below (by repeat (first | with_reducible exact HDt4.out | with_reducible refine Below.drew ?_ | with_reducible refine bl_drewN ?_ _ | with_reducible refine bl_alloc ?_ _) : Below w1.heap.size w1 _)).more (Below.size (by repeat (first | with_reducible exact HDt4.out | with_reducible refine Below.drew ?_ | with_reducible refine bl_drewN ?_ _ | with_reducible refine bl_alloc ?_ _) : Below w1.heap.size w1 _))) (by omega) e0 (by repeat (first | exact HE.out.below HB4.out | refine EG.drewN ?_ _ | refine EG.drew ?_ | refine EG.alloc ?_ _)) p q HP.out).mono ?_
    rintro e w5 ⟨rfl, hb⟩
    have hs5 := hb.size
    have HB5 := Lib.hid (show Below w.heap.size w w5 from bl_trans (by repeat (first | with_reducible exact HB4.out | with_reducible refine bl_drewN ?_ _ | with_reducible refine Below.drew ?_ | with_reducible refine bl_alloc ?_ _)) hb)
    have bx5 := Lib.hid (show Blk w5 (w2.heap.size) 30 #[.int .i64 (X : Int), .int .i64 (Y : Int)] from Blk.below (by repeat (first | with_reducible exact bx4.out | with_reducible refine Blk.drewN ?_ _ | with_reducible refine Blk.drew ?_ | with_reducible refine Blk.alloc ?_ _)) hb (by have := bx4.out.lt; first | omega | (simp; omega)))
    have bk5 := Lib.hid (show Blk w5 (w3.heap.size) 30 #[.int .i64 (X : Int), .int .i64 (Y : Int)] from Blk.below (by repeat (first | with_reducible exact bk4.out | with_reducible refine Blk.drewN ?_ _ | with_reducible refine Blk.drew ?_ | with_reducible refine Blk.alloc ?_ _)) hb (by have := bk4.out.lt; first | omega | (simp; omega)))
    have HDt5 := Lib.hid (show Below w1.heap.size w1 w5 from bl_trans (by repeat (first | with_reducible exact HDt4.out | with_reducible refine Below.drew ?_ | with_reducible refine bl_drewN ?_ _ | with_reducible refine bl_alloc ?_ _)) hb)
    clear hb HB4 bx4 bk4 cx ck HDt4
    have cx := bx5.out.cell
    have ck := bk5.out.cell
    go_wp2_with fail
    (try (go_quiet (fail); go_wp2_with fail))
    refine (iAdd_is _ e0 (by repeat (first | exact HE.out.below HB5.out | refine EG.drewN ?_ _ | refine EG.drew ?_ | refine EG.alloc ?_ _)) u v p q X Y true HA.out.1 HA.out.2).mono ?_
    rintro e w6 ⟨rfl, hb⟩
    have hs6 := hb.size
    have HB6 := Lib.hid (show Below w.heap.size w w6 from bl_trans (by repeat (first | with_reducible exact HB5.out | with_reducible refine bl_drewN ?_ _ | with_reducible refine Below.drew ?_ | with_reducible refine bl_alloc ?_ _)) hb)
    have bx6 := Lib.hid (show Blk w6 (w2.heap.size) 30 #[.int .i64 (X : Int), .int .i64 (Y : Int)] from Blk.below (by repeat (first | with_reducible exact bx5.out | with_reducible refine Blk.drewN ?_ _ | with_reducible refine Blk.drew ?_ | with_reducible refine Blk.alloc ?_ _)) hb (by have := bx5.out.lt; first | omega | (simp; omega)))
    have bk6 := Lib.hid (show Blk w6 (w3.heap.size) 30 #[.int .i64 (X : Int), .int .i64 (Y : Int)] from Blk.below (by repeat (first | with_reducible exact bk5.out | with_reducible refine Blk.drewN ?_ _ | with_reducible refine Blk.drew ?_ | with_reducible refine Blk.alloc ?_ _)) hb (by have := bk5.out.lt; first | omega | (simp; omega)))
    have HDt6 := Lib.hid (show Below w1.heap.size w1 w6 from bl_trans (by repeat (first | with_reducible exact HDt5.out | with_reducible refine Below.drew ?_ | with_reducible refine bl_drewN ?_ _ | with_reducible refine bl_alloc ?_ _)) hb)
    clear hb HB5 bx5 bk5 cx ck HDt5
    have cx := fun o0 => (bx6.out.alloc o0).cell
    have ck := fun o0 => (bk6.out.alloc o0).cell
    go_wp2
    (try (go_quiet (fail); go_wp2))
    go_ret
    exact ⟨rfl, by repeat (first | with_reducible exact HB6.out | refine bl_drewN ?_ _ | refine Below.drew ?_ | refine bl_alloc ?_ _ | refine bl_set ?_ (by dsimp only; omega) _)⟩
  · obtain ⟨rfl, rfl⟩ : X = s ∧ Y = t := by rcases hor with e | e
                                            · exact absurd e hxe
                                            · exact Prod.mk.inj e
    clear hor
    by_cases hX : X = x
    · skip
      have h1 : ((X : Int) == (x : Int)) = true := by rw [hX]; exact beq_self_eq_true _
      have hYy : ¬ Y = y := fun e => hxe (by rw [hX, e])
      have h2 : ((Y : Int) == (y : Int)) = false := by rw [beq_eq_false_iff_ne]; omega
      have h3 : ¬ (Y : Int) = (y : Int) := by omega
      clear hxe hX
      go_wp2_with fail
      (try (go_quiet (fail); go_wp2_with fail))
      refine (iLoad_is _ At _ ct ts ((HTt.out.below (by repeat (first | with_reducible exact HDt1.out | with_reducible refine Below.drew ?_ | with_reducible refine bl_drewN ?_ _ | with_reducible refine bl_alloc ?_ _) : Below w1.heap.size w1 _)).more (Below.size (by repeat (first | with_reducible exact HDt1.out | with_reducible refine Below.drew ?_ | with_reducible refine bl_drewN ?_ _ | with_reducible refine bl_alloc ?_ _) : Below w1.heap.size w1 _))) (by omega) e0 (by repeat (first | exact HE.out.below HB1.out | refine EG.drewN ?_ _ | refine EG.drew ?_ | refine EG.alloc ?_ _)) X Y true HL.out.1 HL.out.2).mono ?_
      rintro e w2 ⟨rfl, hb⟩
      have hs2 := hb.size
      have HB2 := Lib.hid (show Below w.heap.size w w2 from bl_trans (by repeat (first | with_reducible exact HB1.out | with_reducible refine bl_drewN ?_ _ | with_reducible refine Below.drew ?_ | with_reducible refine bl_alloc ?_ _)) hb)
      have HDt2 := Lib.hid (show Below w1.heap.size w1 w2 from bl_trans (by repeat (first | with_reducible exact HDt1.out | with_reducible refine Below.drew ?_ | with_reducible refine bl_drewN ?_ _ | with_reducible refine bl_alloc ?_ _)) hb)
      clear hb HB1 HDt1
      go_wp2_with fail
      (try (go_quiet (fail); go_wp2_with fail))
      refine (sLoad_is _ At _ ct ts ((HTt.out.below (by repeat (first | with_reducible exact HDt2.out | with_reducible refine Below.drew ?_ | with_reducible refine bl_drewN ?_ _ | with_reducible refine bl_alloc ?_ _) : Below w1.heap.size w1 _)).more (Below.size (by repeat (first | with_reducible exact HDt2.out | with_reducible refine Below.drew ?_ | with_reducible refine bl_drewN ?_ _ | with_reducible refine bl_alloc ?_ _) : Below w1.heap.size w1 _))) (by omega) X Y true HL.out.1 HL.out.2).mono ?_
      rintro e w3 ⟨rfl, hb⟩
      have hs3 := hb.size
      have HB3 := Lib.hid (show Below w.heap.size w w3 from bl_trans (by repeat (first | with_reducible exact HB2.out | with_reducible refine bl_drewN ?_ _ | with_reducible refine Below.drew ?_ | with_reducible refine bl_alloc ?_ _)) hb)
      have bx3 := Lib.hid (show Blk w3 (w2.heap.size) 30 #[.int .i64 (X : Int), .int .i64 (Y : Int)] from Blk.below (by have hh := Blk.new w2 30 #[.int .i64 (X : Int), .int .i64 (Y : Int)]; (try simp only [World.size_alloc] at hh); repeat (first | exact hh | with_reducible refine Blk.drewN ?_ _ | with_reducible refine Blk.drew ?_ | with_reducible refine Blk.alloc ?_ _)) hb (by first | omega | (simp; done) | (simp; omega)))
      have HDt3 := Lib.hid (show Below w1.heap.size w1 w3 from bl_trans (by repeat (first | with_reducible exact HDt2.out | with_reducible refine Below.drew ?_ | with_reducible refine bl_drewN ?_ _ | with_reducible refine bl_alloc ?_ _)) hb)
      clear hb HB2 HDt2
      have cx := fun o0 => (bx3.out.alloc o0).cell
      go_wp2_with fail
      (try (go_quiet (fail); go_wp2_with fail))
      refine (iLow_is _ At _ ct ts true ((HTt.out.below (by repeat (first | with_reducible exact HDt3.out | with_reducible refine Below.drew ?_ | with_reducible refine bl_drewN ?_ _ | with_reducible refine bl_alloc ?_ _) : Below w1.heap.size w1 _)).more (Below.size (by repeat (first | with_reducible exact HDt3.out | with_reducible refine Below.drew ?_ | with_reducible refine bl_drewN ?_ _ | with_reducible refine bl_alloc ?_ _) : Below w1.heap.size w1 _))) (by omega) e0 (by repeat (first | exact HE.out.below HB3.out | refine EG.drewN ?_ _ | refine EG.drew ?_ | refine EG.alloc ?_ _)) u v HU.out).mono ?_
      rintro e w4 ⟨rfl, hb⟩
      have hs4 := hb.size
      have HB4 := Lib.hid (show Below w.heap.size w w4 from bl_trans (by repeat (first | with_reducible exact HB3.out | with_reducible refine bl_drewN ?_ _ | with_reducible refine Below.drew ?_ | with_reducible refine bl_alloc ?_ _)) hb)
      have bx4 := Lib.hid (show Blk w4 (w2.heap.size) 30 #[.int .i64 (X : Int), .int .i64 (Y : Int)] from Blk.below (by repeat (first | with_reducible exact bx3.out | with_reducible refine Blk.drewN ?_ _ | with_reducible refine Blk.drew ?_ | with_reducible refine Blk.alloc ?_ _)) hb (by have := bx3.out.lt; first | omega | (simp; omega)))
      have bk4 := Lib.hid (show Blk w4 (w3.heap.size) 30 #[.int .i64 (X : Int), .int .i64 (Y : Int)] from Blk.below (by have hh := Blk.new w3 30 #[.int .i64 (X : Int), .int .i64 (Y : Int)]; (try simp only [World.size_alloc] at hh); repeat (first | exact hh | with_reducible refine Blk.drewN ?_ _ | with_reducible refine Blk.drew ?_ | with_reducible refine Blk.alloc ?_ _)) hb (by first | omega | (simp; done) | (simp; omega)))
      have HDt4 := Lib.hid (show Below w1.heap.size w1 w4 from bl_trans (by repeat (first | with_reducible exact HDt3.out | with_reducible refine Below.drew ?_ | with_reducible refine bl_drewN ?_ _ | with_reducible refine bl_alloc ?_ _)) hb)
      clear hb HB3 bx3 cx HDt3
      have cx := bx4.out.cell
      have ck := bk4.out.cell
      go_wp2_with fail
      (try (go_quiet (fail); go_wp2_with fail))
      refine (iLow_is _ At _ ct ts false ((HTt.out.below (by repeat (first | with_reducible exact HDt4.out | with_reducible refine Below.drew ?_ | with_reducible refine bl_drewN ?_ _ | with_reducible refine bl_alloc ?_ _) : Below w1.heap.size w1 _)).more (Below.size (by repeat (first | with_reducible exact HDt4.out | with_reducible refine Below.drew ?_ | with_reducible refine bl_drewN ?_ _ | with_reducible refine bl_alloc ?_ _) : Below w1.heap.size w1 _))) (by omega) e0 (by repeat (first | exact HE.out.below HB4.out | refine EG.drewN ?_ _ | refine EG.drew ?_ | refine EG.alloc ?_ _)) p q HP.out).mono ?_
      rintro e w5 ⟨rfl, hb⟩
      have hs5 := hb.size
      have HB5 := Lib.hid (show Below w.heap.size w w5 from bl_trans (by repeat (first | with_reducible exact HB4.out | with_reducible refine bl_drewN ?_ _ | with_reducible refine Below.drew ?_ | with_reducible refine bl_alloc ?_ _)) hb)
      have bx5 := Lib.hid (show Blk w5 (w2.heap.size) 30 #[.int .i64 (X : Int), .int .i64 (Y : Int)] from Blk.below (by repeat (first | with_reducible exact bx4.out | with_reducible refine Blk.drewN ?_ _ | with_reducible refine Blk.drew ?_ | with_reducible refine Blk.alloc ?_ _)) hb (by have := bx4.out.lt; first | omega | (simp; omega)))
      have bk5 := Lib.hid (show Blk w5 (w3.heap.size) 30 #[.int .i64 (X : Int), .int .i64 (Y : Int)] from Blk.below (by repeat (first | with_reducible exact bk4.out | with_reducible refine Blk.drewN ?_ _ | with_reducible refine Blk.drew ?_ | with_reducible refine Blk.alloc ?_ _)) hb (by have := bk4.out.lt; first | omega | (simp; omega)))
      have HDt5 := Lib.hid (show Below w1.heap.size w1 w5 from bl_trans (by repeat (first | with_reducible exact HDt4.out | with_reducible refine Below.drew ?_ | with_reducible refine bl_drewN ?_ _ | with_reducible refine bl_alloc ?_ _)) hb)
      clear hb HB4 bx4 bk4 cx ck HDt4
      have cx := bx5.out.cell
      have ck := bk5.out.cell
      go_wp2_with fail
      (try (go_quiet (fail); go_wp2_with fail))
      refine (iAdd_is _ e0 (by repeat (first | exact HE.out.below HB5.out | refine EG.drewN ?_ _ | refine EG.drew ?_ | refine EG.alloc ?_ _)) u v p q x y true HA.out.1 HA.out.2).mono ?_
      rintro e w6 ⟨rfl, hb⟩
      have hs6 := hb.size
      have HB6 := Lib.hid (show Below w.heap.size w w6 from bl_trans (by repeat (first | with_reducible exact HB5.out | with_reducible refine bl_drewN ?_ _ | with_reducible refine Below.drew ?_ | with_reducible refine bl_alloc ?_ _)) hb)
      have bx6 := Lib.hid (show Blk w6 (w2.heap.size) 30 #[.int .i64 (X : Int), .int .i64 (Y : Int)] from Blk.below (by repeat (first | with_reducible exact bx5.out | with_reducible refine Blk.drewN ?_ _ | with_reducible refine Blk.drew ?_ | with_reducible refine Blk.alloc ?_ _)) hb (by have := bx5.out.lt; first | omega | (simp; omega)))
      have bk6 := Lib.hid (show Blk w6 (w3.heap.size) 30 #[.int .i64 (X : Int), .int .i64 (Y : Int)] from Blk.below (by repeat (first | with_reducible exact bk5.out | with_reducible refine Blk.drewN ?_ _ | with_reducible refine Blk.drew ?_ | with_reducible refine Blk.alloc ?_ _)) hb (by have := bk5.out.lt; first | omega | (simp; omega)))
      have HDt6 := Lib.hid (show Below w1.heap.size w1 w6 from bl_trans (by repeat (first | with_reducible exact HDt5.out | with_reducible refine Below.drew ?_ | with_reducible refine bl_drewN ?_ _ | with_reducible refine bl_alloc ?_ _)) hb)
      clear hb HB5 bx5 bk5 cx ck HDt5
      have cx := fun o0 => (bx6.out.alloc o0).cell
      have ck := fun o0 => (bk6.out.alloc o0).cell
      have hS6 := And.intro (Blk.two (show Blk (w6.alloc (.cells #[.int .i64 (x : Int), .int .i64 (y : Int)] 30)) (w2.heap.size) 30 #[.int .i64 (X : Int), .int .i64 (Y : Int)] from by repeat (first | with_reducible exact bx6.out | with_reducible refine Blk.alloc ?_ _))) (Blk.two (show Blk (w6.alloc (.cells #[.int .i64 (x : Int), .int .i64 (y : Int)] 30)) (w6.heap.size) 30 #[.int .i64 (x : Int), .int .i64 (y : Int)] from by have hh := Blk.new w6 30 #[.int .i64 (x : Int), .int .i64 (y : Int)]; (try simp only [World.size_alloc] at hh); repeat (first | exact hh | with_reducible refine Blk.alloc ?_ _)))
      go_wp2_with fail
      first
      | (go_region_held3 (fun W => (W.cell? ⟨w2.heap.size, 0, none⟩ = some (.int .i64 (X : Int)) ∧ W.cell? ⟨w2.heap.size, 1, none⟩ = some (.int .i64 (Y : Int))) ∧ (W.cell? ⟨w6.heap.size, 0, none⟩ = some (.int .i64 (x : Int)) ∧ W.cell? ⟨w6.heap.size, 1, none⟩ = some (.int .i64 (y : Int)))) (first | exact hS6 | exact hS7)
        ((first
          | (have uu := HB6; clear uu; go_at_call 23; refine (iHigh_is _ At _ ct ts ((HTt.out.below (by repeat (first | with_reducible exact HDt6.out | with_reducible refine Below.drew ?_ | with_reducible refine bl_drewN ?_ _ | with_reducible refine bl_alloc ?_ _) : Below w1.heap.size w1 _)).more (Below.size (by repeat (first | with_reducible exact HDt6.out | with_reducible refine Below.drew ?_ | with_reducible refine bl_drewN ?_ _ | with_reducible refine bl_alloc ?_ _) : Below w1.heap.size w1 _))) (by omega) e0 (by repeat (first | exact HE.out.below HB6.out | refine EG.drewN ?_ _ | refine EG.drew ?_ | refine EG.alloc ?_ _)) X Y HH.out).mono ?_; rintro e w7 ⟨rfl, hb⟩; have hs7 := hb.size; have HB7 := Lib.hid (show Below w.heap.size w w7 from bl_trans (by repeat (first | with_reducible exact HB6.out | with_reducible refine bl_drewN ?_ _ | with_reducible refine Below.drew ?_ | with_reducible refine bl_alloc ?_ _)) hb); have bx7 := Lib.hid (show Blk w7 (w2.heap.size) 30 #[.int .i64 (X : Int), .int .i64 (Y : Int)] from Blk.below (by repeat (first | with_reducible exact bx6.out | with_reducible refine Blk.drewN ?_ _ | with_reducible refine Blk.drew ?_ | with_reducible refine Blk.alloc ?_ _)) hb (by have := bx6.out.lt; first | exact this | omega | (simp; omega))); have cx := bx7.out.cell; have bk7 := Lib.hid (show Blk w7 (w3.heap.size) 30 #[.int .i64 (X : Int), .int .i64 (Y : Int)] from Blk.below (by repeat (first | with_reducible exact bk6.out | with_reducible refine Blk.drewN ?_ _ | with_reducible refine Blk.drew ?_ | with_reducible refine Blk.alloc ?_ _)) hb (by have := bk6.out.lt; first | exact this | omega | (simp; omega))); have ck := bk7.out.cell; have bl7 := Lib.hid (show Blk w7 (w6.heap.size) 30 #[.int .i64 (x : Int), .int .i64 (y : Int)] from Blk.below (by have hh := Blk.new w6 30 #[.int .i64 (x : Int), .int .i64 (y : Int)]; (try simp only [World.size_alloc] at hh); repeat (first | exact hh | with_reducible refine Blk.drewN ?_ _ | with_reducible refine Blk.drew ?_ | with_reducible refine Blk.alloc ?_ _)) hb (by first | omega | (simp; done) | (simp; omega))); have cl := bl7.out.cell; have HDt7 := Lib.hid (show Below w1.heap.size w1 w7 from bl_trans (by repeat (first | with_reducible exact HDt6.out | with_reducible refine Below.drew ?_ | with_reducible refine bl_drewN ?_ _ | with_reducible refine bl_alloc ?_ _)) hb); have hS7 := And.intro (Blk.two bx7.out) (Blk.two bl7.out); clear hb HB6))))
      | fail "no region"
      have hkx7 := bx7.out.lt
      have hkk7 := bk7.out.lt
      have hkl7 := bl7.out.lt
      have cx := bx7.out.cell
      have ck := bk7.out.cell
      have cl := bl7.out.cell
      go_wp2
      (try (go_quiet (fail); go_wp2))
      go_ret
      exact ⟨rfl, by repeat (first | with_reducible exact HB7.out | refine bl_drewN ?_ _ | refine Below.drew ?_ | refine bl_alloc ?_ _ | refine bl_set ?_ (by dsimp only; omega) _)⟩
    · skip
      have h1 : ((X : Int) == (x : Int)) = false := by rw [beq_eq_false_iff_ne]; omega
      have h3 : ¬ (X : Int) = (x : Int) := by omega
      clear hxe hX
      go_wp2_with fail
      (try (go_quiet (fail); go_wp2_with fail))
      refine (iLoad_is _ At _ ct ts ((HTt.out.below (by repeat (first | with_reducible exact HDt1.out | with_reducible refine Below.drew ?_ | with_reducible refine bl_drewN ?_ _ | with_reducible refine bl_alloc ?_ _) : Below w1.heap.size w1 _)).more (Below.size (by repeat (first | with_reducible exact HDt1.out | with_reducible refine Below.drew ?_ | with_reducible refine bl_drewN ?_ _ | with_reducible refine bl_alloc ?_ _) : Below w1.heap.size w1 _))) (by omega) e0 (by repeat (first | exact HE.out.below HB1.out | refine EG.drewN ?_ _ | refine EG.drew ?_ | refine EG.alloc ?_ _)) X Y true HL.out.1 HL.out.2).mono ?_
      rintro e w2 ⟨rfl, hb⟩
      have hs2 := hb.size
      have HB2 := Lib.hid (show Below w.heap.size w w2 from bl_trans (by repeat (first | with_reducible exact HB1.out | with_reducible refine bl_drewN ?_ _ | with_reducible refine Below.drew ?_ | with_reducible refine bl_alloc ?_ _)) hb)
      have HDt2 := Lib.hid (show Below w1.heap.size w1 w2 from bl_trans (by repeat (first | with_reducible exact HDt1.out | with_reducible refine Below.drew ?_ | with_reducible refine bl_drewN ?_ _ | with_reducible refine bl_alloc ?_ _)) hb)
      clear hb HB1 HDt1
      go_wp2_with fail
      (try (go_quiet (fail); go_wp2_with fail))
      refine (sLoad_is _ At _ ct ts ((HTt.out.below (by repeat (first | with_reducible exact HDt2.out | with_reducible refine Below.drew ?_ | with_reducible refine bl_drewN ?_ _ | with_reducible refine bl_alloc ?_ _) : Below w1.heap.size w1 _)).more (Below.size (by repeat (first | with_reducible exact HDt2.out | with_reducible refine Below.drew ?_ | with_reducible refine bl_drewN ?_ _ | with_reducible refine bl_alloc ?_ _) : Below w1.heap.size w1 _))) (by omega) X Y true HL.out.1 HL.out.2).mono ?_
      rintro e w3 ⟨rfl, hb⟩
      have hs3 := hb.size
      have HB3 := Lib.hid (show Below w.heap.size w w3 from bl_trans (by repeat (first | with_reducible exact HB2.out | with_reducible refine bl_drewN ?_ _ | with_reducible refine Below.drew ?_ | with_reducible refine bl_alloc ?_ _)) hb)
      have bx3 := Lib.hid (show Blk w3 (w2.heap.size) 30 #[.int .i64 (X : Int), .int .i64 (Y : Int)] from Blk.below (by have hh := Blk.new w2 30 #[.int .i64 (X : Int), .int .i64 (Y : Int)]; (try simp only [World.size_alloc] at hh); repeat (first | exact hh | with_reducible refine Blk.drewN ?_ _ | with_reducible refine Blk.drew ?_ | with_reducible refine Blk.alloc ?_ _)) hb (by first | omega | (simp; done) | (simp; omega)))
      have HDt3 := Lib.hid (show Below w1.heap.size w1 w3 from bl_trans (by repeat (first | with_reducible exact HDt2.out | with_reducible refine Below.drew ?_ | with_reducible refine bl_drewN ?_ _ | with_reducible refine bl_alloc ?_ _)) hb)
      clear hb HB2 HDt2
      have cx := fun o0 => (bx3.out.alloc o0).cell
      go_wp2_with fail
      (try (go_quiet (fail); go_wp2_with fail))
      refine (iLow_is _ At _ ct ts true ((HTt.out.below (by repeat (first | with_reducible exact HDt3.out | with_reducible refine Below.drew ?_ | with_reducible refine bl_drewN ?_ _ | with_reducible refine bl_alloc ?_ _) : Below w1.heap.size w1 _)).more (Below.size (by repeat (first | with_reducible exact HDt3.out | with_reducible refine Below.drew ?_ | with_reducible refine bl_drewN ?_ _ | with_reducible refine bl_alloc ?_ _) : Below w1.heap.size w1 _))) (by omega) e0 (by repeat (first | exact HE.out.below HB3.out | refine EG.drewN ?_ _ | refine EG.drew ?_ | refine EG.alloc ?_ _)) u v HU.out).mono ?_
      rintro e w4 ⟨rfl, hb⟩
      have hs4 := hb.size
      have HB4 := Lib.hid (show Below w.heap.size w w4 from bl_trans (by repeat (first | with_reducible exact HB3.out | with_reducible refine bl_drewN ?_ _ | with_reducible refine Below.drew ?_ | with_reducible refine bl_alloc ?_ _)) hb)
      have bx4 := Lib.hid (show Blk w4 (w2.heap.size) 30 #[.int .i64 (X : Int), .int .i64 (Y : Int)] from Blk.below (by repeat (first | with_reducible exact bx3.out | with_reducible refine Blk.drewN ?_ _ | with_reducible refine Blk.drew ?_ | with_reducible refine Blk.alloc ?_ _)) hb (by have := bx3.out.lt; first | omega | (simp; omega)))
      have bk4 := Lib.hid (show Blk w4 (w3.heap.size) 30 #[.int .i64 (X : Int), .int .i64 (Y : Int)] from Blk.below (by have hh := Blk.new w3 30 #[.int .i64 (X : Int), .int .i64 (Y : Int)]; (try simp only [World.size_alloc] at hh); repeat (first | exact hh | with_reducible refine Blk.drewN ?_ _ | with_reducible refine Blk.drew ?_ | with_reducible refine Blk.alloc ?_ _)) hb (by first | omega | (simp; done) | (simp; omega)))
      have HDt4 := Lib.hid (show Below w1.heap.size w1 w4 from bl_trans (by repeat (first | with_reducible exact HDt3.out | with_reducible refine Below.drew ?_ | with_reducible refine bl_drewN ?_ _ | with_reducible refine bl_alloc ?_ _)) hb)
      clear hb HB3 bx3 cx HDt3
      have cx := bx4.out.cell
      have ck := bk4.out.cell
      go_wp2_with fail
      (try (go_quiet (fail); go_wp2_with fail))
      refine (iLow_is _ At _ ct ts false ((HTt.out.below (by repeat (first | with_reducible exact HDt4.out | with_reducible refine Below.drew ?_ | with_reducible refine bl_drewN ?_ _ | with_reducible refine bl_alloc ?_ _) : Below w1.heap.size w1 _)).more (Below.size (by repeat (first | with_reducible exact HDt4.out | with_reducible refine Below.drew ?_ | with_reducible refine bl_drewN ?_ _ | with_reducible refine bl_alloc ?_ _) : Below w1.heap.size w1 _))) (by omega) e0 (by repeat (first | exact HE.out.below HB4.out | refine EG.drewN ?_ _ | refine EG.drew ?_ | refine EG.alloc ?_ _)) p q HP.out).mono ?_
      rintro e w5 ⟨rfl, hb⟩
      have hs5 := hb.size
      have HB5 := Lib.hid (show Below w.heap.size w w5 from bl_trans (by repeat (first | with_reducible exact HB4.out | with_reducible refine bl_drewN ?_ _ | with_reducible refine Below.drew ?_ | with_reducible refine bl_alloc ?_ _)) hb)
      have bx5 := Lib.hid (show Blk w5 (w2.heap.size) 30 #[.int .i64 (X : Int), .int .i64 (Y : Int)] from Blk.below (by repeat (first | with_reducible exact bx4.out | with_reducible refine Blk.drewN ?_ _ | with_reducible refine Blk.drew ?_ | with_reducible refine Blk.alloc ?_ _)) hb (by have := bx4.out.lt; first | omega | (simp; omega)))
      have bk5 := Lib.hid (show Blk w5 (w3.heap.size) 30 #[.int .i64 (X : Int), .int .i64 (Y : Int)] from Blk.below (by repeat (first | with_reducible exact bk4.out | with_reducible refine Blk.drewN ?_ _ | with_reducible refine Blk.drew ?_ | with_reducible refine Blk.alloc ?_ _)) hb (by have := bk4.out.lt; first | omega | (simp; omega)))
      have HDt5 := Lib.hid (show Below w1.heap.size w1 w5 from bl_trans (by repeat (first | with_reducible exact HDt4.out | with_reducible refine Below.drew ?_ | with_reducible refine bl_drewN ?_ _ | with_reducible refine bl_alloc ?_ _)) hb)
      clear hb HB4 bx4 bk4 cx ck HDt4
      have cx := bx5.out.cell
      have ck := bk5.out.cell
      go_wp2_with fail
      (try (go_quiet (fail); go_wp2_with fail))
      refine (iAdd_is _ e0 (by repeat (first | exact HE.out.below HB5.out | refine EG.drewN ?_ _ | refine EG.drew ?_ | refine EG.alloc ?_ _)) u v p q x y true HA.out.1 HA.out.2).mono ?_
      rintro e w6 ⟨rfl, hb⟩
      have hs6 := hb.size
      have HB6 := Lib.hid (show Below w.heap.size w w6 from bl_trans (by repeat (first | with_reducible exact HB5.out | with_reducible refine bl_drewN ?_ _ | with_reducible refine Below.drew ?_ | with_reducible refine bl_alloc ?_ _)) hb)
      have bx6 := Lib.hid (show Blk w6 (w2.heap.size) 30 #[.int .i64 (X : Int), .int .i64 (Y : Int)] from Blk.below (by repeat (first | with_reducible exact bx5.out | with_reducible refine Blk.drewN ?_ _ | with_reducible refine Blk.drew ?_ | with_reducible refine Blk.alloc ?_ _)) hb (by have := bx5.out.lt; first | omega | (simp; omega)))
      have bk6 := Lib.hid (show Blk w6 (w3.heap.size) 30 #[.int .i64 (X : Int), .int .i64 (Y : Int)] from Blk.below (by repeat (first | with_reducible exact bk5.out | with_reducible refine Blk.drewN ?_ _ | with_reducible refine Blk.drew ?_ | with_reducible refine Blk.alloc ?_ _)) hb (by have := bk5.out.lt; first | omega | (simp; omega)))
      have HDt6 := Lib.hid (show Below w1.heap.size w1 w6 from bl_trans (by repeat (first | with_reducible exact HDt5.out | with_reducible refine Below.drew ?_ | with_reducible refine bl_drewN ?_ _ | with_reducible refine bl_alloc ?_ _)) hb)
      clear hb HB5 bx5 bk5 cx ck HDt5
      have cx := fun o0 => (bx6.out.alloc o0).cell
      have ck := fun o0 => (bk6.out.alloc o0).cell
      have hS6 := And.intro (Blk.two (show Blk (w6.alloc (.cells #[.int .i64 (x : Int), .int .i64 (y : Int)] 30)) (w2.heap.size) 30 #[.int .i64 (X : Int), .int .i64 (Y : Int)] from by repeat (first | with_reducible exact bx6.out | with_reducible refine Blk.alloc ?_ _))) (Blk.two (show Blk (w6.alloc (.cells #[.int .i64 (x : Int), .int .i64 (y : Int)] 30)) (w6.heap.size) 30 #[.int .i64 (x : Int), .int .i64 (y : Int)] from by have hh := Blk.new w6 30 #[.int .i64 (x : Int), .int .i64 (y : Int)]; (try simp only [World.size_alloc] at hh); repeat (first | exact hh | with_reducible refine Blk.alloc ?_ _)))
      go_wp2_with fail
      first
      | (go_region_held3 (fun W => (W.cell? ⟨w2.heap.size, 0, none⟩ = some (.int .i64 (X : Int)) ∧ W.cell? ⟨w2.heap.size, 1, none⟩ = some (.int .i64 (Y : Int))) ∧ (W.cell? ⟨w6.heap.size, 0, none⟩ = some (.int .i64 (x : Int)) ∧ W.cell? ⟨w6.heap.size, 1, none⟩ = some (.int .i64 (y : Int)))) (first | exact hS6 | exact hS7)
        ((first
          | (have uu := HB6; clear uu; go_at_call 23; refine (iHigh_is _ At _ ct ts ((HTt.out.below (by repeat (first | with_reducible exact HDt6.out | with_reducible refine Below.drew ?_ | with_reducible refine bl_drewN ?_ _ | with_reducible refine bl_alloc ?_ _) : Below w1.heap.size w1 _)).more (Below.size (by repeat (first | with_reducible exact HDt6.out | with_reducible refine Below.drew ?_ | with_reducible refine bl_drewN ?_ _ | with_reducible refine bl_alloc ?_ _) : Below w1.heap.size w1 _))) (by omega) e0 (by repeat (first | exact HE.out.below HB6.out | refine EG.drewN ?_ _ | refine EG.drew ?_ | refine EG.alloc ?_ _)) X Y HH.out).mono ?_; rintro e w7 ⟨rfl, hb⟩; have hs7 := hb.size; have HB7 := Lib.hid (show Below w.heap.size w w7 from bl_trans (by repeat (first | with_reducible exact HB6.out | with_reducible refine bl_drewN ?_ _ | with_reducible refine Below.drew ?_ | with_reducible refine bl_alloc ?_ _)) hb); have bx7 := Lib.hid (show Blk w7 (w2.heap.size) 30 #[.int .i64 (X : Int), .int .i64 (Y : Int)] from Blk.below (by repeat (first | with_reducible exact bx6.out | with_reducible refine Blk.drewN ?_ _ | with_reducible refine Blk.drew ?_ | with_reducible refine Blk.alloc ?_ _)) hb (by have := bx6.out.lt; first | exact this | omega | (simp; omega))); have cx := bx7.out.cell; have bk7 := Lib.hid (show Blk w7 (w3.heap.size) 30 #[.int .i64 (X : Int), .int .i64 (Y : Int)] from Blk.below (by repeat (first | with_reducible exact bk6.out | with_reducible refine Blk.drewN ?_ _ | with_reducible refine Blk.drew ?_ | with_reducible refine Blk.alloc ?_ _)) hb (by have := bk6.out.lt; first | exact this | omega | (simp; omega))); have ck := bk7.out.cell; have bl7 := Lib.hid (show Blk w7 (w6.heap.size) 30 #[.int .i64 (x : Int), .int .i64 (y : Int)] from Blk.below (by have hh := Blk.new w6 30 #[.int .i64 (x : Int), .int .i64 (y : Int)]; (try simp only [World.size_alloc] at hh); repeat (first | exact hh | with_reducible refine Blk.drewN ?_ _ | with_reducible refine Blk.drew ?_ | with_reducible refine Blk.alloc ?_ _)) hb (by first | omega | (simp; done) | (simp; omega))); have cl := bl7.out.cell; have HDt7 := Lib.hid (show Below w1.heap.size w1 w7 from bl_trans (by repeat (first | with_reducible exact HDt6.out | with_reducible refine Below.drew ?_ | with_reducible refine bl_drewN ?_ _ | with_reducible refine bl_alloc ?_ _)) hb); have hS7 := And.intro (Blk.two bx7.out) (Blk.two bl7.out); clear hb HB6))))
      | fail "no region"
      have hkx7 := bx7.out.lt
      have hkk7 := bk7.out.lt
      have hkl7 := bl7.out.lt
      have cx := bx7.out.cell
      have ck := bk7.out.cell
      have cl := bl7.out.cell
      go_wp2
      (try (go_quiet (fail); go_wp2))
      go_ret
      exact ⟨rfl, by repeat (first | with_reducible exact HB7.out | refine bl_drewN ?_ _ | refine Below.drew ?_ | refine bl_alloc ?_ _ | refine bl_set ?_ (by dsimp only; omega) _)⟩

end Go.Proofs.YtpngfonnoepmfabDoor
