import Derived.Deep.RegionWith
import Derived.Deep.RegionHeld3
import Derived.Test.YtgponahmkjohiabGreatDoorT1NB
namespace Go.Proofs.YtgponahmkjohiabGreatDoor
section
open Go.RowKit
set_option linter.unusedVariables false
set_option maxRecDepth 100000 in
set_option maxHeartbeats 6000000 in
theorem sFac_some (w0 : World) (A : Option Addr) (n c : Nat) (ts : List Tk) (h : Tks w0 w0.heap.size A n ts) (hn : n ≤ 1048576) (X Y : Nat) (hX : facV ts = (X, Y)) (hft : facB ts = true) (hp : plainV ts = false) :
    Calls Tryz.prog 98 #[.slice A n c] w0 (MkRes X Y true w0) := by
  have HTt := Lib.hid h
  have HL := Lib.hid h.len
  have HB0 := Lib.hid (Below.refl w0.heap.size w0)
  have HDt0 := Lib.hid (Below.refl w0.heap.size w0)
  clear h
  have hi := fac_imp hft
  have hs := imp_set hi
  obtain ⟨p, q, hpq⟩ : ∃ p q, lowOf ts false = (p, q) := ⟨_, _, rfl⟩
  obtain ⟨u, v, huv⟩ : ∃ p q, lowOf ts true = (p, q) := ⟨_, _, rfl⟩
  obtain ⟨x, y, z, s1, s2, s3, _, e1, e2, e3, e4⟩ := low_pack hs hpq huv
  obtain ⟨z2, e5, e6⟩ := one_pack hs hpq
  have hfb : facB ts = (decide (z ≤ 0) && !decide (z2 = 0)) := by unfold facB; rw [hi, hp, e4, e6]; rfl
  have HI := Lib.hid hi
  have HPL := Lib.hid hp
  have HP := Lib.hid hpq
  have HU := Lib.hid huv
  have HA := Lib.hid (And.intro s1 (And.intro s2 (And.intro e1 e2)))
  have HZ := Lib.hid e3
  have HZ2 := Lib.hid e5
  clear hi hs s1 s2 s3 e1 e2 e3 e4 e5 e6
  have hz : z ≤ 0 := by rw [hft] at hfb; simp at hfb; exact hfb.1
  have hz2 : ¬ z2 = 0 := by rw [hft] at hfb; simp at hfb; exact hfb.2
  obtain ⟨N, D, g, X0, Y0, hN, hD, hlt, hg, g1, hX1, hY1, N1, D0, D1, m1, m2, hf, hsh, x1, y1⟩ := fac_pack hft HPL.out HP.out HU.out
  rw [hf] at hX
  obtain ⟨rfl, rfl⟩ := Prod.mk.inj hX
  obtain ⟨R, hR⟩ : ∃ R, q - p = R := ⟨_, rfl⟩
  rw [hR] at hD
  have qR : (q : Int) - (p : Int) = (R : Int) := by omega
  have qN := mul_cast u q N hN
  have qD := mul_cast v R D hD
  have qX : ((N : Int) / (g : Int)) = (X0 : Int) := by rw [div_cast, hX1]
  have qY : ((D : Int) / (g : Int)) = (Y0 : Int) := by rw [div_cast, hY1]
  have z1 : ¬ (g : Int) = 0 := by omega
  have kX : IntKind.i64.wrap (X0 : Int) = (X0 : Int) := IntWalk.i64_in _ (by omega)
  have kY : IntKind.i64.wrap (Y0 : Int) = (Y0 : Int) := IntWalk.i64_in _ (by clear kX; omega)
  have tX : Int.tdiv (N : Int) (g : Int) = (X0 : Int) := by rw [Int.tdiv_eq_ediv_of_nonneg (by omega)]; exact qX
  have tY : Int.tdiv (D : Int) (g : Int) = (Y0 : Int) := by rw [Int.tdiv_eq_ediv_of_nonneg (by omega)]; exact qY
  have zz : ((g : Int) == 0) = false := by simp; omega
  have HG := Lib.hid (fun W : World => (by rw [← hg]; exact (sGcd_big W D N (by omega) (by omega)).mono (fun e w' hh => ⟨hh.1, by rw [hh.2]; exact Below.refl _ _⟩) : Calls Tryz.prog 119 #[.int .i64 D, .int .i64 N] W fun e w' => e = .returned (.int .i64 g) ∧ Below W.heap.size W w'))
  have HM := Lib.hid (And.intro m1 m2)
  have d1 : decide (0 < z) = false := by simp; omega
  have d3 : decide (z > 0) = false := by simp; omega
  have d2 : (z2 == 0) = false := by rw [beq_eq_false_iff_ne]; exact hz2
  have hR20 : R ≤ 1000000000 := by have := HA.out.1.den; omega
  have hp9 := HA.out.1.num
  have hq9 := HA.out.1.den
  have hu9 := HA.out.2.1.num
  have hv9 := HA.out.2.1.den
  clear hf hft hfb hN hD hR hg hX1 hY1 m1 m2 hsh hlt hpq huv
  go_enter Tryz.func98, Tryz.ntmps98
  go_wp2_with fail
  (try (go_quiet (fail); go_wp2_with fail))
  refine (sImp_is _ A n c ts ((HTt.out.below (by repeat (first | with_reducible exact HDt0.out | with_reducible refine Below.drew ?_ | with_reducible refine bl_drewN ?_ _ | with_reducible refine bl_alloc ?_ _) : Below w0.heap.size w0 _)).more (Below.size (by repeat (first | with_reducible exact HDt0.out | with_reducible refine Below.drew ?_ | with_reducible refine bl_drewN ?_ _ | with_reducible refine bl_alloc ?_ _) : Below w0.heap.size w0 _))) hn true HI.out).mono ?_
  rintro e w1 ⟨rfl, hb⟩
  have hs1 := hb.size
  have HB1 := Lib.hid (show Below w0.heap.size w0 w1 from bl_trans (by repeat (first | with_reducible exact HB0.out | with_reducible refine bl_drewN ?_ _ | with_reducible refine Below.drew ?_ | with_reducible refine bl_alloc ?_ _)) hb)
  have br1 := Lib.hid (show Blk w1 (w0.heap.size) 87 #[.int .i64 0, .int .i64 0] from Blk.below (by have hh := Blk.new w0 87 #[.int .i64 0, .int .i64 0]; (try simp only [World.size_alloc] at hh); repeat (first | exact hh | with_reducible refine Blk.drewN ?_ _ | with_reducible refine Blk.drew ?_ | with_reducible refine Blk.alloc ?_ _)) hb (by first | omega | (simp; done) | (simp; omega)))
  have HDt1 := Lib.hid (show Below w0.heap.size w0 w1 from bl_trans (by repeat (first | with_reducible exact HDt0.out | with_reducible refine Below.drew ?_ | with_reducible refine bl_drewN ?_ _ | with_reducible refine bl_alloc ?_ _)) hb)
  clear hb HB0 HDt0
  have cr := br1.out.cell
  go_wp2_with fail
  (try (go_quiet (fail); go_wp2_with fail))
  refine (sPlain_is _ A n c ts ((HTt.out.below (by repeat (first | with_reducible exact HDt1.out | with_reducible refine Below.drew ?_ | with_reducible refine bl_drewN ?_ _ | with_reducible refine bl_alloc ?_ _) : Below w0.heap.size w0 _)).more (Below.size (by repeat (first | with_reducible exact HDt1.out | with_reducible refine Below.drew ?_ | with_reducible refine bl_drewN ?_ _ | with_reducible refine bl_alloc ?_ _) : Below w0.heap.size w0 _))) hn false HPL.out).mono ?_
  rintro e w2 ⟨rfl, hb⟩
  have hs2 := hb.size
  have HB2 := Lib.hid (show Below w0.heap.size w0 w2 from bl_trans (by repeat (first | with_reducible exact HB1.out | with_reducible refine bl_drewN ?_ _ | with_reducible refine Below.drew ?_ | with_reducible refine bl_alloc ?_ _)) hb)
  have br2 := Lib.hid (show Blk w2 (w0.heap.size) 87 #[.int .i64 0, .int .i64 0] from Blk.below (by repeat (first | with_reducible exact br1.out | with_reducible refine Blk.drewN ?_ _ | with_reducible refine Blk.drew ?_ | with_reducible refine Blk.alloc ?_ _)) hb (by have := br1.out.lt; first | omega | (simp; omega)))
  have HDt2 := Lib.hid (show Below w0.heap.size w0 w2 from bl_trans (by repeat (first | with_reducible exact HDt1.out | with_reducible refine Below.drew ?_ | with_reducible refine bl_drewN ?_ _ | with_reducible refine bl_alloc ?_ _)) hb)
  clear hb HB1 br1 cr HDt1
  have cr := br2.out.cell
  go_wp2_with fail
  (try (go_quiet (fail); go_wp2_with fail))
  refine (sLow_is _ A n c ts false ((HTt.out.below (by repeat (first | with_reducible exact HDt2.out | with_reducible refine Below.drew ?_ | with_reducible refine bl_drewN ?_ _ | with_reducible refine bl_alloc ?_ _) : Below w0.heap.size w0 _)).more (Below.size (by repeat (first | with_reducible exact HDt2.out | with_reducible refine Below.drew ?_ | with_reducible refine bl_drewN ?_ _ | with_reducible refine bl_alloc ?_ _) : Below w0.heap.size w0 _))) (by omega) p q HP.out).mono ?_
  rintro e w3 ⟨rfl, hb⟩
  have hs3 := hb.size
  have HB3 := Lib.hid (show Below w0.heap.size w0 w3 from bl_trans (by repeat (first | with_reducible exact HB2.out | with_reducible refine bl_drewN ?_ _ | with_reducible refine Below.drew ?_ | with_reducible refine bl_alloc ?_ _)) hb)
  have br3 := Lib.hid (show Blk w3 (w0.heap.size) 87 #[.int .i64 0, .int .i64 0] from Blk.below (by repeat (first | with_reducible exact br2.out | with_reducible refine Blk.drewN ?_ _ | with_reducible refine Blk.drew ?_ | with_reducible refine Blk.alloc ?_ _)) hb (by have := br2.out.lt; first | omega | (simp; omega)))
  have HDt3 := Lib.hid (show Below w0.heap.size w0 w3 from bl_trans (by repeat (first | with_reducible exact HDt2.out | with_reducible refine Below.drew ?_ | with_reducible refine bl_drewN ?_ _ | with_reducible refine bl_alloc ?_ _)) hb)
  clear hb HB2 br2 cr HDt2
  have cr := fun o0 => (br3.out.alloc o0).cell
  go_wp2_with fail
  (try (go_quiet (fail); go_wp2_with fail))
  refine (sLow_is _ A n c ts true ((HTt.out.below (by repeat (first | with_reducible exact HDt3.out | with_reducible refine Below.drew ?_ | with_reducible refine bl_drewN ?_ _ | with_reducible refine bl_alloc ?_ _) : Below w0.heap.size w0 _)).more (Below.size (by repeat (first | with_reducible exact HDt3.out | with_reducible refine Below.drew ?_ | with_reducible refine bl_drewN ?_ _ | with_reducible refine bl_alloc ?_ _) : Below w0.heap.size w0 _))) (by omega) u v HU.out).mono ?_
  rintro e w4 ⟨rfl, hb⟩
  have hs4 := hb.size
  have HB4 := Lib.hid (show Below w0.heap.size w0 w4 from bl_trans (by repeat (first | with_reducible exact HB3.out | with_reducible refine bl_drewN ?_ _ | with_reducible refine Below.drew ?_ | with_reducible refine bl_alloc ?_ _)) hb)
  have br4 := Lib.hid (show Blk w4 (w0.heap.size) 87 #[.int .i64 0, .int .i64 0] from Blk.below (by repeat (first | with_reducible exact br3.out | with_reducible refine Blk.drewN ?_ _ | with_reducible refine Blk.drew ?_ | with_reducible refine Blk.alloc ?_ _)) hb (by have := br3.out.lt; first | omega | (simp; omega)))
  have ba4 := Lib.hid (show Blk w4 (w3.heap.size) 87 #[.int .i64 (p : Int), .int .i64 (q : Int)] from Blk.below (by have hh := Blk.new w3 87 #[.int .i64 (p : Int), .int .i64 (q : Int)]; (try simp only [World.size_alloc] at hh); repeat (first | exact hh | with_reducible refine Blk.drewN ?_ _ | with_reducible refine Blk.drew ?_ | with_reducible refine Blk.alloc ?_ _)) hb (by first | omega | (simp; done) | (simp; omega)))
  have HDt4 := Lib.hid (show Below w0.heap.size w0 w4 from bl_trans (by repeat (first | with_reducible exact HDt3.out | with_reducible refine Below.drew ?_ | with_reducible refine bl_drewN ?_ _ | with_reducible refine bl_alloc ?_ _)) hb)
  clear hb HB3 br3 cr HDt3
  have cr := fun o0 => (br4.out.alloc o0).cell
  have ca := fun o0 => (ba4.out.alloc o0).cell
  go_wp2_with fail
  (try (go_quiet (fail); go_wp2_with fail))
  refine (l2_is _ p q u v x y true HA.out.1 HA.out.2.1 HA.out.2.2.1 HA.out.2.2.2).mono ?_
  rintro e w5 ⟨rfl, hb⟩
  have hs5 := hb.size
  have HB5 := Lib.hid (show Below w0.heap.size w0 w5 from bl_trans (by repeat (first | with_reducible exact HB4.out | with_reducible refine bl_drewN ?_ _ | with_reducible refine Below.drew ?_ | with_reducible refine bl_alloc ?_ _)) hb)
  have br5 := Lib.hid (show Blk w5 (w0.heap.size) 87 #[.int .i64 0, .int .i64 0] from Blk.below (by repeat (first | with_reducible exact br4.out | with_reducible refine Blk.drewN ?_ _ | with_reducible refine Blk.drew ?_ | with_reducible refine Blk.alloc ?_ _)) hb (by have := br4.out.lt; first | omega | (simp; omega)))
  have ba5 := Lib.hid (show Blk w5 (w3.heap.size) 87 #[.int .i64 (p : Int), .int .i64 (q : Int)] from Blk.below (by repeat (first | with_reducible exact ba4.out | with_reducible refine Blk.drewN ?_ _ | with_reducible refine Blk.drew ?_ | with_reducible refine Blk.alloc ?_ _)) hb (by have := ba4.out.lt; first | omega | (simp; omega)))
  have bb5 := Lib.hid (show Blk w5 (w4.heap.size) 87 #[.int .i64 (u : Int), .int .i64 (v : Int)] from Blk.below (by have hh := Blk.new w4 87 #[.int .i64 (u : Int), .int .i64 (v : Int)]; (try simp only [World.size_alloc] at hh); repeat (first | exact hh | with_reducible refine Blk.drewN ?_ _ | with_reducible refine Blk.drew ?_ | with_reducible refine Blk.alloc ?_ _)) hb (by first | omega | (simp; done) | (simp; omega)))
  have HDt5 := Lib.hid (show Below w0.heap.size w0 w5 from bl_trans (by repeat (first | with_reducible exact HDt4.out | with_reducible refine Below.drew ?_ | with_reducible refine bl_drewN ?_ _ | with_reducible refine bl_alloc ?_ _)) hb)
  clear hb HB4 br4 ba4 cr ca HDt4
  have cr := fun o0 => (br5.out.alloc o0).cell
  have ca := fun o0 => (ba5.out.alloc o0).cell
  have cb := fun o0 => (bb5.out.alloc o0).cell
  have hS5 := And.intro (Blk.two (show Blk (w5.alloc (.cells #[.int .i64 (x : Int), .int .i64 (y : Int)] 87)) (w5.heap.size) 87 #[.int .i64 (x : Int), .int .i64 (y : Int)] from by have hh := Blk.new w5 87 #[.int .i64 (x : Int), .int .i64 (y : Int)]; (try simp only [World.size_alloc] at hh); repeat (first | exact hh | with_reducible refine Blk.alloc ?_ _))) (Blk.two (show Blk (w5.alloc (.cells #[.int .i64 (x : Int), .int .i64 (y : Int)] 87)) (w3.heap.size) 87 #[.int .i64 (p : Int), .int .i64 (q : Int)] from by repeat (first | with_reducible exact ba5.out | with_reducible refine Blk.alloc ?_ _)))
  go_wp2_with fail
  first
  | (go_region_held3 (fun W => (W.cell? ⟨w5.heap.size, 0, none⟩ = some (.int .i64 (x : Int)) ∧ W.cell? ⟨w5.heap.size, 1, none⟩ = some (.int .i64 (y : Int))) ∧ (W.cell? ⟨w3.heap.size, 0, none⟩ = some (.int .i64 (p : Int)) ∧ W.cell? ⟨w3.heap.size, 1, none⟩ = some (.int .i64 (q : Int)))) (first | exact hS5 | exact hS6 | exact hS7 | exact hS8 | exact hS9)
    ((first
      | (have uu := HB5; clear uu; go_at_call 97; refine (sOne_is _).mono ?_; rintro e w6 ⟨rfl, hb⟩; have hs6 := hb.size; have HB6 := Lib.hid (show Below w0.heap.size w0 w6 from bl_trans (by repeat (first | with_reducible exact HB5.out | with_reducible refine bl_drewN ?_ _ | with_reducible refine Below.drew ?_ | with_reducible refine bl_alloc ?_ _)) hb); have br6 := Lib.hid (show Blk w6 (w0.heap.size) 87 #[.int .i64 0, .int .i64 0] from Blk.below (by repeat (first | with_reducible exact br5.out | with_reducible refine Blk.drewN ?_ _ | with_reducible refine Blk.drew ?_ | with_reducible refine Blk.alloc ?_ _)) hb (by have := br5.out.lt; first | exact this | omega | (simp; omega))); have cr := br6.out.cell; have ba6 := Lib.hid (show Blk w6 (w3.heap.size) 87 #[.int .i64 (p : Int), .int .i64 (q : Int)] from Blk.below (by repeat (first | with_reducible exact ba5.out | with_reducible refine Blk.drewN ?_ _ | with_reducible refine Blk.drew ?_ | with_reducible refine Blk.alloc ?_ _)) hb (by have := ba5.out.lt; first | exact this | omega | (simp; omega))); have ca := ba6.out.cell; have bb6 := Lib.hid (show Blk w6 (w4.heap.size) 87 #[.int .i64 (u : Int), .int .i64 (v : Int)] from Blk.below (by repeat (first | with_reducible exact bb5.out | with_reducible refine Blk.drewN ?_ _ | with_reducible refine Blk.drew ?_ | with_reducible refine Blk.alloc ?_ _)) hb (by have := bb5.out.lt; first | exact this | omega | (simp; omega))); have cb := bb6.out.cell; have bs6 := Lib.hid (show Blk w6 (w5.heap.size) 87 #[.int .i64 (x : Int), .int .i64 (y : Int)] from Blk.below (by have hh := Blk.new w5 87 #[.int .i64 (x : Int), .int .i64 (y : Int)]; (try simp only [World.size_alloc] at hh); repeat (first | exact hh | with_reducible refine Blk.drewN ?_ _ | with_reducible refine Blk.drew ?_ | with_reducible refine Blk.alloc ?_ _)) hb (by first | omega | (simp; done) | (simp; omega))); have cs := bs6.out.cell; have HDt6 := Lib.hid (show Below w0.heap.size w0 w6 from bl_trans (by repeat (first | with_reducible exact HDt5.out | with_reducible refine Below.drew ?_ | with_reducible refine bl_drewN ?_ _ | with_reducible refine bl_alloc ?_ _)) hb); have hS6 := And.intro (Blk.two bs6.out) (Blk.two ba6.out); clear hb HB5)
      | (have uu := HB6; clear uu; go_at_call 123; refine (sCmp_is _ x y 1 1 z HZ.out).mono ?_; rintro e w7 ⟨rfl, hb⟩; have hs7 := hb.size; have HB7 := Lib.hid (show Below w0.heap.size w0 w7 from bl_trans (by repeat (first | with_reducible exact HB6.out | with_reducible refine bl_drewN ?_ _ | with_reducible refine Below.drew ?_ | with_reducible refine bl_alloc ?_ _)) hb); have br7 := Lib.hid (show Blk w7 (w0.heap.size) 87 #[.int .i64 0, .int .i64 0] from Blk.below (by repeat (first | with_reducible exact br6.out | with_reducible refine Blk.drewN ?_ _ | with_reducible refine Blk.drew ?_ | with_reducible refine Blk.alloc ?_ _)) hb (by have := br6.out.lt; first | exact this | omega | (simp; omega))); have cr := br7.out.cell; have ba7 := Lib.hid (show Blk w7 (w3.heap.size) 87 #[.int .i64 (p : Int), .int .i64 (q : Int)] from Blk.below (by repeat (first | with_reducible exact ba6.out | with_reducible refine Blk.drewN ?_ _ | with_reducible refine Blk.drew ?_ | with_reducible refine Blk.alloc ?_ _)) hb (by have := ba6.out.lt; first | exact this | omega | (simp; omega))); have ca := ba7.out.cell; have bb7 := Lib.hid (show Blk w7 (w4.heap.size) 87 #[.int .i64 (u : Int), .int .i64 (v : Int)] from Blk.below (by repeat (first | with_reducible exact bb6.out | with_reducible refine Blk.drewN ?_ _ | with_reducible refine Blk.drew ?_ | with_reducible refine Blk.alloc ?_ _)) hb (by have := bb6.out.lt; first | exact this | omega | (simp; omega))); have cb := bb7.out.cell; have bs7 := Lib.hid (show Blk w7 (w5.heap.size) 87 #[.int .i64 (x : Int), .int .i64 (y : Int)] from Blk.below (by repeat (first | with_reducible exact bs6.out | with_reducible refine Blk.drewN ?_ _ | with_reducible refine Blk.drew ?_ | with_reducible refine Blk.alloc ?_ _)) hb (by have := bs6.out.lt; first | exact this | omega | (simp; omega))); have cs := bs7.out.cell; have HDt7 := Lib.hid (show Below w0.heap.size w0 w7 from bl_trans (by repeat (first | with_reducible exact HDt6.out | with_reducible refine Below.drew ?_ | with_reducible refine bl_drewN ?_ _ | with_reducible refine bl_alloc ?_ _)) hb); have hS7 := And.intro (Blk.two bs7.out) (Blk.two ba7.out); clear hb HB6)
      | (have uu := HB7; clear uu; go_at_call 97; refine (sOne_is _).mono ?_; rintro e w8 ⟨rfl, hb⟩; have hs8 := hb.size; have HB8 := Lib.hid (show Below w0.heap.size w0 w8 from bl_trans (by repeat (first | with_reducible exact HB7.out | with_reducible refine bl_drewN ?_ _ | with_reducible refine Below.drew ?_ | with_reducible refine bl_alloc ?_ _)) hb); have br8 := Lib.hid (show Blk w8 (w0.heap.size) 87 #[.int .i64 0, .int .i64 0] from Blk.below (by repeat (first | with_reducible exact br7.out | with_reducible refine Blk.drewN ?_ _ | with_reducible refine Blk.drew ?_ | with_reducible refine Blk.alloc ?_ _)) hb (by have := br7.out.lt; first | exact this | omega | (simp; omega))); have cr := br8.out.cell; have ba8 := Lib.hid (show Blk w8 (w3.heap.size) 87 #[.int .i64 (p : Int), .int .i64 (q : Int)] from Blk.below (by repeat (first | with_reducible exact ba7.out | with_reducible refine Blk.drewN ?_ _ | with_reducible refine Blk.drew ?_ | with_reducible refine Blk.alloc ?_ _)) hb (by have := ba7.out.lt; first | exact this | omega | (simp; omega))); have ca := ba8.out.cell; have bb8 := Lib.hid (show Blk w8 (w4.heap.size) 87 #[.int .i64 (u : Int), .int .i64 (v : Int)] from Blk.below (by repeat (first | with_reducible exact bb7.out | with_reducible refine Blk.drewN ?_ _ | with_reducible refine Blk.drew ?_ | with_reducible refine Blk.alloc ?_ _)) hb (by have := bb7.out.lt; first | exact this | omega | (simp; omega))); have cb := bb8.out.cell; have bs8 := Lib.hid (show Blk w8 (w5.heap.size) 87 #[.int .i64 (x : Int), .int .i64 (y : Int)] from Blk.below (by repeat (first | with_reducible exact bs7.out | with_reducible refine Blk.drewN ?_ _ | with_reducible refine Blk.drew ?_ | with_reducible refine Blk.alloc ?_ _)) hb (by have := bs7.out.lt; first | exact this | omega | (simp; omega))); have cs := bs8.out.cell; have HDt8 := Lib.hid (show Below w0.heap.size w0 w8 from bl_trans (by repeat (first | with_reducible exact HDt7.out | with_reducible refine Below.drew ?_ | with_reducible refine bl_drewN ?_ _ | with_reducible refine bl_alloc ?_ _)) hb); have hS8 := And.intro (Blk.two bs8.out) (Blk.two ba8.out); clear hb HB7)
      | (have uu := HB8; clear uu; go_at_call 123; refine (sCmp_is _ p q 1 1 z2 HZ2.out).mono ?_; rintro e w9 ⟨rfl, hb⟩; have hs9 := hb.size; have HB9 := Lib.hid (show Below w0.heap.size w0 w9 from bl_trans (by repeat (first | with_reducible exact HB8.out | with_reducible refine bl_drewN ?_ _ | with_reducible refine Below.drew ?_ | with_reducible refine bl_alloc ?_ _)) hb); have br9 := Lib.hid (show Blk w9 (w0.heap.size) 87 #[.int .i64 0, .int .i64 0] from Blk.below (by repeat (first | with_reducible exact br8.out | with_reducible refine Blk.drewN ?_ _ | with_reducible refine Blk.drew ?_ | with_reducible refine Blk.alloc ?_ _)) hb (by have := br8.out.lt; first | exact this | omega | (simp; omega))); have cr := br9.out.cell; have ba9 := Lib.hid (show Blk w9 (w3.heap.size) 87 #[.int .i64 (p : Int), .int .i64 (q : Int)] from Blk.below (by repeat (first | with_reducible exact ba8.out | with_reducible refine Blk.drewN ?_ _ | with_reducible refine Blk.drew ?_ | with_reducible refine Blk.alloc ?_ _)) hb (by have := ba8.out.lt; first | exact this | omega | (simp; omega))); have ca := ba9.out.cell; have bb9 := Lib.hid (show Blk w9 (w4.heap.size) 87 #[.int .i64 (u : Int), .int .i64 (v : Int)] from Blk.below (by repeat (first | with_reducible exact bb8.out | with_reducible refine Blk.drewN ?_ _ | with_reducible refine Blk.drew ?_ | with_reducible refine Blk.alloc ?_ _)) hb (by have := bb8.out.lt; first | exact this | omega | (simp; omega))); have cb := bb9.out.cell; have bs9 := Lib.hid (show Blk w9 (w5.heap.size) 87 #[.int .i64 (x : Int), .int .i64 (y : Int)] from Blk.below (by repeat (first | with_reducible exact bs8.out | with_reducible refine Blk.drewN ?_ _ | with_reducible refine Blk.drew ?_ | with_reducible refine Blk.alloc ?_ _)) hb (by have := bs8.out.lt; first | exact this | omega | (simp; omega))); have cs := bs9.out.cell; have HDt9 := Lib.hid (show Below w0.heap.size w0 w9 from bl_trans (by repeat (first | with_reducible exact HDt8.out | with_reducible refine Below.drew ?_ | with_reducible refine bl_drewN ?_ _ | with_reducible refine bl_alloc ?_ _)) hb); have hS9 := And.intro (Blk.two bs9.out) (Blk.two ba9.out); clear hb HB8))))
  | fail "no region"
  have hkr9 := br9.out.lt
  have hka9 := ba9.out.lt
  have hkb9 := bb9.out.lt
  have hks9 := bs9.out.lt
  have cr := br9.out.cell
  have ca := ba9.out.cell
  have cb := bb9.out.cell
  have cs := bs9.out.cell
  go_wp2_with fail
  (try (go_quiet (fail); go_wp2_with fail))
  refine (HG.out _).mono ?_
  rintro e w10 ⟨rfl, hb⟩
  have hs10 := hb.size
  have HB10 := Lib.hid (show Below w0.heap.size w0 w10 from bl_trans (by repeat (first | with_reducible exact HB9.out | with_reducible refine bl_drewN ?_ _ | with_reducible refine Below.drew ?_ | with_reducible refine bl_alloc ?_ _)) hb)
  have br10 := Lib.hid (show Blk w10 (w0.heap.size) 87 #[.int .i64 0, .int .i64 0] from Blk.below (by repeat (first | with_reducible exact br9.out | with_reducible refine Blk.drewN ?_ _ | with_reducible refine Blk.drew ?_ | with_reducible refine Blk.alloc ?_ _)) hb (by have := br9.out.lt; first | omega | (simp; omega)))
  have ba10 := Lib.hid (show Blk w10 (w3.heap.size) 87 #[.int .i64 (p : Int), .int .i64 (q : Int)] from Blk.below (by repeat (first | with_reducible exact ba9.out | with_reducible refine Blk.drewN ?_ _ | with_reducible refine Blk.drew ?_ | with_reducible refine Blk.alloc ?_ _)) hb (by have := ba9.out.lt; first | omega | (simp; omega)))
  have bb10 := Lib.hid (show Blk w10 (w4.heap.size) 87 #[.int .i64 (u : Int), .int .i64 (v : Int)] from Blk.below (by repeat (first | with_reducible exact bb9.out | with_reducible refine Blk.drewN ?_ _ | with_reducible refine Blk.drew ?_ | with_reducible refine Blk.alloc ?_ _)) hb (by have := bb9.out.lt; first | omega | (simp; omega)))
  have bs10 := Lib.hid (show Blk w10 (w5.heap.size) 87 #[.int .i64 (x : Int), .int .i64 (y : Int)] from Blk.below (by repeat (first | with_reducible exact bs9.out | with_reducible refine Blk.drewN ?_ _ | with_reducible refine Blk.drew ?_ | with_reducible refine Blk.alloc ?_ _)) hb (by have := bs9.out.lt; first | omega | (simp; omega)))
  have HDt10 := Lib.hid (show Below w0.heap.size w0 w10 from bl_trans (by repeat (first | with_reducible exact HDt9.out | with_reducible refine Below.drew ?_ | with_reducible refine bl_drewN ?_ _ | with_reducible refine bl_alloc ?_ _)) hb)
  clear hb HB9 br9 ba9 bb9 bs9 cr ca cb cs HDt9
  (try clear ba10 bb10 bs10 HDt10)
  (try clear HTt)
  (try clear HL)
  (try clear HI)
  (try clear HPL)
  (try clear HP)
  (try clear HU)
  (try clear HA)
  (try clear HZ)
  (try clear HZ2)
  (try clear HG)
  (try clear d1)
  (try clear d2)
  (try clear d3)
  (try clear qR)
  (try clear qN)
  (try clear qD)
  (try clear hR20)
  (try clear hp9)
  (try clear hq9)
  (try clear hu9)
  (try clear hv9)
  (try clear hz)
  (try clear hz2)
  (try clear hs1)
  (try clear hs2)
  (try clear hs3)
  (try clear hs4)
  (try clear hs5)
  (try clear hs6)
  (try clear hs7)
  (try clear hs8)
  (try clear hs9)
  (try clear hs10)
  (try clear hkr1)
  (try clear hka1)
  (try clear hkb1)
  (try clear hks1)
  (try clear hkr2)
  (try clear hka2)
  (try clear hkb2)
  (try clear hks2)
  (try clear hkr3)
  (try clear hka3)
  (try clear hkb3)
  (try clear hks3)
  (try clear hkr4)
  (try clear hka4)
  (try clear hkb4)
  (try clear hks4)
  (try clear hkr5)
  (try clear hka5)
  (try clear hkb5)
  (try clear hks5)
  (try clear hkr6)
  (try clear hka6)
  (try clear hkb6)
  (try clear hks6)
  (try clear hkr7)
  (try clear hka7)
  (try clear hkb7)
  (try clear hks7)
  (try clear hkr8)
  (try clear hka8)
  (try clear hkb8)
  (try clear hks8)
  (try clear hkr9)
  (try clear hka9)
  (try clear hkb9)
  (try clear hks9)
  (try clear hkr10)
  (try clear hka10)
  (try clear hkb10)
  (try clear hks10)
  (try clear cr)
  (try clear ca)
  (try clear cb)
  (try clear cs)
  have cr := br10.out.cell
  go_wp2
  go_region_with (have uu := HB10; clear uu; go_at_call 120; refine (sMake_is _ X0 Y0 X0 Y0 true HM.out.1 HM.out.2).mono ?_; rintro e w11 ⟨rfl, hb⟩; have HB11 := Lib.hid (show Below w0.heap.size w0 w11 from bl_trans (by repeat (first | with_reducible exact HB10.out | with_reducible refine bl_drewN ?_ _ | with_reducible refine Below.drew ?_)) hb); have br11 := Lib.hid (show Blk w11 (w0.heap.size) 87 #[.int .i64 0, .int .i64 0] from Blk.below (by repeat (first | with_reducible exact br10.out | with_reducible refine Blk.drewN ?_ _ | with_reducible refine Blk.drew ?_)) hb (by have := br10.out.lt; first | exact this | (simp; omega))); have fR := br11.out.frozen; have cR := br11.out.cell; have cF := fun (s t : Value) => ((br11.out.set_ 0 s).set_ 1 t).cell; clear hb HB10)
  all_goals go_wp2
  all_goals refine bodyPost_ret (v := .tuple #[.agg #[.int .i64 (X0 : Int), .int .i64 (Y0 : Int)], .bool true]) (by simp [results, Tryz.results98, go_sem, cF]) rfl ⟨rfl, (by repeat (first | with_reducible exact HB11.out | refine bl_drewN ?_ _ | refine Below.drew ?_ | refine bl_alloc ?_ _ | refine bl_set ?_ (by dsimp only; omega) _))⟩
end
section
open Go.RowKit
set_option linter.unusedVariables false
set_option maxRecDepth 100000 in
set_option maxHeartbeats 6000000 in
theorem sFac_is (w0 : World) (A : Option Addr) (n c : Nat) (ts : List Tk) (h : Tks w0 w0.heap.size A n ts) (hn : n ≤ 1048576) (X Y : Nat) (b : Bool) (hX : facV ts = (X, Y)) (hb : facB ts = b) :
    Calls Tryz.prog 98 #[.slice A n c] w0 (MkRes X Y b w0) := by
  have HTt := Lib.hid h
  have HL := Lib.hid h.len
  have HB0 := Lib.hid (Below.refl w0.heap.size w0)
  have HDt0 := Lib.hid (Below.refl w0.heap.size w0)
  clear h
  cases hi : impB ts
  · obtain rfl : b = false := by rw [← hb]; unfold facB; rw [hi]; rfl
    rw [facV_no hb] at hX
    obtain ⟨rfl, rfl⟩ := Prod.mk.inj hX
    clear hb hX
    go_enter Tryz.func98, Tryz.ntmps98
    go_wp2_with fail
    (try (go_quiet (fail); go_wp2_with fail))
    refine (sImp_is _ A n c ts ((HTt.out.below (by repeat (first | with_reducible exact HDt0.out | with_reducible refine Below.drew ?_ | with_reducible refine bl_drewN ?_ _ | with_reducible refine bl_alloc ?_ _) : Below w0.heap.size w0 _)).more (Below.size (by repeat (first | with_reducible exact HDt0.out | with_reducible refine Below.drew ?_ | with_reducible refine bl_drewN ?_ _ | with_reducible refine bl_alloc ?_ _) : Below w0.heap.size w0 _))) hn false hi).mono ?_
    rintro e w1 ⟨rfl, hb⟩
    have hs1 := hb.size
    have HB1 := Lib.hid (show Below w0.heap.size w0 w1 from bl_trans (by repeat (first | with_reducible exact HB0.out | with_reducible refine bl_drewN ?_ _ | with_reducible refine Below.drew ?_ | with_reducible refine bl_alloc ?_ _)) hb)
    have br1 := Lib.hid (show Blk w1 (w0.heap.size) 87 #[.int .i64 0, .int .i64 0] from Blk.below (by have hh := Blk.new w0 87 #[.int .i64 0, .int .i64 0]; (try simp only [World.size_alloc] at hh); repeat (first | exact hh | with_reducible refine Blk.drewN ?_ _ | with_reducible refine Blk.drew ?_ | with_reducible refine Blk.alloc ?_ _)) hb (by first | omega | (simp; done) | (simp; omega)))
    have HDt1 := Lib.hid (show Below w0.heap.size w0 w1 from bl_trans (by repeat (first | with_reducible exact HDt0.out | with_reducible refine Below.drew ?_ | with_reducible refine bl_drewN ?_ _ | with_reducible refine bl_alloc ?_ _)) hb)
    clear hb HB0 HDt0
    have cr := br1.out.cell
    have fR := br1.out.frozen
    have cR := br1.out.cell
    have cF := fun (s t : Value) => ((br1.out.set_ 0 s).set_ 1 t).cell
    go_wp2
    (try (go_quiet (fail); go_wp2))
    refine bodyPost_ret (v := .tuple #[.agg #[.int .i64 0, .int .i64 0], .bool false]) (by simp [results, Tryz.results98, go_sem, cF]) rfl ⟨rfl, (by repeat (first | with_reducible exact HB1.out | refine bl_drewN ?_ _ | refine Below.drew ?_ | refine bl_alloc ?_ _ | refine bl_set ?_ (by dsimp only; omega) _))⟩
  cases hp : plainV ts
  · by_cases hft : facB ts = true
    · obtain rfl : b = true := by rw [← hb]; exact hft
      exact sFac_some w0 A n c ts HTt.out hn X Y hX hft hp
    have hfn : facB ts = false := by simpa using hft
    have hs := imp_set hi
    rw [facV_no hfn] at hX
    obtain ⟨rfl, rfl⟩ := Prod.mk.inj hX
    obtain rfl : b = false := by rw [← hb]; exact hfn
    clear hft
    obtain ⟨p, q, hpq⟩ : ∃ p q, lowOf ts false = (p, q) := ⟨_, _, rfl⟩
    obtain ⟨u, v, huv⟩ : ∃ p q, lowOf ts true = (p, q) := ⟨_, _, rfl⟩
    obtain ⟨x, y, z, s1, s2, s3, _, e1, e2, e3, e4⟩ := low_pack hs hpq huv
    obtain ⟨z2, e5, e6⟩ := one_pack hs hpq
    have hfb : facB ts = (decide (z ≤ 0) && !decide (z2 = 0)) := by unfold facB; rw [hi, hp, e4, e6]; rfl
    have HI := Lib.hid hi
    have HPL := Lib.hid hp
    have HP := Lib.hid hpq
    have HU := Lib.hid huv
    have HA := Lib.hid (And.intro s1 (And.intro s2 (And.intro e1 e2)))
    have HZ := Lib.hid e3
    have HZ2 := Lib.hid e5
    clear hi hs s1 s2 s3 e1 e2 e3 e4 e5 e6
    clear hb hX hpq huv
    by_cases hz : z ≤ 0
    · have hz2 : z2 = 0 := by rw [hfn] at hfb; simp at hfb; exact hfb hz
      have d1 : decide (0 < z) = false := by simp; omega
      have d3 : decide (z > 0) = false := by simp; omega
      have d2 : (z2 == 0) = true := by simp; exact hz2
      clear hfn hfb
      go_enter Tryz.func98, Tryz.ntmps98
      go_wp2_with fail
      (try (go_quiet (fail); go_wp2_with fail))
      refine (sImp_is _ A n c ts ((HTt.out.below (by repeat (first | with_reducible exact HDt0.out | with_reducible refine Below.drew ?_ | with_reducible refine bl_drewN ?_ _ | with_reducible refine bl_alloc ?_ _) : Below w0.heap.size w0 _)).more (Below.size (by repeat (first | with_reducible exact HDt0.out | with_reducible refine Below.drew ?_ | with_reducible refine bl_drewN ?_ _ | with_reducible refine bl_alloc ?_ _) : Below w0.heap.size w0 _))) hn true HI.out).mono ?_
      rintro e w1 ⟨rfl, hb⟩
      have hs1 := hb.size
      have HB1 := Lib.hid (show Below w0.heap.size w0 w1 from bl_trans (by repeat (first | with_reducible exact HB0.out | with_reducible refine bl_drewN ?_ _ | with_reducible refine Below.drew ?_ | with_reducible refine bl_alloc ?_ _)) hb)
      have br1 := Lib.hid (show Blk w1 (w0.heap.size) 87 #[.int .i64 0, .int .i64 0] from Blk.below (by have hh := Blk.new w0 87 #[.int .i64 0, .int .i64 0]; (try simp only [World.size_alloc] at hh); repeat (first | exact hh | with_reducible refine Blk.drewN ?_ _ | with_reducible refine Blk.drew ?_ | with_reducible refine Blk.alloc ?_ _)) hb (by first | omega | (simp; done) | (simp; omega)))
      have HDt1 := Lib.hid (show Below w0.heap.size w0 w1 from bl_trans (by repeat (first | with_reducible exact HDt0.out | with_reducible refine Below.drew ?_ | with_reducible refine bl_drewN ?_ _ | with_reducible refine bl_alloc ?_ _)) hb)
      clear hb HB0 HDt0
      have cr := br1.out.cell
      go_wp2_with fail
      (try (go_quiet (fail); go_wp2_with fail))
      refine (sPlain_is _ A n c ts ((HTt.out.below (by repeat (first | with_reducible exact HDt1.out | with_reducible refine Below.drew ?_ | with_reducible refine bl_drewN ?_ _ | with_reducible refine bl_alloc ?_ _) : Below w0.heap.size w0 _)).more (Below.size (by repeat (first | with_reducible exact HDt1.out | with_reducible refine Below.drew ?_ | with_reducible refine bl_drewN ?_ _ | with_reducible refine bl_alloc ?_ _) : Below w0.heap.size w0 _))) hn false HPL.out).mono ?_
      rintro e w2 ⟨rfl, hb⟩
      have hs2 := hb.size
      have HB2 := Lib.hid (show Below w0.heap.size w0 w2 from bl_trans (by repeat (first | with_reducible exact HB1.out | with_reducible refine bl_drewN ?_ _ | with_reducible refine Below.drew ?_ | with_reducible refine bl_alloc ?_ _)) hb)
      have br2 := Lib.hid (show Blk w2 (w0.heap.size) 87 #[.int .i64 0, .int .i64 0] from Blk.below (by repeat (first | with_reducible exact br1.out | with_reducible refine Blk.drewN ?_ _ | with_reducible refine Blk.drew ?_ | with_reducible refine Blk.alloc ?_ _)) hb (by have := br1.out.lt; first | omega | (simp; omega)))
      have HDt2 := Lib.hid (show Below w0.heap.size w0 w2 from bl_trans (by repeat (first | with_reducible exact HDt1.out | with_reducible refine Below.drew ?_ | with_reducible refine bl_drewN ?_ _ | with_reducible refine bl_alloc ?_ _)) hb)
      clear hb HB1 br1 cr HDt1
      have cr := br2.out.cell
      go_wp2_with fail
      (try (go_quiet (fail); go_wp2_with fail))
      refine (sLow_is _ A n c ts false ((HTt.out.below (by repeat (first | with_reducible exact HDt2.out | with_reducible refine Below.drew ?_ | with_reducible refine bl_drewN ?_ _ | with_reducible refine bl_alloc ?_ _) : Below w0.heap.size w0 _)).more (Below.size (by repeat (first | with_reducible exact HDt2.out | with_reducible refine Below.drew ?_ | with_reducible refine bl_drewN ?_ _ | with_reducible refine bl_alloc ?_ _) : Below w0.heap.size w0 _))) (by omega) p q HP.out).mono ?_
      rintro e w3 ⟨rfl, hb⟩
      have hs3 := hb.size
      have HB3 := Lib.hid (show Below w0.heap.size w0 w3 from bl_trans (by repeat (first | with_reducible exact HB2.out | with_reducible refine bl_drewN ?_ _ | with_reducible refine Below.drew ?_ | with_reducible refine bl_alloc ?_ _)) hb)
      have br3 := Lib.hid (show Blk w3 (w0.heap.size) 87 #[.int .i64 0, .int .i64 0] from Blk.below (by repeat (first | with_reducible exact br2.out | with_reducible refine Blk.drewN ?_ _ | with_reducible refine Blk.drew ?_ | with_reducible refine Blk.alloc ?_ _)) hb (by have := br2.out.lt; first | omega | (simp; omega)))
      have HDt3 := Lib.hid (show Below w0.heap.size w0 w3 from bl_trans (by repeat (first | with_reducible exact HDt2.out | with_reducible refine Below.drew ?_ | with_reducible refine bl_drewN ?_ _ | with_reducible refine bl_alloc ?_ _)) hb)
      clear hb HB2 br2 cr HDt2
      have cr := fun o0 => (br3.out.alloc o0).cell
      go_wp2_with fail
      (try (go_quiet (fail); go_wp2_with fail))
      refine (sLow_is _ A n c ts true ((HTt.out.below (by repeat (first | with_reducible exact HDt3.out | with_reducible refine Below.drew ?_ | with_reducible refine bl_drewN ?_ _ | with_reducible refine bl_alloc ?_ _) : Below w0.heap.size w0 _)).more (Below.size (by repeat (first | with_reducible exact HDt3.out | with_reducible refine Below.drew ?_ | with_reducible refine bl_drewN ?_ _ | with_reducible refine bl_alloc ?_ _) : Below w0.heap.size w0 _))) (by omega) u v HU.out).mono ?_
      rintro e w4 ⟨rfl, hb⟩
      have hs4 := hb.size
      have HB4 := Lib.hid (show Below w0.heap.size w0 w4 from bl_trans (by repeat (first | with_reducible exact HB3.out | with_reducible refine bl_drewN ?_ _ | with_reducible refine Below.drew ?_ | with_reducible refine bl_alloc ?_ _)) hb)
      have br4 := Lib.hid (show Blk w4 (w0.heap.size) 87 #[.int .i64 0, .int .i64 0] from Blk.below (by repeat (first | with_reducible exact br3.out | with_reducible refine Blk.drewN ?_ _ | with_reducible refine Blk.drew ?_ | with_reducible refine Blk.alloc ?_ _)) hb (by have := br3.out.lt; first | omega | (simp; omega)))
      have ba4 := Lib.hid (show Blk w4 (w3.heap.size) 87 #[.int .i64 (p : Int), .int .i64 (q : Int)] from Blk.below (by have hh := Blk.new w3 87 #[.int .i64 (p : Int), .int .i64 (q : Int)]; (try simp only [World.size_alloc] at hh); repeat (first | exact hh | with_reducible refine Blk.drewN ?_ _ | with_reducible refine Blk.drew ?_ | with_reducible refine Blk.alloc ?_ _)) hb (by first | omega | (simp; done) | (simp; omega)))
      have HDt4 := Lib.hid (show Below w0.heap.size w0 w4 from bl_trans (by repeat (first | with_reducible exact HDt3.out | with_reducible refine Below.drew ?_ | with_reducible refine bl_drewN ?_ _ | with_reducible refine bl_alloc ?_ _)) hb)
      clear hb HB3 br3 cr HDt3
      have cr := fun o0 => (br4.out.alloc o0).cell
      have ca := fun o0 => (ba4.out.alloc o0).cell
      go_wp2_with fail
      (try (go_quiet (fail); go_wp2_with fail))
      refine (l2_is _ p q u v x y true HA.out.1 HA.out.2.1 HA.out.2.2.1 HA.out.2.2.2).mono ?_
      rintro e w5 ⟨rfl, hb⟩
      have hs5 := hb.size
      have HB5 := Lib.hid (show Below w0.heap.size w0 w5 from bl_trans (by repeat (first | with_reducible exact HB4.out | with_reducible refine bl_drewN ?_ _ | with_reducible refine Below.drew ?_ | with_reducible refine bl_alloc ?_ _)) hb)
      have br5 := Lib.hid (show Blk w5 (w0.heap.size) 87 #[.int .i64 0, .int .i64 0] from Blk.below (by repeat (first | with_reducible exact br4.out | with_reducible refine Blk.drewN ?_ _ | with_reducible refine Blk.drew ?_ | with_reducible refine Blk.alloc ?_ _)) hb (by have := br4.out.lt; first | omega | (simp; omega)))
      have ba5 := Lib.hid (show Blk w5 (w3.heap.size) 87 #[.int .i64 (p : Int), .int .i64 (q : Int)] from Blk.below (by repeat (first | with_reducible exact ba4.out | with_reducible refine Blk.drewN ?_ _ | with_reducible refine Blk.drew ?_ | with_reducible refine Blk.alloc ?_ _)) hb (by have := ba4.out.lt; first | omega | (simp; omega)))
      have bb5 := Lib.hid (show Blk w5 (w4.heap.size) 87 #[.int .i64 (u : Int), .int .i64 (v : Int)] from Blk.below (by have hh := Blk.new w4 87 #[.int .i64 (u : Int), .int .i64 (v : Int)]; (try simp only [World.size_alloc] at hh); repeat (first | exact hh | with_reducible refine Blk.drewN ?_ _ | with_reducible refine Blk.drew ?_ | with_reducible refine Blk.alloc ?_ _)) hb (by first | omega | (simp; done) | (simp; omega)))
      have HDt5 := Lib.hid (show Below w0.heap.size w0 w5 from bl_trans (by repeat (first | with_reducible exact HDt4.out | with_reducible refine Below.drew ?_ | with_reducible refine bl_drewN ?_ _ | with_reducible refine bl_alloc ?_ _)) hb)
      clear hb HB4 br4 ba4 cr ca HDt4
      have cr := fun o0 => (br5.out.alloc o0).cell
      have ca := fun o0 => (ba5.out.alloc o0).cell
      have cb := fun o0 => (bb5.out.alloc o0).cell
      have hS5 := And.intro (Blk.two (show Blk (w5.alloc (.cells #[.int .i64 (x : Int), .int .i64 (y : Int)] 87)) (w5.heap.size) 87 #[.int .i64 (x : Int), .int .i64 (y : Int)] from by have hh := Blk.new w5 87 #[.int .i64 (x : Int), .int .i64 (y : Int)]; (try simp only [World.size_alloc] at hh); repeat (first | exact hh | with_reducible refine Blk.alloc ?_ _))) (Blk.two (show Blk (w5.alloc (.cells #[.int .i64 (x : Int), .int .i64 (y : Int)] 87)) (w3.heap.size) 87 #[.int .i64 (p : Int), .int .i64 (q : Int)] from by repeat (first | with_reducible exact ba5.out | with_reducible refine Blk.alloc ?_ _)))
      go_wp2_with fail
      first
      | (go_region_held3 (fun W => (W.cell? ⟨w5.heap.size, 0, none⟩ = some (.int .i64 (x : Int)) ∧ W.cell? ⟨w5.heap.size, 1, none⟩ = some (.int .i64 (y : Int))) ∧ (W.cell? ⟨w3.heap.size, 0, none⟩ = some (.int .i64 (p : Int)) ∧ W.cell? ⟨w3.heap.size, 1, none⟩ = some (.int .i64 (q : Int)))) (first | exact hS5 | exact hS6 | exact hS7 | exact hS8 | exact hS9)
        ((first
          | (have uu := HB5; clear uu; go_at_call 97; refine (sOne_is _).mono ?_; rintro e w6 ⟨rfl, hb⟩; have hs6 := hb.size; have HB6 := Lib.hid (show Below w0.heap.size w0 w6 from bl_trans (by repeat (first | with_reducible exact HB5.out | with_reducible refine bl_drewN ?_ _ | with_reducible refine Below.drew ?_ | with_reducible refine bl_alloc ?_ _)) hb); have br6 := Lib.hid (show Blk w6 (w0.heap.size) 87 #[.int .i64 0, .int .i64 0] from Blk.below (by repeat (first | with_reducible exact br5.out | with_reducible refine Blk.drewN ?_ _ | with_reducible refine Blk.drew ?_ | with_reducible refine Blk.alloc ?_ _)) hb (by have := br5.out.lt; first | exact this | omega | (simp; omega))); have cr := br6.out.cell; have ba6 := Lib.hid (show Blk w6 (w3.heap.size) 87 #[.int .i64 (p : Int), .int .i64 (q : Int)] from Blk.below (by repeat (first | with_reducible exact ba5.out | with_reducible refine Blk.drewN ?_ _ | with_reducible refine Blk.drew ?_ | with_reducible refine Blk.alloc ?_ _)) hb (by have := ba5.out.lt; first | exact this | omega | (simp; omega))); have ca := ba6.out.cell; have bb6 := Lib.hid (show Blk w6 (w4.heap.size) 87 #[.int .i64 (u : Int), .int .i64 (v : Int)] from Blk.below (by repeat (first | with_reducible exact bb5.out | with_reducible refine Blk.drewN ?_ _ | with_reducible refine Blk.drew ?_ | with_reducible refine Blk.alloc ?_ _)) hb (by have := bb5.out.lt; first | exact this | omega | (simp; omega))); have cb := bb6.out.cell; have bs6 := Lib.hid (show Blk w6 (w5.heap.size) 87 #[.int .i64 (x : Int), .int .i64 (y : Int)] from Blk.below (by have hh := Blk.new w5 87 #[.int .i64 (x : Int), .int .i64 (y : Int)]; (try simp only [World.size_alloc] at hh); repeat (first | exact hh | with_reducible refine Blk.drewN ?_ _ | with_reducible refine Blk.drew ?_ | with_reducible refine Blk.alloc ?_ _)) hb (by first | omega | (simp; done) | (simp; omega))); have cs := bs6.out.cell; have HDt6 := Lib.hid (show Below w0.heap.size w0 w6 from bl_trans (by repeat (first | with_reducible exact HDt5.out | with_reducible refine Below.drew ?_ | with_reducible refine bl_drewN ?_ _ | with_reducible refine bl_alloc ?_ _)) hb); have hS6 := And.intro (Blk.two bs6.out) (Blk.two ba6.out); clear hb HB5)
          | (have uu := HB6; clear uu; go_at_call 123; refine (sCmp_is _ x y 1 1 z HZ.out).mono ?_; rintro e w7 ⟨rfl, hb⟩; have hs7 := hb.size; have HB7 := Lib.hid (show Below w0.heap.size w0 w7 from bl_trans (by repeat (first | with_reducible exact HB6.out | with_reducible refine bl_drewN ?_ _ | with_reducible refine Below.drew ?_ | with_reducible refine bl_alloc ?_ _)) hb); have br7 := Lib.hid (show Blk w7 (w0.heap.size) 87 #[.int .i64 0, .int .i64 0] from Blk.below (by repeat (first | with_reducible exact br6.out | with_reducible refine Blk.drewN ?_ _ | with_reducible refine Blk.drew ?_ | with_reducible refine Blk.alloc ?_ _)) hb (by have := br6.out.lt; first | exact this | omega | (simp; omega))); have cr := br7.out.cell; have ba7 := Lib.hid (show Blk w7 (w3.heap.size) 87 #[.int .i64 (p : Int), .int .i64 (q : Int)] from Blk.below (by repeat (first | with_reducible exact ba6.out | with_reducible refine Blk.drewN ?_ _ | with_reducible refine Blk.drew ?_ | with_reducible refine Blk.alloc ?_ _)) hb (by have := ba6.out.lt; first | exact this | omega | (simp; omega))); have ca := ba7.out.cell; have bb7 := Lib.hid (show Blk w7 (w4.heap.size) 87 #[.int .i64 (u : Int), .int .i64 (v : Int)] from Blk.below (by repeat (first | with_reducible exact bb6.out | with_reducible refine Blk.drewN ?_ _ | with_reducible refine Blk.drew ?_ | with_reducible refine Blk.alloc ?_ _)) hb (by have := bb6.out.lt; first | exact this | omega | (simp; omega))); have cb := bb7.out.cell; have bs7 := Lib.hid (show Blk w7 (w5.heap.size) 87 #[.int .i64 (x : Int), .int .i64 (y : Int)] from Blk.below (by repeat (first | with_reducible exact bs6.out | with_reducible refine Blk.drewN ?_ _ | with_reducible refine Blk.drew ?_ | with_reducible refine Blk.alloc ?_ _)) hb (by have := bs6.out.lt; first | exact this | omega | (simp; omega))); have cs := bs7.out.cell; have HDt7 := Lib.hid (show Below w0.heap.size w0 w7 from bl_trans (by repeat (first | with_reducible exact HDt6.out | with_reducible refine Below.drew ?_ | with_reducible refine bl_drewN ?_ _ | with_reducible refine bl_alloc ?_ _)) hb); have hS7 := And.intro (Blk.two bs7.out) (Blk.two ba7.out); clear hb HB6)
          | (have uu := HB7; clear uu; go_at_call 97; refine (sOne_is _).mono ?_; rintro e w8 ⟨rfl, hb⟩; have hs8 := hb.size; have HB8 := Lib.hid (show Below w0.heap.size w0 w8 from bl_trans (by repeat (first | with_reducible exact HB7.out | with_reducible refine bl_drewN ?_ _ | with_reducible refine Below.drew ?_ | with_reducible refine bl_alloc ?_ _)) hb); have br8 := Lib.hid (show Blk w8 (w0.heap.size) 87 #[.int .i64 0, .int .i64 0] from Blk.below (by repeat (first | with_reducible exact br7.out | with_reducible refine Blk.drewN ?_ _ | with_reducible refine Blk.drew ?_ | with_reducible refine Blk.alloc ?_ _)) hb (by have := br7.out.lt; first | exact this | omega | (simp; omega))); have cr := br8.out.cell; have ba8 := Lib.hid (show Blk w8 (w3.heap.size) 87 #[.int .i64 (p : Int), .int .i64 (q : Int)] from Blk.below (by repeat (first | with_reducible exact ba7.out | with_reducible refine Blk.drewN ?_ _ | with_reducible refine Blk.drew ?_ | with_reducible refine Blk.alloc ?_ _)) hb (by have := ba7.out.lt; first | exact this | omega | (simp; omega))); have ca := ba8.out.cell; have bb8 := Lib.hid (show Blk w8 (w4.heap.size) 87 #[.int .i64 (u : Int), .int .i64 (v : Int)] from Blk.below (by repeat (first | with_reducible exact bb7.out | with_reducible refine Blk.drewN ?_ _ | with_reducible refine Blk.drew ?_ | with_reducible refine Blk.alloc ?_ _)) hb (by have := bb7.out.lt; first | exact this | omega | (simp; omega))); have cb := bb8.out.cell; have bs8 := Lib.hid (show Blk w8 (w5.heap.size) 87 #[.int .i64 (x : Int), .int .i64 (y : Int)] from Blk.below (by repeat (first | with_reducible exact bs7.out | with_reducible refine Blk.drewN ?_ _ | with_reducible refine Blk.drew ?_ | with_reducible refine Blk.alloc ?_ _)) hb (by have := bs7.out.lt; first | exact this | omega | (simp; omega))); have cs := bs8.out.cell; have HDt8 := Lib.hid (show Below w0.heap.size w0 w8 from bl_trans (by repeat (first | with_reducible exact HDt7.out | with_reducible refine Below.drew ?_ | with_reducible refine bl_drewN ?_ _ | with_reducible refine bl_alloc ?_ _)) hb); have hS8 := And.intro (Blk.two bs8.out) (Blk.two ba8.out); clear hb HB7)
          | (have uu := HB8; clear uu; go_at_call 123; refine (sCmp_is _ p q 1 1 z2 HZ2.out).mono ?_; rintro e w9 ⟨rfl, hb⟩; have hs9 := hb.size; have HB9 := Lib.hid (show Below w0.heap.size w0 w9 from bl_trans (by repeat (first | with_reducible exact HB8.out | with_reducible refine bl_drewN ?_ _ | with_reducible refine Below.drew ?_ | with_reducible refine bl_alloc ?_ _)) hb); have br9 := Lib.hid (show Blk w9 (w0.heap.size) 87 #[.int .i64 0, .int .i64 0] from Blk.below (by repeat (first | with_reducible exact br8.out | with_reducible refine Blk.drewN ?_ _ | with_reducible refine Blk.drew ?_ | with_reducible refine Blk.alloc ?_ _)) hb (by have := br8.out.lt; first | exact this | omega | (simp; omega))); have cr := br9.out.cell; have ba9 := Lib.hid (show Blk w9 (w3.heap.size) 87 #[.int .i64 (p : Int), .int .i64 (q : Int)] from Blk.below (by repeat (first | with_reducible exact ba8.out | with_reducible refine Blk.drewN ?_ _ | with_reducible refine Blk.drew ?_ | with_reducible refine Blk.alloc ?_ _)) hb (by have := ba8.out.lt; first | exact this | omega | (simp; omega))); have ca := ba9.out.cell; have bb9 := Lib.hid (show Blk w9 (w4.heap.size) 87 #[.int .i64 (u : Int), .int .i64 (v : Int)] from Blk.below (by repeat (first | with_reducible exact bb8.out | with_reducible refine Blk.drewN ?_ _ | with_reducible refine Blk.drew ?_ | with_reducible refine Blk.alloc ?_ _)) hb (by have := bb8.out.lt; first | exact this | omega | (simp; omega))); have cb := bb9.out.cell; have bs9 := Lib.hid (show Blk w9 (w5.heap.size) 87 #[.int .i64 (x : Int), .int .i64 (y : Int)] from Blk.below (by repeat (first | with_reducible exact bs8.out | with_reducible refine Blk.drewN ?_ _ | with_reducible refine Blk.drew ?_ | with_reducible refine Blk.alloc ?_ _)) hb (by have := bs8.out.lt; first | exact this | omega | (simp; omega))); have cs := bs9.out.cell; have HDt9 := Lib.hid (show Below w0.heap.size w0 w9 from bl_trans (by repeat (first | with_reducible exact HDt8.out | with_reducible refine Below.drew ?_ | with_reducible refine bl_drewN ?_ _ | with_reducible refine bl_alloc ?_ _)) hb); have hS9 := And.intro (Blk.two bs9.out) (Blk.two ba9.out); clear hb HB8))))
      | fail "no region"
      have hkr9 := br9.out.lt
      have hka9 := ba9.out.lt
      have hkb9 := bb9.out.lt
      have hks9 := bs9.out.lt
      have cr := br9.out.cell
      have ca := ba9.out.cell
      have cb := bb9.out.cell
      have cs := bs9.out.cell
      have fR := br9.out.frozen
      have cR := br9.out.cell
      have cF := fun (s t : Value) => ((br9.out.set_ 0 s).set_ 1 t).cell
      go_wp2
      (try (go_quiet (fail); go_wp2))
      refine bodyPost_ret (v := .tuple #[.agg #[.int .i64 0, .int .i64 0], .bool false]) (by simp [results, Tryz.results98, go_sem, cF]) rfl ⟨rfl, (by repeat (first | with_reducible exact HB9.out | refine bl_drewN ?_ _ | refine Below.drew ?_ | refine bl_alloc ?_ _ | refine bl_set ?_ (by dsimp only; omega) _))⟩
    · have d1 : decide (0 < z) = true := by simp; omega
      have d3 : decide (z > 0) = true := by simp; omega
      clear hfn hfb
      go_enter Tryz.func98, Tryz.ntmps98
      go_wp2_with fail
      (try (go_quiet (fail); go_wp2_with fail))
      refine (sImp_is _ A n c ts ((HTt.out.below (by repeat (first | with_reducible exact HDt0.out | with_reducible refine Below.drew ?_ | with_reducible refine bl_drewN ?_ _ | with_reducible refine bl_alloc ?_ _) : Below w0.heap.size w0 _)).more (Below.size (by repeat (first | with_reducible exact HDt0.out | with_reducible refine Below.drew ?_ | with_reducible refine bl_drewN ?_ _ | with_reducible refine bl_alloc ?_ _) : Below w0.heap.size w0 _))) hn true HI.out).mono ?_
      rintro e w1 ⟨rfl, hb⟩
      have hs1 := hb.size
      have HB1 := Lib.hid (show Below w0.heap.size w0 w1 from bl_trans (by repeat (first | with_reducible exact HB0.out | with_reducible refine bl_drewN ?_ _ | with_reducible refine Below.drew ?_ | with_reducible refine bl_alloc ?_ _)) hb)
      have br1 := Lib.hid (show Blk w1 (w0.heap.size) 87 #[.int .i64 0, .int .i64 0] from Blk.below (by have hh := Blk.new w0 87 #[.int .i64 0, .int .i64 0]; (try simp only [World.size_alloc] at hh); repeat (first | exact hh | with_reducible refine Blk.drewN ?_ _ | with_reducible refine Blk.drew ?_ | with_reducible refine Blk.alloc ?_ _)) hb (by first | omega | (simp; done) | (simp; omega)))
      have HDt1 := Lib.hid (show Below w0.heap.size w0 w1 from bl_trans (by repeat (first | with_reducible exact HDt0.out | with_reducible refine Below.drew ?_ | with_reducible refine bl_drewN ?_ _ | with_reducible refine bl_alloc ?_ _)) hb)
      clear hb HB0 HDt0
      have cr := br1.out.cell
      go_wp2_with fail
      (try (go_quiet (fail); go_wp2_with fail))
      refine (sPlain_is _ A n c ts ((HTt.out.below (by repeat (first | with_reducible exact HDt1.out | with_reducible refine Below.drew ?_ | with_reducible refine bl_drewN ?_ _ | with_reducible refine bl_alloc ?_ _) : Below w0.heap.size w0 _)).more (Below.size (by repeat (first | with_reducible exact HDt1.out | with_reducible refine Below.drew ?_ | with_reducible refine bl_drewN ?_ _ | with_reducible refine bl_alloc ?_ _) : Below w0.heap.size w0 _))) hn false HPL.out).mono ?_
      rintro e w2 ⟨rfl, hb⟩
      have hs2 := hb.size
      have HB2 := Lib.hid (show Below w0.heap.size w0 w2 from bl_trans (by repeat (first | with_reducible exact HB1.out | with_reducible refine bl_drewN ?_ _ | with_reducible refine Below.drew ?_ | with_reducible refine bl_alloc ?_ _)) hb)
      have br2 := Lib.hid (show Blk w2 (w0.heap.size) 87 #[.int .i64 0, .int .i64 0] from Blk.below (by repeat (first | with_reducible exact br1.out | with_reducible refine Blk.drewN ?_ _ | with_reducible refine Blk.drew ?_ | with_reducible refine Blk.alloc ?_ _)) hb (by have := br1.out.lt; first | omega | (simp; omega)))
      have HDt2 := Lib.hid (show Below w0.heap.size w0 w2 from bl_trans (by repeat (first | with_reducible exact HDt1.out | with_reducible refine Below.drew ?_ | with_reducible refine bl_drewN ?_ _ | with_reducible refine bl_alloc ?_ _)) hb)
      clear hb HB1 br1 cr HDt1
      have cr := br2.out.cell
      go_wp2_with fail
      (try (go_quiet (fail); go_wp2_with fail))
      refine (sLow_is _ A n c ts false ((HTt.out.below (by repeat (first | with_reducible exact HDt2.out | with_reducible refine Below.drew ?_ | with_reducible refine bl_drewN ?_ _ | with_reducible refine bl_alloc ?_ _) : Below w0.heap.size w0 _)).more (Below.size (by repeat (first | with_reducible exact HDt2.out | with_reducible refine Below.drew ?_ | with_reducible refine bl_drewN ?_ _ | with_reducible refine bl_alloc ?_ _) : Below w0.heap.size w0 _))) (by omega) p q HP.out).mono ?_
      rintro e w3 ⟨rfl, hb⟩
      have hs3 := hb.size
      have HB3 := Lib.hid (show Below w0.heap.size w0 w3 from bl_trans (by repeat (first | with_reducible exact HB2.out | with_reducible refine bl_drewN ?_ _ | with_reducible refine Below.drew ?_ | with_reducible refine bl_alloc ?_ _)) hb)
      have br3 := Lib.hid (show Blk w3 (w0.heap.size) 87 #[.int .i64 0, .int .i64 0] from Blk.below (by repeat (first | with_reducible exact br2.out | with_reducible refine Blk.drewN ?_ _ | with_reducible refine Blk.drew ?_ | with_reducible refine Blk.alloc ?_ _)) hb (by have := br2.out.lt; first | omega | (simp; omega)))
      have HDt3 := Lib.hid (show Below w0.heap.size w0 w3 from bl_trans (by repeat (first | with_reducible exact HDt2.out | with_reducible refine Below.drew ?_ | with_reducible refine bl_drewN ?_ _ | with_reducible refine bl_alloc ?_ _)) hb)
      clear hb HB2 br2 cr HDt2
      have cr := fun o0 => (br3.out.alloc o0).cell
      go_wp2_with fail
      (try (go_quiet (fail); go_wp2_with fail))
      refine (sLow_is _ A n c ts true ((HTt.out.below (by repeat (first | with_reducible exact HDt3.out | with_reducible refine Below.drew ?_ | with_reducible refine bl_drewN ?_ _ | with_reducible refine bl_alloc ?_ _) : Below w0.heap.size w0 _)).more (Below.size (by repeat (first | with_reducible exact HDt3.out | with_reducible refine Below.drew ?_ | with_reducible refine bl_drewN ?_ _ | with_reducible refine bl_alloc ?_ _) : Below w0.heap.size w0 _))) (by omega) u v HU.out).mono ?_
      rintro e w4 ⟨rfl, hb⟩
      have hs4 := hb.size
      have HB4 := Lib.hid (show Below w0.heap.size w0 w4 from bl_trans (by repeat (first | with_reducible exact HB3.out | with_reducible refine bl_drewN ?_ _ | with_reducible refine Below.drew ?_ | with_reducible refine bl_alloc ?_ _)) hb)
      have br4 := Lib.hid (show Blk w4 (w0.heap.size) 87 #[.int .i64 0, .int .i64 0] from Blk.below (by repeat (first | with_reducible exact br3.out | with_reducible refine Blk.drewN ?_ _ | with_reducible refine Blk.drew ?_ | with_reducible refine Blk.alloc ?_ _)) hb (by have := br3.out.lt; first | omega | (simp; omega)))
      have ba4 := Lib.hid (show Blk w4 (w3.heap.size) 87 #[.int .i64 (p : Int), .int .i64 (q : Int)] from Blk.below (by have hh := Blk.new w3 87 #[.int .i64 (p : Int), .int .i64 (q : Int)]; (try simp only [World.size_alloc] at hh); repeat (first | exact hh | with_reducible refine Blk.drewN ?_ _ | with_reducible refine Blk.drew ?_ | with_reducible refine Blk.alloc ?_ _)) hb (by first | omega | (simp; done) | (simp; omega)))
      have HDt4 := Lib.hid (show Below w0.heap.size w0 w4 from bl_trans (by repeat (first | with_reducible exact HDt3.out | with_reducible refine Below.drew ?_ | with_reducible refine bl_drewN ?_ _ | with_reducible refine bl_alloc ?_ _)) hb)
      clear hb HB3 br3 cr HDt3
      have cr := fun o0 => (br4.out.alloc o0).cell
      have ca := fun o0 => (ba4.out.alloc o0).cell
      go_wp2_with fail
      (try (go_quiet (fail); go_wp2_with fail))
      refine (l2_is _ p q u v x y true HA.out.1 HA.out.2.1 HA.out.2.2.1 HA.out.2.2.2).mono ?_
      rintro e w5 ⟨rfl, hb⟩
      have hs5 := hb.size
      have HB5 := Lib.hid (show Below w0.heap.size w0 w5 from bl_trans (by repeat (first | with_reducible exact HB4.out | with_reducible refine bl_drewN ?_ _ | with_reducible refine Below.drew ?_ | with_reducible refine bl_alloc ?_ _)) hb)
      have br5 := Lib.hid (show Blk w5 (w0.heap.size) 87 #[.int .i64 0, .int .i64 0] from Blk.below (by repeat (first | with_reducible exact br4.out | with_reducible refine Blk.drewN ?_ _ | with_reducible refine Blk.drew ?_ | with_reducible refine Blk.alloc ?_ _)) hb (by have := br4.out.lt; first | omega | (simp; omega)))
      have ba5 := Lib.hid (show Blk w5 (w3.heap.size) 87 #[.int .i64 (p : Int), .int .i64 (q : Int)] from Blk.below (by repeat (first | with_reducible exact ba4.out | with_reducible refine Blk.drewN ?_ _ | with_reducible refine Blk.drew ?_ | with_reducible refine Blk.alloc ?_ _)) hb (by have := ba4.out.lt; first | omega | (simp; omega)))
      have bb5 := Lib.hid (show Blk w5 (w4.heap.size) 87 #[.int .i64 (u : Int), .int .i64 (v : Int)] from Blk.below (by have hh := Blk.new w4 87 #[.int .i64 (u : Int), .int .i64 (v : Int)]; (try simp only [World.size_alloc] at hh); repeat (first | exact hh | with_reducible refine Blk.drewN ?_ _ | with_reducible refine Blk.drew ?_ | with_reducible refine Blk.alloc ?_ _)) hb (by first | omega | (simp; done) | (simp; omega)))
      have HDt5 := Lib.hid (show Below w0.heap.size w0 w5 from bl_trans (by repeat (first | with_reducible exact HDt4.out | with_reducible refine Below.drew ?_ | with_reducible refine bl_drewN ?_ _ | with_reducible refine bl_alloc ?_ _)) hb)
      clear hb HB4 br4 ba4 cr ca HDt4
      have cr := fun o0 => (br5.out.alloc o0).cell
      have ca := fun o0 => (ba5.out.alloc o0).cell
      have cb := fun o0 => (bb5.out.alloc o0).cell
      have hS5 := And.intro (Blk.two (show Blk (w5.alloc (.cells #[.int .i64 (x : Int), .int .i64 (y : Int)] 87)) (w5.heap.size) 87 #[.int .i64 (x : Int), .int .i64 (y : Int)] from by have hh := Blk.new w5 87 #[.int .i64 (x : Int), .int .i64 (y : Int)]; (try simp only [World.size_alloc] at hh); repeat (first | exact hh | with_reducible refine Blk.alloc ?_ _))) (Blk.two (show Blk (w5.alloc (.cells #[.int .i64 (x : Int), .int .i64 (y : Int)] 87)) (w3.heap.size) 87 #[.int .i64 (p : Int), .int .i64 (q : Int)] from by repeat (first | with_reducible exact ba5.out | with_reducible refine Blk.alloc ?_ _)))
      go_wp2_with fail
      go_region_with (first
          | (have uu := HB5; clear uu; go_at_call 97; refine (sOne_is _).mono ?_; rintro e w6 ⟨rfl, hb⟩; have hs6 := hb.size; have HB6 := Lib.hid (show Below w0.heap.size w0 w6 from bl_trans (by repeat (first | with_reducible exact HB5.out | with_reducible refine bl_drewN ?_ _ | with_reducible refine Below.drew ?_ | with_reducible refine bl_alloc ?_ _)) hb); have br6 := Lib.hid (show Blk w6 (w0.heap.size) 87 #[.int .i64 0, .int .i64 0] from Blk.below (by repeat (first | with_reducible exact br5.out | with_reducible refine Blk.drewN ?_ _ | with_reducible refine Blk.drew ?_ | with_reducible refine Blk.alloc ?_ _)) hb (by have := br5.out.lt; first | exact this | omega | (simp; omega))); have cr := br6.out.cell; have ba6 := Lib.hid (show Blk w6 (w3.heap.size) 87 #[.int .i64 (p : Int), .int .i64 (q : Int)] from Blk.below (by repeat (first | with_reducible exact ba5.out | with_reducible refine Blk.drewN ?_ _ | with_reducible refine Blk.drew ?_ | with_reducible refine Blk.alloc ?_ _)) hb (by have := ba5.out.lt; first | exact this | omega | (simp; omega))); have ca := ba6.out.cell; have bb6 := Lib.hid (show Blk w6 (w4.heap.size) 87 #[.int .i64 (u : Int), .int .i64 (v : Int)] from Blk.below (by repeat (first | with_reducible exact bb5.out | with_reducible refine Blk.drewN ?_ _ | with_reducible refine Blk.drew ?_ | with_reducible refine Blk.alloc ?_ _)) hb (by have := bb5.out.lt; first | exact this | omega | (simp; omega))); have cb := bb6.out.cell; have bs6 := Lib.hid (show Blk w6 (w5.heap.size) 87 #[.int .i64 (x : Int), .int .i64 (y : Int)] from Blk.below (by have hh := Blk.new w5 87 #[.int .i64 (x : Int), .int .i64 (y : Int)]; (try simp only [World.size_alloc] at hh); repeat (first | exact hh | with_reducible refine Blk.drewN ?_ _ | with_reducible refine Blk.drew ?_ | with_reducible refine Blk.alloc ?_ _)) hb (by first | omega | (simp; done) | (simp; omega))); have cs := bs6.out.cell; have HDt6 := Lib.hid (show Below w0.heap.size w0 w6 from bl_trans (by repeat (first | with_reducible exact HDt5.out | with_reducible refine Below.drew ?_ | with_reducible refine bl_drewN ?_ _ | with_reducible refine bl_alloc ?_ _)) hb); have hS6 := And.intro (Blk.two bs6.out) (Blk.two ba6.out); clear hb HB5)
          | (have uu := HB6; clear uu; go_at_call 123; refine (sCmp_is _ x y 1 1 z HZ.out).mono ?_; rintro e w7 ⟨rfl, hb⟩; have hs7 := hb.size; have HB7 := Lib.hid (show Below w0.heap.size w0 w7 from bl_trans (by repeat (first | with_reducible exact HB6.out | with_reducible refine bl_drewN ?_ _ | with_reducible refine Below.drew ?_ | with_reducible refine bl_alloc ?_ _)) hb); have br7 := Lib.hid (show Blk w7 (w0.heap.size) 87 #[.int .i64 0, .int .i64 0] from Blk.below (by repeat (first | with_reducible exact br6.out | with_reducible refine Blk.drewN ?_ _ | with_reducible refine Blk.drew ?_ | with_reducible refine Blk.alloc ?_ _)) hb (by have := br6.out.lt; first | exact this | omega | (simp; omega))); have cr := br7.out.cell; have ba7 := Lib.hid (show Blk w7 (w3.heap.size) 87 #[.int .i64 (p : Int), .int .i64 (q : Int)] from Blk.below (by repeat (first | with_reducible exact ba6.out | with_reducible refine Blk.drewN ?_ _ | with_reducible refine Blk.drew ?_ | with_reducible refine Blk.alloc ?_ _)) hb (by have := ba6.out.lt; first | exact this | omega | (simp; omega))); have ca := ba7.out.cell; have bb7 := Lib.hid (show Blk w7 (w4.heap.size) 87 #[.int .i64 (u : Int), .int .i64 (v : Int)] from Blk.below (by repeat (first | with_reducible exact bb6.out | with_reducible refine Blk.drewN ?_ _ | with_reducible refine Blk.drew ?_ | with_reducible refine Blk.alloc ?_ _)) hb (by have := bb6.out.lt; first | exact this | omega | (simp; omega))); have cb := bb7.out.cell; have bs7 := Lib.hid (show Blk w7 (w5.heap.size) 87 #[.int .i64 (x : Int), .int .i64 (y : Int)] from Blk.below (by repeat (first | with_reducible exact bs6.out | with_reducible refine Blk.drewN ?_ _ | with_reducible refine Blk.drew ?_ | with_reducible refine Blk.alloc ?_ _)) hb (by have := bs6.out.lt; first | exact this | omega | (simp; omega))); have cs := bs7.out.cell; have HDt7 := Lib.hid (show Below w0.heap.size w0 w7 from bl_trans (by repeat (first | with_reducible exact HDt6.out | with_reducible refine Below.drew ?_ | with_reducible refine bl_drewN ?_ _ | with_reducible refine bl_alloc ?_ _)) hb); have hS7 := And.intro (Blk.two bs7.out) (Blk.two ba7.out); clear hb HB6))
      have hkr7 := br7.out.lt
      have hka7 := ba7.out.lt
      have hkb7 := bb7.out.lt
      have hks7 := bs7.out.lt
      all_goals
        (skip
         have cr := br7.out.cell
         have ca := ba7.out.cell
         have cb := bb7.out.cell
         have cs := bs7.out.cell
         have fR := br7.out.frozen
         have cR := br7.out.cell
         have cF := fun (s t : Value) => ((br7.out.set_ 0 s).set_ 1 t).cell
         go_wp2
         (try (go_quiet (fail); go_wp2))
         refine bodyPost_ret (v := .tuple #[.agg #[.int .i64 0, .int .i64 0], .bool false]) (by simp [results, Tryz.results98, go_sem, cF]) rfl ⟨rfl, (by repeat (first | with_reducible exact HB7.out | refine bl_drewN ?_ _ | refine Below.drew ?_ | refine bl_alloc ?_ _ | refine bl_set ?_ (by dsimp only; omega) _))⟩)
  · have HI := Lib.hid hi
    have HPL := Lib.hid hp
    rw [facV_plain hp] at hX
    obtain ⟨rfl, rfl⟩ := Prod.mk.inj hX
    obtain rfl : b = true := by rw [← hb]; exact fac_plain hp
    clear hb hX hi hp
    go_enter Tryz.func98, Tryz.ntmps98
    go_wp2_with fail
    (try (go_quiet (fail); go_wp2_with fail))
    refine (sImp_is _ A n c ts ((HTt.out.below (by repeat (first | with_reducible exact HDt0.out | with_reducible refine Below.drew ?_ | with_reducible refine bl_drewN ?_ _ | with_reducible refine bl_alloc ?_ _) : Below w0.heap.size w0 _)).more (Below.size (by repeat (first | with_reducible exact HDt0.out | with_reducible refine Below.drew ?_ | with_reducible refine bl_drewN ?_ _ | with_reducible refine bl_alloc ?_ _) : Below w0.heap.size w0 _))) hn true HI.out).mono ?_
    rintro e w1 ⟨rfl, hb⟩
    have hs1 := hb.size
    have HB1 := Lib.hid (show Below w0.heap.size w0 w1 from bl_trans (by repeat (first | with_reducible exact HB0.out | with_reducible refine bl_drewN ?_ _ | with_reducible refine Below.drew ?_ | with_reducible refine bl_alloc ?_ _)) hb)
    have br1 := Lib.hid (show Blk w1 (w0.heap.size) 87 #[.int .i64 0, .int .i64 0] from Blk.below (by have hh := Blk.new w0 87 #[.int .i64 0, .int .i64 0]; (try simp only [World.size_alloc] at hh); repeat (first | exact hh | with_reducible refine Blk.drewN ?_ _ | with_reducible refine Blk.drew ?_ | with_reducible refine Blk.alloc ?_ _)) hb (by first | omega | (simp; done) | (simp; omega)))
    have HDt1 := Lib.hid (show Below w0.heap.size w0 w1 from bl_trans (by repeat (first | with_reducible exact HDt0.out | with_reducible refine Below.drew ?_ | with_reducible refine bl_drewN ?_ _ | with_reducible refine bl_alloc ?_ _)) hb)
    clear hb HB0 HDt0
    have cr := br1.out.cell
    go_wp2_with fail
    (try (go_quiet (fail); go_wp2_with fail))
    refine (sPlain_is _ A n c ts ((HTt.out.below (by repeat (first | with_reducible exact HDt1.out | with_reducible refine Below.drew ?_ | with_reducible refine bl_drewN ?_ _ | with_reducible refine bl_alloc ?_ _) : Below w0.heap.size w0 _)).more (Below.size (by repeat (first | with_reducible exact HDt1.out | with_reducible refine Below.drew ?_ | with_reducible refine bl_drewN ?_ _ | with_reducible refine bl_alloc ?_ _) : Below w0.heap.size w0 _))) hn true HPL.out).mono ?_
    rintro e w2 ⟨rfl, hb⟩
    have hs2 := hb.size
    have HB2 := Lib.hid (show Below w0.heap.size w0 w2 from bl_trans (by repeat (first | with_reducible exact HB1.out | with_reducible refine bl_drewN ?_ _ | with_reducible refine Below.drew ?_ | with_reducible refine bl_alloc ?_ _)) hb)
    have br2 := Lib.hid (show Blk w2 (w0.heap.size) 87 #[.int .i64 0, .int .i64 0] from Blk.below (by repeat (first | with_reducible exact br1.out | with_reducible refine Blk.drewN ?_ _ | with_reducible refine Blk.drew ?_ | with_reducible refine Blk.alloc ?_ _)) hb (by have := br1.out.lt; first | omega | (simp; omega)))
    have HDt2 := Lib.hid (show Below w0.heap.size w0 w2 from bl_trans (by repeat (first | with_reducible exact HDt1.out | with_reducible refine Below.drew ?_ | with_reducible refine bl_drewN ?_ _ | with_reducible refine bl_alloc ?_ _)) hb)
    clear hb HB1 br1 cr HDt1
    have cr := br2.out.cell
    go_wp2_with fail
    (try (go_quiet (fail); go_wp2_with fail))
    refine (sOne_is _).mono ?_
    rintro e w3 ⟨rfl, hb⟩
    have hs3 := hb.size
    have HB3 := Lib.hid (show Below w0.heap.size w0 w3 from bl_trans (by repeat (first | with_reducible exact HB2.out | with_reducible refine bl_drewN ?_ _ | with_reducible refine Below.drew ?_ | with_reducible refine bl_alloc ?_ _)) hb)
    have br3 := Lib.hid (show Blk w3 (w0.heap.size) 87 #[.int .i64 0, .int .i64 0] from Blk.below (by repeat (first | with_reducible exact br2.out | with_reducible refine Blk.drewN ?_ _ | with_reducible refine Blk.drew ?_ | with_reducible refine Blk.alloc ?_ _)) hb (by have := br2.out.lt; first | omega | (simp; omega)))
    have HDt3 := Lib.hid (show Below w0.heap.size w0 w3 from bl_trans (by repeat (first | with_reducible exact HDt2.out | with_reducible refine Below.drew ?_ | with_reducible refine bl_drewN ?_ _ | with_reducible refine bl_alloc ?_ _)) hb)
    clear hb HB2 br2 cr HDt2
    have cr := br3.out.cell
    have fR := br3.out.frozen
    have cR := br3.out.cell
    have cF := fun (s t : Value) => ((br3.out.set_ 0 s).set_ 1 t).cell
    go_wp2
    (try (go_quiet (fail); go_wp2))
    refine bodyPost_ret (v := .tuple #[.agg #[.int .i64 1, .int .i64 1], .bool true]) (by simp [results, Tryz.results98, go_sem, cF]) rfl ⟨rfl, (by repeat (first | with_reducible exact HB3.out | refine bl_drewN ?_ _ | refine Below.drew ?_ | refine bl_alloc ?_ _ | refine bl_set ?_ (by dsimp only; omega) _))⟩
end
end Go.Proofs.YtgponahmkjohiabGreatDoor
