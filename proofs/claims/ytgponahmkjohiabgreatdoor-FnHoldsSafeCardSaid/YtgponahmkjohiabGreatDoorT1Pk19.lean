import Derived.Deep.RegionWith
import Derived.Deep.RegionHeld3
import Derived.Test.YtgponahmkjohiabGreatDoorT1Pk18
namespace Go.Proofs.YtgponahmkjohiabGreatDoor
open Go.RowKit
set_option linter.unusedVariables false
set_option maxRecDepth 100000 in
set_option maxHeartbeats 6000000 in
theorem sVirt_some (w0 : World) (A : Option Addr) (n c : Nat) (ts : List Tk) (h : Tks w0 w0.heap.size A n ts) (hn : n ≤ 1048576) (b : Bool) (hb : virtV ts = b) (hft : facB ts = true) (hp : plainV ts = false) :
    Calls Tryz.prog 75 #[.slice A n c] w0 (BoolRes b w0) := by
  have HTt := Lib.hid h
  have HL := Lib.hid h.len
  have HB0 := Lib.hid (Below.refl w0.heap.size w0)
  have HDt0 := Lib.hid (Below.refl w0.heap.size w0)
  clear h
  obtain ⟨p, q, hpq⟩ : ∃ p q, lowOf ts false = (p, q) := ⟨_, _, rfl⟩
  obtain ⟨X, Y, hXY⟩ : ∃ p q, facV ts = (p, q) := ⟨_, _, rfl⟩
  obtain ⟨s, t, hst⟩ : ∃ p q, highOf ts = (p, q) := ⟨_, _, rfl⟩
  obtain ⟨N, D, g, P, Q, x, y, z, hN, hD, hg, g1, hP1, hQ1, N1, D0, D1, m1, m2, sP, sh, p1, q1, e1, e2, sx, ez, ev, _, _⟩ := virt_pack hft hp hpq hXY hst
  have hz : decide (z ≤ 0) = b := by rw [← hb, ev]
  have hfsh := (facV_sh hft).1
  rw [hXY] at hfsh
  dsimp only at hfsh
  have hlsh := (lowOf_sh false (imp_set (fac_imp hft))).1
  rw [hpq] at hlsh
  dsimp only at hlsh
  have hX9 := hfsh.num
  have hY9 := hfsh.den
  have hp9 := hlsh.num
  have hq9 := hlsh.den
  have qN := mul_cast X p N hN
  have qD := mul_cast Y q D hD
  have qP : ((N : Int) / (g : Int)) = (P : Int) := by rw [div_cast, hP1]
  have qQ : ((D : Int) / (g : Int)) = (Q : Int) := by rw [div_cast, hQ1]
  have z1 : ¬ (g : Int) = 0 := by omega
  have kP : IntKind.i64.wrap (P : Int) = (P : Int) := IntWalk.i64_in _ (by omega)
  have kQ : IntKind.i64.wrap (Q : Int) = (Q : Int) := IntWalk.i64_in _ (by clear kP; omega)
  have tP : Int.tdiv (N : Int) (g : Int) = (P : Int) := by rw [Int.tdiv_eq_ediv_of_nonneg (by omega)]; exact qP
  have tQ : Int.tdiv (D : Int) (g : Int) = (Q : Int) := by rw [Int.tdiv_eq_ediv_of_nonneg (by omega)]; exact qQ
  have zz : ((g : Int) == 0) = false := by simp; omega
  have HG := Lib.hid (fun W : World => (by rw [← hg]; exact (sGcd_big W D N (by omega) (by omega)).mono (fun e w' hh => ⟨hh.1, by rw [hh.2]; exact Below.refl _ _⟩) : Calls Tryz.prog 119 #[.int .i64 D, .int .i64 N] W fun e w' => e = .returned (.int .i64 g) ∧ Below W.heap.size W w'))
  have HM := Lib.hid (And.intro m1 m2)
  have HF := Lib.hid (And.intro hXY hft)
  have HPL := Lib.hid hp
  have HP := Lib.hid hpq
  have HH := Lib.hid hst
  have HA := Lib.hid (And.intro sP (And.intro sh (And.intro e1 e2)))
  have HZ := Lib.hid ez
  clear hb hft hp hpq hXY hst hN hD hg hP1 hQ1 m1 m2 sP sh e1 e2 sx ez ev hfsh hlsh
  go_enter Tryz.func75, Tryz.ntmps75
  go_wp2_with fail
  (try (go_quiet (fail); go_wp2_with fail))
  refine (sFac_is _ A n c ts ((HTt.out.below (by repeat (first | with_reducible exact HDt0.out | with_reducible refine Below.drew ?_ | with_reducible refine bl_drewN ?_ _ | with_reducible refine bl_alloc ?_ _) : Below w0.heap.size w0 _)).more (Below.size (by repeat (first | with_reducible exact HDt0.out | with_reducible refine Below.drew ?_ | with_reducible refine bl_drewN ?_ _ | with_reducible refine bl_alloc ?_ _) : Below w0.heap.size w0 _))) hn X Y true HF.out.1 HF.out.2).mono ?_
  rintro e w1 ⟨rfl, hb⟩
  have hs1 := hb.size
  have HB1 := Lib.hid (show Below w0.heap.size w0 w1 from bl_trans (by repeat (first | with_reducible exact HB0.out | with_reducible refine bl_drewN ?_ _ | with_reducible refine Below.drew ?_ | with_reducible refine bl_alloc ?_ _)) hb)
  have HDt1 := Lib.hid (show Below w0.heap.size w0 w1 from bl_trans (by repeat (first | with_reducible exact HDt0.out | with_reducible refine Below.drew ?_ | with_reducible refine bl_drewN ?_ _ | with_reducible refine bl_alloc ?_ _)) hb)
  clear hb HB0 HDt0
  go_wp2_with fail
  (try (go_quiet (fail); go_wp2_with fail))
  refine (sPlain_is _ A n c ts ((HTt.out.below (by repeat (first | with_reducible exact HDt1.out | with_reducible refine Below.drew ?_ | with_reducible refine bl_drewN ?_ _ | with_reducible refine bl_alloc ?_ _) : Below w0.heap.size w0 _)).more (Below.size (by repeat (first | with_reducible exact HDt1.out | with_reducible refine Below.drew ?_ | with_reducible refine bl_drewN ?_ _ | with_reducible refine bl_alloc ?_ _) : Below w0.heap.size w0 _))) hn false HPL.out).mono ?_
  rintro e w2 ⟨rfl, hb⟩
  have hs2 := hb.size
  have HB2 := Lib.hid (show Below w0.heap.size w0 w2 from bl_trans (by repeat (first | with_reducible exact HB1.out | with_reducible refine bl_drewN ?_ _ | with_reducible refine Below.drew ?_ | with_reducible refine bl_alloc ?_ _)) hb)
  have bx2 := Lib.hid (show Blk w2 (w1.heap.size) 87 #[.int .i64 (X : Int), .int .i64 (Y : Int)] from Blk.below (by have hh := Blk.new w1 87 #[.int .i64 (X : Int), .int .i64 (Y : Int)]; (try simp only [World.size_alloc] at hh); repeat (first | exact hh | with_reducible refine Blk.drewN ?_ _ | with_reducible refine Blk.drew ?_ | with_reducible refine Blk.alloc ?_ _)) hb (by first | omega | (simp; done) | (simp; omega)))
  have HDt2 := Lib.hid (show Below w0.heap.size w0 w2 from bl_trans (by repeat (first | with_reducible exact HDt1.out | with_reducible refine Below.drew ?_ | with_reducible refine bl_drewN ?_ _ | with_reducible refine bl_alloc ?_ _)) hb)
  clear hb HB1 HDt1
  have cx := bx2.out.cell
  go_wp2_with fail
  (try (go_quiet (fail); go_wp2_with fail))
  refine (sLow_is _ A n c ts false ((HTt.out.below (by repeat (first | with_reducible exact HDt2.out | with_reducible refine Below.drew ?_ | with_reducible refine bl_drewN ?_ _ | with_reducible refine bl_alloc ?_ _) : Below w0.heap.size w0 _)).more (Below.size (by repeat (first | with_reducible exact HDt2.out | with_reducible refine Below.drew ?_ | with_reducible refine bl_drewN ?_ _ | with_reducible refine bl_alloc ?_ _) : Below w0.heap.size w0 _))) (by omega) p q HP.out).mono ?_
  rintro e w3 ⟨rfl, hb⟩
  have hs3 := hb.size
  have HB3 := Lib.hid (show Below w0.heap.size w0 w3 from bl_trans (by repeat (first | with_reducible exact HB2.out | with_reducible refine bl_drewN ?_ _ | with_reducible refine Below.drew ?_ | with_reducible refine bl_alloc ?_ _)) hb)
  have bx3 := Lib.hid (show Blk w3 (w1.heap.size) 87 #[.int .i64 (X : Int), .int .i64 (Y : Int)] from Blk.below (by repeat (first | with_reducible exact bx2.out | with_reducible refine Blk.drewN ?_ _ | with_reducible refine Blk.drew ?_ | with_reducible refine Blk.alloc ?_ _)) hb (by have := bx2.out.lt; first | omega | (simp; omega)))
  have HDt3 := Lib.hid (show Below w0.heap.size w0 w3 from bl_trans (by repeat (first | with_reducible exact HDt2.out | with_reducible refine Below.drew ?_ | with_reducible refine bl_drewN ?_ _ | with_reducible refine bl_alloc ?_ _)) hb)
  clear hb HB2 bx2 cx HDt2
  have cx := fun o0 => (bx3.out.alloc o0).cell
  go_wp2_with fail
  (try (go_quiet (fail); go_wp2_with fail))
  refine (HG.out _).mono ?_
  rintro e w4 ⟨rfl, hb⟩
  have hs4 := hb.size
  have HB4 := Lib.hid (show Below w0.heap.size w0 w4 from bl_trans (by repeat (first | with_reducible exact HB3.out | with_reducible refine bl_drewN ?_ _ | with_reducible refine Below.drew ?_ | with_reducible refine bl_alloc ?_ _)) hb)
  have bx4 := Lib.hid (show Blk w4 (w1.heap.size) 87 #[.int .i64 (X : Int), .int .i64 (Y : Int)] from Blk.below (by repeat (first | with_reducible exact bx3.out | with_reducible refine Blk.drewN ?_ _ | with_reducible refine Blk.drew ?_ | with_reducible refine Blk.alloc ?_ _)) hb (by have := bx3.out.lt; first | omega | (simp; omega)))
  have ba4 := Lib.hid (show Blk w4 (w3.heap.size) 87 #[.int .i64 (p : Int), .int .i64 (q : Int)] from Blk.below (by have hh := Blk.new w3 87 #[.int .i64 (p : Int), .int .i64 (q : Int)]; (try simp only [World.size_alloc] at hh); repeat (first | exact hh | with_reducible refine Blk.drewN ?_ _ | with_reducible refine Blk.drew ?_ | with_reducible refine Blk.alloc ?_ _)) hb (by first | omega | (simp; done) | (simp; omega)))
  have HDt4 := Lib.hid (show Below w0.heap.size w0 w4 from bl_trans (by repeat (first | with_reducible exact HDt3.out | with_reducible refine Below.drew ?_ | with_reducible refine bl_drewN ?_ _ | with_reducible refine bl_alloc ?_ _)) hb)
  clear hb HB3 bx3 cx HDt3
  have cx := bx4.out.cell
  have ca := ba4.out.cell
  have hS4 := (Blk.two (show Blk w4 (w3.heap.size) 87 #[.int .i64 (p : Int), .int .i64 (q : Int)] from by repeat (first | with_reducible exact ba4.out | with_reducible refine Blk.alloc ?_ _)))
  have hkx4 := bx4.out.lt
  have hka4 := ba4.out.lt
  have hz4 := HB4.out.size
  have hzdt4 := HDt4.out.size
  have hN4 : Blk (w4.alloc (.cells #[.int .i64 0, .int .i64 0] 87)) (w4.heap.size) 87 #[.int .i64 0, .int .i64 0] := by have hh := Blk.new w4 87 #[.int .i64 0, .int .i64 0]; (try simp only [World.size_alloc] at hh); exact hh
  go_wp2_with fail
  go_region_with (first
      | (have uu := HB4; clear uu; go_at_call 120; refine (sMake_is _ P Q P Q true HM.out.1 HM.out.2).mono ?_; rintro e w5 ⟨rfl, hb⟩; have hs5 := hb.size; have HB5 := Lib.hid (show Below w0.heap.size w0 w5 from bl_trans (by repeat (first | with_reducible exact HB4.out | with_reducible refine bl_drewN ?_ _ | with_reducible refine Below.drew ?_ | with_reducible refine bl_alloc ?_ _)) hb); have bx5 := Lib.hid (show Blk w5 (w1.heap.size) 87 #[.int .i64 (X : Int), .int .i64 (Y : Int)] from Blk.below (by repeat (first | with_reducible exact bx4.out | with_reducible refine Blk.drewN ?_ _ | with_reducible refine Blk.drew ?_ | with_reducible refine Blk.alloc ?_ _)) hb (by have := bx4.out.lt; first | exact this | omega | (simp; omega))); have cx := bx5.out.cell; have ba5 := Lib.hid (show Blk w5 (w3.heap.size) 87 #[.int .i64 (p : Int), .int .i64 (q : Int)] from Blk.below (by repeat (first | with_reducible exact ba4.out | with_reducible refine Blk.drewN ?_ _ | with_reducible refine Blk.drew ?_ | with_reducible refine Blk.alloc ?_ _)) hb (by have := ba4.out.lt; first | exact this | omega | (simp; omega))); have ca := ba5.out.cell; have HDt5 := Lib.hid (show Below w0.heap.size w0 w5 from bl_trans (by repeat (first | with_reducible exact HDt4.out | with_reducible refine Below.drew ?_ | with_reducible refine bl_drewN ?_ _ | with_reducible refine bl_alloc ?_ _)) hb); have hS5 := Blk.two ba5.out; have hkx5 := bx5.out.lt; have hka5 := ba5.out.lt; have hz5 := HB5.out.size; have hzdt5 := HDt5.out.size; (first | (have bC := Lib.hid (show Blk w5 (w4.heap.size) 87 #[.int .i64 0, .int .i64 0] from Blk.below (Blk.drew hN4) hb hN4.lt)) | (have bC := Lib.hid (show Blk w5 (w4.heap.size) 87 #[.int .i64 0, .int .i64 0] from Blk.below hN4 hb hN4.lt)) | (have bC := Lib.hid (Blk.below (Blk.drew bC.out) hb bC.out.lt)) | (have bC := Lib.hid (Blk.below bC.out hb bC.out.lt)) | skip); (first | (have cC := bC.out.cell; have fC := bC.out.frozen) | skip); have hN5 := Blk.new w5 87 #[.int .i64 0, .int .i64 0]; clear hb HB4))
  all_goals first
    | (have bm6 := Lib.hid (show Blk ((w5.setCell ⟨w4.heap.size, 0, none⟩ (.int .i64 (P : Int))).setCell ⟨w4.heap.size, 1, none⟩ (.int .i64 (Q : Int))) (w4.heap.size) 87 #[.int .i64 (P : Int), .int .i64 (Q : Int)] from (bC.out.set_ 0 _).set_ 1 _)
       have hnex : (w1.heap.size) ≠ w4.heap.size := by omega
       have bx6 := Lib.hid (show Blk ((w5.setCell ⟨w4.heap.size, 0, none⟩ (.int .i64 (P : Int))).setCell ⟨w4.heap.size, 1, none⟩ (.int .i64 (Q : Int))) (w1.heap.size) 87 #[.int .i64 (X : Int), .int .i64 (Y : Int)] from (bx5.out.far hnex _).far hnex _)
       have hnea : (w3.heap.size) ≠ w4.heap.size := by omega
       have ba6 := Lib.hid (show Blk ((w5.setCell ⟨w4.heap.size, 0, none⟩ (.int .i64 (P : Int))).setCell ⟨w4.heap.size, 1, none⟩ (.int .i64 (Q : Int))) (w3.heap.size) 87 #[.int .i64 (p : Int), .int .i64 (q : Int)] from (ba5.out.far hnea _).far hnea _)
       have HB6 := Lib.hid (show Below w0.heap.size w0 ((w5.setCell ⟨w4.heap.size, 0, none⟩ (.int .i64 (P : Int))).setCell ⟨w4.heap.size, 1, none⟩ (.int .i64 (Q : Int))) from bl_set (bl_set HB5.out (by dsimp only; omega) _) (by dsimp only; omega) _)
       have HDt6 := Lib.hid (show Below w0.heap.size w0 ((w5.setCell ⟨w4.heap.size, 0, none⟩ (.int .i64 (P : Int))).setCell ⟨w4.heap.size, 1, none⟩ (.int .i64 (Q : Int))) from bl_set (bl_set HDt5.out (by dsimp only; omega) _) (by dsimp only; omega) _)
       clear bx5 ba5 HB5 HDt5 cx ca cC fC bC
       generalize ((w5.setCell ⟨w4.heap.size, 0, none⟩ (.int .i64 (P : Int))).setCell ⟨w4.heap.size, 1, none⟩ (.int .i64 (Q : Int))) = w6 at *
       generalize w4.heap.size = am at *)
    | (have bm6 := Lib.hid (show Blk (w5.alloc (.cells #[.int .i64 (P : Int), .int .i64 (Q : Int)] 87)) (w5.heap.size) 87 #[.int .i64 (P : Int), .int .i64 (Q : Int)] from Blk.new w5 87 _)
       have bx6 := Lib.hid (show Blk (w5.alloc (.cells #[.int .i64 (P : Int), .int .i64 (Q : Int)] 87)) (w1.heap.size) 87 #[.int .i64 (X : Int), .int .i64 (Y : Int)] from bx5.out.alloc _)
       have ba6 := Lib.hid (show Blk (w5.alloc (.cells #[.int .i64 (P : Int), .int .i64 (Q : Int)] 87)) (w3.heap.size) 87 #[.int .i64 (p : Int), .int .i64 (q : Int)] from ba5.out.alloc _)
       have HB6 := Lib.hid (show Below w0.heap.size w0 (w5.alloc (.cells #[.int .i64 (P : Int), .int .i64 (Q : Int)] 87)) from bl_alloc HB5.out _)
       have HDt6 := Lib.hid (show Below w0.heap.size w0 (w5.alloc (.cells #[.int .i64 (P : Int), .int .i64 (Q : Int)] 87)) from bl_alloc HDt5.out _)
       clear bx5 ba5 HB5 HDt5 cx ca
       generalize (w5.alloc (.cells #[.int .i64 (P : Int), .int .i64 (Q : Int)] 87)) = w6 at *
       generalize w5.heap.size = am at *)
  all_goals have hkx6 := bx6.out.lt
  all_goals have hka6 := ba6.out.lt
  all_goals have hkm6 := bm6.out.lt
  all_goals
    (skip
     have cx := bx6.out.cell
     have ca := ba6.out.cell
     have cm := bm6.out.cell
     have hS6 := (Blk.two (show Blk w6 (am) 87 #[.int .i64 (P : Int), .int .i64 (Q : Int)] from by repeat (first | with_reducible exact bm6.out | with_reducible refine Blk.alloc ?_ _)))
     have hkx6 := bx6.out.lt
     have hka6 := ba6.out.lt
     have hkm6 := bm6.out.lt
     have hz6 := HB6.out.size
     have hzdt6 := HDt6.out.size
     have hN6 : Blk (w6.alloc (.cells #[.int .i64 0, .int .i64 0] 87)) (w6.heap.size) 87 #[.int .i64 0, .int .i64 0] := by have hh := Blk.new w6 87 #[.int .i64 0, .int .i64 0]; (try simp only [World.size_alloc] at hh); exact hh
     go_wp2_with fail
     first
     | (go_region_held3 (fun W => (W.cell? ⟨am, 0, none⟩ = some (.int .i64 (P : Int)) ∧ W.cell? ⟨am, 1, none⟩ = some (.int .i64 (Q : Int)))) (first | exact hS6 | exact hS7 | exact hS8 | exact two_alloc1 hS6 _ | exact two_alloc1 hS7 _ | exact two_alloc1 hS8 _ | exact two_set1 hS8 (by omega) _ _)
       ((first
         | (have uu := HB6; clear uu; go_at_call 122; refine (sHigh_is _ A n c ts ((HTt.out.below (by repeat (first | with_reducible exact HDt6.out | with_reducible refine Below.drew ?_ | with_reducible refine bl_drewN ?_ _ | with_reducible refine bl_alloc ?_ _) : Below w0.heap.size w0 _)).more (Below.size (by repeat (first | with_reducible exact HDt6.out | with_reducible refine Below.drew ?_ | with_reducible refine bl_drewN ?_ _ | with_reducible refine bl_alloc ?_ _) : Below w0.heap.size w0 _))) hn s t HH.out).mono ?_; rintro e w7 ⟨rfl, hb⟩; have hs7 := hb.size; have HB7 := Lib.hid (show Below w0.heap.size w0 w7 from bl_trans (by repeat (first | with_reducible exact HB6.out | with_reducible refine bl_drewN ?_ _ | with_reducible refine Below.drew ?_ | with_reducible refine bl_alloc ?_ _)) hb); have bx7 := Lib.hid (show Blk w7 (w1.heap.size) 87 #[.int .i64 (X : Int), .int .i64 (Y : Int)] from Blk.below (by repeat (first | with_reducible exact bx6.out | with_reducible refine Blk.drewN ?_ _ | with_reducible refine Blk.drew ?_ | with_reducible refine Blk.alloc ?_ _)) hb (by have := bx6.out.lt; first | exact this | omega | (simp; omega))); have cx := bx7.out.cell; have ba7 := Lib.hid (show Blk w7 (w3.heap.size) 87 #[.int .i64 (p : Int), .int .i64 (q : Int)] from Blk.below (by repeat (first | with_reducible exact ba6.out | with_reducible refine Blk.drewN ?_ _ | with_reducible refine Blk.drew ?_ | with_reducible refine Blk.alloc ?_ _)) hb (by have := ba6.out.lt; first | exact this | omega | (simp; omega))); have ca := ba7.out.cell; have bm7 := Lib.hid (show Blk w7 am 87 #[.int .i64 (P : Int), .int .i64 (Q : Int)] from Blk.below (by repeat (first | with_reducible exact bm6.out | with_reducible refine Blk.drewN ?_ _ | with_reducible refine Blk.drew ?_ | with_reducible refine Blk.alloc ?_ _)) hb (by have := bm6.out.lt; first | exact this | omega | (simp; omega))); have cm := bm7.out.cell; have HDt7 := Lib.hid (show Below w0.heap.size w0 w7 from bl_trans (by repeat (first | with_reducible exact HDt6.out | with_reducible refine Below.drew ?_ | with_reducible refine bl_drewN ?_ _ | with_reducible refine bl_alloc ?_ _)) hb); have hS7 := Blk.two bm7.out; have hkx7 := bx7.out.lt; have hka7 := ba7.out.lt; have hkm7 := bm7.out.lt; have hz7 := HB7.out.size; have hzdt7 := HDt7.out.size; (first | (have bC := Lib.hid (show Blk w7 (w6.heap.size) 87 #[.int .i64 0, .int .i64 0] from Blk.below (Blk.drew hN6) hb hN6.lt)) | (have bC := Lib.hid (show Blk w7 (w6.heap.size) 87 #[.int .i64 0, .int .i64 0] from Blk.below hN6 hb hN6.lt)) | (have bC := Lib.hid (Blk.below (Blk.drew bC.out) hb bC.out.lt)) | (have bC := Lib.hid (Blk.below bC.out hb bC.out.lt)) | skip); (first | (have cC := bC.out.cell; have fC := bC.out.frozen) | skip); have hN7 := Blk.new w7 87 #[.int .i64 0, .int .i64 0]; clear hb HB6)
         | (have uu := HB7; clear uu; go_at_call 121; refine (l2_is _ P Q s t x y true HA.out.1 HA.out.2.1 HA.out.2.2.1 HA.out.2.2.2).mono ?_; rintro e w8 ⟨rfl, hb⟩; have hs8 := hb.size; have HB8 := Lib.hid (show Below w0.heap.size w0 w8 from bl_trans (by repeat (first | with_reducible exact HB7.out | with_reducible refine bl_drewN ?_ _ | with_reducible refine Below.drew ?_ | with_reducible refine bl_alloc ?_ _)) hb); have bx8 := Lib.hid (show Blk w8 (w1.heap.size) 87 #[.int .i64 (X : Int), .int .i64 (Y : Int)] from Blk.below (by repeat (first | with_reducible exact bx7.out | with_reducible refine Blk.drewN ?_ _ | with_reducible refine Blk.drew ?_ | with_reducible refine Blk.alloc ?_ _)) hb (by have := bx7.out.lt; first | exact this | omega | (simp; omega))); have cx := bx8.out.cell; have ba8 := Lib.hid (show Blk w8 (w3.heap.size) 87 #[.int .i64 (p : Int), .int .i64 (q : Int)] from Blk.below (by repeat (first | with_reducible exact ba7.out | with_reducible refine Blk.drewN ?_ _ | with_reducible refine Blk.drew ?_ | with_reducible refine Blk.alloc ?_ _)) hb (by have := ba7.out.lt; first | exact this | omega | (simp; omega))); have ca := ba8.out.cell; have bm8 := Lib.hid (show Blk w8 am 87 #[.int .i64 (P : Int), .int .i64 (Q : Int)] from Blk.below (by repeat (first | with_reducible exact bm7.out | with_reducible refine Blk.drewN ?_ _ | with_reducible refine Blk.drew ?_ | with_reducible refine Blk.alloc ?_ _)) hb (by have := bm7.out.lt; first | exact this | omega | (simp; omega))); have cm := bm8.out.cell; have HDt8 := Lib.hid (show Below w0.heap.size w0 w8 from bl_trans (by repeat (first | with_reducible exact HDt7.out | with_reducible refine Below.drew ?_ | with_reducible refine bl_drewN ?_ _ | with_reducible refine bl_alloc ?_ _)) hb); have hS8 := Blk.two bm8.out; have hkx8 := bx8.out.lt; have hka8 := ba8.out.lt; have hkm8 := bm8.out.lt; have hz8 := HB8.out.size; have hzdt8 := HDt8.out.size; (first | (have bC := Lib.hid (show Blk w8 (w7.heap.size) 87 #[.int .i64 0, .int .i64 0] from Blk.below (Blk.drew hN7) hb hN7.lt)) | (have bC := Lib.hid (show Blk w8 (w7.heap.size) 87 #[.int .i64 0, .int .i64 0] from Blk.below hN7 hb hN7.lt)) | (have bC := Lib.hid (Blk.below (Blk.drew bC.out) hb bC.out.lt)) | (have bC := Lib.hid (Blk.below bC.out hb bC.out.lt)) | skip); (first | (have cC := bC.out.cell; have fC := bC.out.frozen) | skip); have hN8 := Blk.new w8 87 #[.int .i64 0, .int .i64 0]; clear hb HB7))))
     | fail "no region"
     all_goals first
       | (have bz9 := Lib.hid (show Blk ((w8.setCell ⟨w6.heap.size, 0, none⟩ (.int .i64 (x : Int))).setCell ⟨w6.heap.size, 1, none⟩ (.int .i64 (y : Int))) (w6.heap.size) 87 #[.int .i64 (x : Int), .int .i64 (y : Int)] from (bC.out.set_ 0 _).set_ 1 _)
          have hnex : (w1.heap.size) ≠ w6.heap.size := by omega
          have bx9 := Lib.hid (show Blk ((w8.setCell ⟨w6.heap.size, 0, none⟩ (.int .i64 (x : Int))).setCell ⟨w6.heap.size, 1, none⟩ (.int .i64 (y : Int))) (w1.heap.size) 87 #[.int .i64 (X : Int), .int .i64 (Y : Int)] from (bx8.out.far hnex _).far hnex _)
          have hnea : (w3.heap.size) ≠ w6.heap.size := by omega
          have ba9 := Lib.hid (show Blk ((w8.setCell ⟨w6.heap.size, 0, none⟩ (.int .i64 (x : Int))).setCell ⟨w6.heap.size, 1, none⟩ (.int .i64 (y : Int))) (w3.heap.size) 87 #[.int .i64 (p : Int), .int .i64 (q : Int)] from (ba8.out.far hnea _).far hnea _)
          have hnem : am ≠ w6.heap.size := by omega
          have bm9 := Lib.hid (show Blk ((w8.setCell ⟨w6.heap.size, 0, none⟩ (.int .i64 (x : Int))).setCell ⟨w6.heap.size, 1, none⟩ (.int .i64 (y : Int))) am 87 #[.int .i64 (P : Int), .int .i64 (Q : Int)] from (bm8.out.far hnem _).far hnem _)
          have HB9 := Lib.hid (show Below w0.heap.size w0 ((w8.setCell ⟨w6.heap.size, 0, none⟩ (.int .i64 (x : Int))).setCell ⟨w6.heap.size, 1, none⟩ (.int .i64 (y : Int))) from bl_set (bl_set HB8.out (by dsimp only; omega) _) (by dsimp only; omega) _)
          have HDt9 := Lib.hid (show Below w0.heap.size w0 ((w8.setCell ⟨w6.heap.size, 0, none⟩ (.int .i64 (x : Int))).setCell ⟨w6.heap.size, 1, none⟩ (.int .i64 (y : Int))) from bl_set (bl_set HDt8.out (by dsimp only; omega) _) (by dsimp only; omega) _)
          clear bx8 ba8 bm8 HB8 HDt8 cx ca cm cC fC bC
          generalize ((w8.setCell ⟨w6.heap.size, 0, none⟩ (.int .i64 (x : Int))).setCell ⟨w6.heap.size, 1, none⟩ (.int .i64 (y : Int))) = w9 at *
          generalize w6.heap.size = az at *)
       | (have bz9 := Lib.hid (show Blk ((w8.setCell ⟨w7.heap.size, 0, none⟩ (.int .i64 (x : Int))).setCell ⟨w7.heap.size, 1, none⟩ (.int .i64 (y : Int))) (w7.heap.size) 87 #[.int .i64 (x : Int), .int .i64 (y : Int)] from (bC.out.set_ 0 _).set_ 1 _)
          have hnex : (w1.heap.size) ≠ w7.heap.size := by omega
          have bx9 := Lib.hid (show Blk ((w8.setCell ⟨w7.heap.size, 0, none⟩ (.int .i64 (x : Int))).setCell ⟨w7.heap.size, 1, none⟩ (.int .i64 (y : Int))) (w1.heap.size) 87 #[.int .i64 (X : Int), .int .i64 (Y : Int)] from (bx8.out.far hnex _).far hnex _)
          have hnea : (w3.heap.size) ≠ w7.heap.size := by omega
          have ba9 := Lib.hid (show Blk ((w8.setCell ⟨w7.heap.size, 0, none⟩ (.int .i64 (x : Int))).setCell ⟨w7.heap.size, 1, none⟩ (.int .i64 (y : Int))) (w3.heap.size) 87 #[.int .i64 (p : Int), .int .i64 (q : Int)] from (ba8.out.far hnea _).far hnea _)
          have hnem : am ≠ w7.heap.size := by omega
          have bm9 := Lib.hid (show Blk ((w8.setCell ⟨w7.heap.size, 0, none⟩ (.int .i64 (x : Int))).setCell ⟨w7.heap.size, 1, none⟩ (.int .i64 (y : Int))) am 87 #[.int .i64 (P : Int), .int .i64 (Q : Int)] from (bm8.out.far hnem _).far hnem _)
          have HB9 := Lib.hid (show Below w0.heap.size w0 ((w8.setCell ⟨w7.heap.size, 0, none⟩ (.int .i64 (x : Int))).setCell ⟨w7.heap.size, 1, none⟩ (.int .i64 (y : Int))) from bl_set (bl_set HB8.out (by dsimp only; omega) _) (by dsimp only; omega) _)
          have HDt9 := Lib.hid (show Below w0.heap.size w0 ((w8.setCell ⟨w7.heap.size, 0, none⟩ (.int .i64 (x : Int))).setCell ⟨w7.heap.size, 1, none⟩ (.int .i64 (y : Int))) from bl_set (bl_set HDt8.out (by dsimp only; omega) _) (by dsimp only; omega) _)
          clear bx8 ba8 bm8 HB8 HDt8 cx ca cm cC fC bC
          generalize ((w8.setCell ⟨w7.heap.size, 0, none⟩ (.int .i64 (x : Int))).setCell ⟨w7.heap.size, 1, none⟩ (.int .i64 (y : Int))) = w9 at *
          generalize w7.heap.size = az at *)
       | (have bz9 := Lib.hid (show Blk (w8.alloc (.cells #[.int .i64 (x : Int), .int .i64 (y : Int)] 87)) (w8.heap.size) 87 #[.int .i64 (x : Int), .int .i64 (y : Int)] from Blk.new w8 87 _)
          have bx9 := Lib.hid (show Blk (w8.alloc (.cells #[.int .i64 (x : Int), .int .i64 (y : Int)] 87)) (w1.heap.size) 87 #[.int .i64 (X : Int), .int .i64 (Y : Int)] from bx8.out.alloc _)
          have ba9 := Lib.hid (show Blk (w8.alloc (.cells #[.int .i64 (x : Int), .int .i64 (y : Int)] 87)) (w3.heap.size) 87 #[.int .i64 (p : Int), .int .i64 (q : Int)] from ba8.out.alloc _)
          have bm9 := Lib.hid (show Blk (w8.alloc (.cells #[.int .i64 (x : Int), .int .i64 (y : Int)] 87)) am 87 #[.int .i64 (P : Int), .int .i64 (Q : Int)] from bm8.out.alloc _)
          have HB9 := Lib.hid (show Below w0.heap.size w0 (w8.alloc (.cells #[.int .i64 (x : Int), .int .i64 (y : Int)] 87)) from bl_alloc HB8.out _)
          have HDt9 := Lib.hid (show Below w0.heap.size w0 (w8.alloc (.cells #[.int .i64 (x : Int), .int .i64 (y : Int)] 87)) from bl_alloc HDt8.out _)
          clear bx8 ba8 bm8 HB8 HDt8 cx ca cm
          generalize (w8.alloc (.cells #[.int .i64 (x : Int), .int .i64 (y : Int)] 87)) = w9 at *
          generalize w8.heap.size = az at *)
     all_goals have hkx9 := bx9.out.lt
     all_goals have hka9 := ba9.out.lt
     all_goals have hkm9 := bm9.out.lt
     all_goals have hkz9 := bz9.out.lt
     all_goals
       (skip
        have cx := bx9.out.cell
        have ca := ba9.out.cell
        have cm := bm9.out.cell
        have cz := bz9.out.cell
        have hS9 := (Blk.two (show Blk w9 (az) 87 #[.int .i64 (x : Int), .int .i64 (y : Int)] from by repeat (first | with_reducible exact bz9.out | with_reducible refine Blk.alloc ?_ _)))
        go_wp2_with fail
        first
        | (go_region_held3 (fun W => (W.cell? ⟨az, 0, none⟩ = some (.int .i64 (x : Int)) ∧ W.cell? ⟨az, 1, none⟩ = some (.int .i64 (y : Int)))) (first | exact hS9 | exact hS10 | exact hS11)
          ((first
            | (have uu := HB9; clear uu; go_at_call 97; refine (sOne_is _).mono ?_; rintro e w10 ⟨rfl, hb⟩; have hs10 := hb.size; have HB10 := Lib.hid (show Below w0.heap.size w0 w10 from bl_trans (by repeat (first | with_reducible exact HB9.out | with_reducible refine bl_drewN ?_ _ | with_reducible refine Below.drew ?_ | with_reducible refine bl_alloc ?_ _)) hb); have bx10 := Lib.hid (show Blk w10 (w1.heap.size) 87 #[.int .i64 (X : Int), .int .i64 (Y : Int)] from Blk.below (by repeat (first | with_reducible exact bx9.out | with_reducible refine Blk.drewN ?_ _ | with_reducible refine Blk.drew ?_ | with_reducible refine Blk.alloc ?_ _)) hb (by have := bx9.out.lt; first | exact this | omega | (simp; omega))); have cx := bx10.out.cell; have ba10 := Lib.hid (show Blk w10 (w3.heap.size) 87 #[.int .i64 (p : Int), .int .i64 (q : Int)] from Blk.below (by repeat (first | with_reducible exact ba9.out | with_reducible refine Blk.drewN ?_ _ | with_reducible refine Blk.drew ?_ | with_reducible refine Blk.alloc ?_ _)) hb (by have := ba9.out.lt; first | exact this | omega | (simp; omega))); have ca := ba10.out.cell; have bm10 := Lib.hid (show Blk w10 am 87 #[.int .i64 (P : Int), .int .i64 (Q : Int)] from Blk.below (by repeat (first | with_reducible exact bm9.out | with_reducible refine Blk.drewN ?_ _ | with_reducible refine Blk.drew ?_ | with_reducible refine Blk.alloc ?_ _)) hb (by have := bm9.out.lt; first | exact this | omega | (simp; omega))); have cm := bm10.out.cell; have bz10 := Lib.hid (show Blk w10 az 87 #[.int .i64 (x : Int), .int .i64 (y : Int)] from Blk.below (by repeat (first | with_reducible exact bz9.out | with_reducible refine Blk.drewN ?_ _ | with_reducible refine Blk.drew ?_ | with_reducible refine Blk.alloc ?_ _)) hb (by have := bz9.out.lt; first | exact this | omega | (simp; omega))); have cz := bz10.out.cell; have HDt10 := Lib.hid (show Below w0.heap.size w0 w10 from bl_trans (by repeat (first | with_reducible exact HDt9.out | with_reducible refine Below.drew ?_ | with_reducible refine bl_drewN ?_ _ | with_reducible refine bl_alloc ?_ _)) hb); have hS10 := Blk.two bz10.out; clear hb HB9)
            | (have uu := HB10; clear uu; go_at_call 123; refine (sCmp_is _ x y 1 1 z HZ.out).mono ?_; rintro e w11 ⟨rfl, hb⟩; have hs11 := hb.size; have HB11 := Lib.hid (show Below w0.heap.size w0 w11 from bl_trans (by repeat (first | with_reducible exact HB10.out | with_reducible refine bl_drewN ?_ _ | with_reducible refine Below.drew ?_ | with_reducible refine bl_alloc ?_ _)) hb); have bx11 := Lib.hid (show Blk w11 (w1.heap.size) 87 #[.int .i64 (X : Int), .int .i64 (Y : Int)] from Blk.below (by repeat (first | with_reducible exact bx10.out | with_reducible refine Blk.drewN ?_ _ | with_reducible refine Blk.drew ?_ | with_reducible refine Blk.alloc ?_ _)) hb (by have := bx10.out.lt; first | exact this | omega | (simp; omega))); have cx := bx11.out.cell; have ba11 := Lib.hid (show Blk w11 (w3.heap.size) 87 #[.int .i64 (p : Int), .int .i64 (q : Int)] from Blk.below (by repeat (first | with_reducible exact ba10.out | with_reducible refine Blk.drewN ?_ _ | with_reducible refine Blk.drew ?_ | with_reducible refine Blk.alloc ?_ _)) hb (by have := ba10.out.lt; first | exact this | omega | (simp; omega))); have ca := ba11.out.cell; have bm11 := Lib.hid (show Blk w11 am 87 #[.int .i64 (P : Int), .int .i64 (Q : Int)] from Blk.below (by repeat (first | with_reducible exact bm10.out | with_reducible refine Blk.drewN ?_ _ | with_reducible refine Blk.drew ?_ | with_reducible refine Blk.alloc ?_ _)) hb (by have := bm10.out.lt; first | exact this | omega | (simp; omega))); have cm := bm11.out.cell; have bz11 := Lib.hid (show Blk w11 az 87 #[.int .i64 (x : Int), .int .i64 (y : Int)] from Blk.below (by repeat (first | with_reducible exact bz10.out | with_reducible refine Blk.drewN ?_ _ | with_reducible refine Blk.drew ?_ | with_reducible refine Blk.alloc ?_ _)) hb (by have := bz10.out.lt; first | exact this | omega | (simp; omega))); have cz := bz11.out.cell; have HDt11 := Lib.hid (show Below w0.heap.size w0 w11 from bl_trans (by repeat (first | with_reducible exact HDt10.out | with_reducible refine Below.drew ?_ | with_reducible refine bl_drewN ?_ _ | with_reducible refine bl_alloc ?_ _)) hb); have hS11 := Blk.two bz11.out; clear hb HB10))))
        | fail "no region"
        have hkx11 := bx11.out.lt
        have hka11 := ba11.out.lt
        have hkm11 := bm11.out.lt
        have hkz11 := bz11.out.lt
        have cx := bx11.out.cell
        have ca := ba11.out.cell
        have cm := bm11.out.cell
        have cz := bz11.out.cell
        go_wp2
        (try (go_quiet (fail); go_wp2))
        refine bodyPost_ret (v := .bool b) (by simp [results, Tryz.results75, go_sem]) rfl ⟨rfl, (by repeat (first | with_reducible exact HB11.out | refine bl_drewN ?_ _ | refine Below.drew ?_ | refine bl_alloc ?_ _ | refine bl_set ?_ (by dsimp only; omega) _))⟩))
end Go.Proofs.YtgponahmkjohiabGreatDoor

namespace Go.Proofs.YtgponahmkjohiabGreatDoor
open Go.RowKit
set_option linter.unusedVariables false
set_option maxRecDepth 100000 in
set_option maxHeartbeats 6000000 in
theorem sVirt_is (w0 : World) (A : Option Addr) (n c : Nat) (ts : List Tk) (h : Tks w0 w0.heap.size A n ts) (hn : n ≤ 1048576) (b : Bool) (hb : virtV ts = b) :
    Calls Tryz.prog 75 #[.slice A n c] w0 (BoolRes b w0) := by
  have HTt := Lib.hid h
  have HL := Lib.hid h.len
  have HB0 := Lib.hid (Below.refl w0.heap.size w0)
  have HDt0 := Lib.hid (Below.refl w0.heap.size w0)
  clear h
  cases hft : facB ts
  · obtain rfl : b = false := by rw [← hb]; unfold virtV; rw [hft]; rfl
    have hf0 := facV_no hft
    clear hb
    go_enter Tryz.func75, Tryz.ntmps75
    go_wp2_with fail
    (try (go_quiet (fail); go_wp2_with fail))
    refine (sFac_is _ A n c ts ((HTt.out.below (by repeat (first | with_reducible exact HDt0.out | with_reducible refine Below.drew ?_ | with_reducible refine bl_drewN ?_ _ | with_reducible refine bl_alloc ?_ _) : Below w0.heap.size w0 _)).more (Below.size (by repeat (first | with_reducible exact HDt0.out | with_reducible refine Below.drew ?_ | with_reducible refine bl_drewN ?_ _ | with_reducible refine bl_alloc ?_ _) : Below w0.heap.size w0 _))) hn 0 0 false hf0 hft).mono ?_
    rintro e w1 ⟨rfl, hb⟩
    have hs1 := hb.size
    have HB1 := Lib.hid (show Below w0.heap.size w0 w1 from bl_trans (by repeat (first | with_reducible exact HB0.out | with_reducible refine bl_drewN ?_ _ | with_reducible refine Below.drew ?_ | with_reducible refine bl_alloc ?_ _)) hb)
    have HDt1 := Lib.hid (show Below w0.heap.size w0 w1 from bl_trans (by repeat (first | with_reducible exact HDt0.out | with_reducible refine Below.drew ?_ | with_reducible refine bl_drewN ?_ _ | with_reducible refine bl_alloc ?_ _)) hb)
    clear hb HB0 HDt0
    go_wp2
    (try (go_quiet (fail); go_wp2))
    refine bodyPost_ret (v := .bool false) (by simp [results, Tryz.results75, go_sem]) rfl ⟨rfl, (by repeat (first | with_reducible exact HB1.out | refine bl_drewN ?_ _ | refine Below.drew ?_ | refine bl_alloc ?_ _ | refine bl_set ?_ (by dsimp only; omega) _))⟩
  cases hp : plainV ts
  · exact sVirt_some w0 A n c ts HTt.out hn b hb hft hp
  obtain rfl : b = true := by rw [← hb]; unfold virtV; rw [hft, hp]; rfl
  have hf1 := facV_plain hp
  clear hb
  go_enter Tryz.func75, Tryz.ntmps75
  go_wp2_with fail
  (try (go_quiet (fail); go_wp2_with fail))
  refine (sFac_is _ A n c ts ((HTt.out.below (by repeat (first | with_reducible exact HDt0.out | with_reducible refine Below.drew ?_ | with_reducible refine bl_drewN ?_ _ | with_reducible refine bl_alloc ?_ _) : Below w0.heap.size w0 _)).more (Below.size (by repeat (first | with_reducible exact HDt0.out | with_reducible refine Below.drew ?_ | with_reducible refine bl_drewN ?_ _ | with_reducible refine bl_alloc ?_ _) : Below w0.heap.size w0 _))) hn 1 1 true hf1 hft).mono ?_
  rintro e w1 ⟨rfl, hb⟩
  have hs1 := hb.size
  have HB1 := Lib.hid (show Below w0.heap.size w0 w1 from bl_trans (by repeat (first | with_reducible exact HB0.out | with_reducible refine bl_drewN ?_ _ | with_reducible refine Below.drew ?_ | with_reducible refine bl_alloc ?_ _)) hb)
  have HDt1 := Lib.hid (show Below w0.heap.size w0 w1 from bl_trans (by repeat (first | with_reducible exact HDt0.out | with_reducible refine Below.drew ?_ | with_reducible refine bl_drewN ?_ _ | with_reducible refine bl_alloc ?_ _)) hb)
  clear hb HB0 HDt0
  go_wp2_with fail
  (try (go_quiet (fail); go_wp2_with fail))
  refine (sPlain_is _ A n c ts ((HTt.out.below (by repeat (first | with_reducible exact HDt1.out | with_reducible refine Below.drew ?_ | with_reducible refine bl_drewN ?_ _ | with_reducible refine bl_alloc ?_ _) : Below w0.heap.size w0 _)).more (Below.size (by repeat (first | with_reducible exact HDt1.out | with_reducible refine Below.drew ?_ | with_reducible refine bl_drewN ?_ _ | with_reducible refine bl_alloc ?_ _) : Below w0.heap.size w0 _))) hn true hp).mono ?_
  rintro e w2 ⟨rfl, hb⟩
  have hs2 := hb.size
  have HB2 := Lib.hid (show Below w0.heap.size w0 w2 from bl_trans (by repeat (first | with_reducible exact HB1.out | with_reducible refine bl_drewN ?_ _ | with_reducible refine Below.drew ?_ | with_reducible refine bl_alloc ?_ _)) hb)
  have bx2 := Lib.hid (show Blk w2 (w1.heap.size) 87 #[.int .i64 1, .int .i64 1] from Blk.below (by have hh := Blk.new w1 87 #[.int .i64 1, .int .i64 1]; (try simp only [World.size_alloc] at hh); repeat (first | exact hh | with_reducible refine Blk.drewN ?_ _ | with_reducible refine Blk.drew ?_ | with_reducible refine Blk.alloc ?_ _)) hb (by first | omega | (simp; done) | (simp; omega)))
  have HDt2 := Lib.hid (show Below w0.heap.size w0 w2 from bl_trans (by repeat (first | with_reducible exact HDt1.out | with_reducible refine Below.drew ?_ | with_reducible refine bl_drewN ?_ _ | with_reducible refine bl_alloc ?_ _)) hb)
  clear hb HB1 HDt1
  have cx := bx2.out.cell
  go_wp2
  (try (go_quiet (fail); go_wp2))
  refine bodyPost_ret (v := .bool true) (by simp [results, Tryz.results75, go_sem]) rfl ⟨rfl, (by repeat (first | with_reducible exact HB2.out | refine bl_drewN ?_ _ | refine Below.drew ?_ | refine bl_alloc ?_ _ | refine bl_set ?_ (by dsimp only; omega) _))⟩
end Go.Proofs.YtgponahmkjohiabGreatDoor

namespace Go.Proofs.YtgponahmkjohiabGreatDoor
open Go.RowKit
set_option linter.unusedVariables false
set_option maxRecDepth 100000 in
set_option maxHeartbeats 2000000 in
theorem sHoldsBy_is (w : World) (A : Option Addr) (n c : Nat) (ts : List Tk) (pol : Int) (h : Tks w w.heap.size A n ts) (hn : n ≤ 1048576) (b : Bool) (hb : hBy ts pol = b) :
    Calls Tryz.prog 29 #[.slice A n c, .int .i64 pol] w (BoolRes b w) := by
  have H := Lib.hid h
  clear h
  by_cases h0 : pol = 0
  · subst h0
    have HB : Hid (hBoth ts = b) := hb
    clear hb
    go_enter Tryz.func29, Tryz.ntmps29
    go_wp2_with fail
    refine (sHBoth_is _ A n c ts H.out hn b HB.out).mono ?_
    rintro e w1 ⟨rfl, hb1⟩
    have HB1 := Lib.hid hb1
    clear hb1
    go_wp2
    go_ret
    exact ⟨rfl, HB1.out⟩
  by_cases h1 : pol = 1
  · subst h1
    have HB : Hid (virtV ts = b) := hb
    clear hb h0
    go_enter Tryz.func29, Tryz.ntmps29
    go_wp2_with fail
    refine (sVirt_is _ A n c ts H.out hn b HB.out).mono ?_
    rintro e w1 ⟨rfl, hb1⟩
    have HB1 := Lib.hid hb1
    clear hb1
    go_wp2
    go_ret
    exact ⟨rfl, HB1.out⟩
  obtain rfl : b = false := by rw [← hb]; exact hBy_no h0 h1
  have p0 : (pol == 0) = false := by simpa using h0
  have p1 : (pol == 1) = false := by simpa using h1
  clear hb
  go_enter Tryz.func29, Tryz.ntmps29
  go_wp2
  go_ret
  exact ⟨rfl, Below.refl _ _⟩
set_option maxRecDepth 100000 in
set_option maxHeartbeats 2000000 in
theorem iHoldsBy_is (w : World) (A : Option Addr) (n c : Nat) (ts : List Tk) (pol : Int) (h : Tks w w.heap.size A n ts) (hn : n ≤ 1048576) (hnc : n ≤ c) (e0 : Addr) (he : EG w e0) (b : Bool) (hb : hBy ts pol = b) :
    Calls Tryz.prog 28 #[.slice A n c, .int .i64 pol] w (BoolRes b w) := by
  have H := Lib.hid h
  have HE := Lib.hid he
  clear h he
  by_cases h0 : pol = 0
  · subst h0
    have HB : Hid (hBoth ts = b) := hb
    clear hb
    go_enter Tryz.func28, Tryz.ntmps28
    go_wp2_with fail
    refine (iHBoth_is _ A n c ts H.out hn hnc b HB.out).mono ?_
    rintro e w1 ⟨rfl, hb1⟩
    have HB1 := Lib.hid hb1
    clear hb1
    go_wp2
    go_ret
    exact ⟨rfl, HB1.out⟩
  by_cases h1 : pol = 1
  · subst h1
    have HB : Hid (virtV ts = b) := hb
    clear hb h0
    go_enter Tryz.func28, Tryz.ntmps28
    go_wp2_with fail
    refine (iVirt_is _ A n c ts H.out hn e0 HE.out b HB.out).mono ?_
    rintro e w1 ⟨rfl, hb1⟩
    have HB1 := Lib.hid hb1
    clear hb1
    go_wp2
    go_ret
    exact ⟨rfl, HB1.out⟩
  obtain rfl : b = false := by rw [← hb]; exact hBy_no h0 h1
  have p0 : (pol == 0) = false := by simpa using h0
  have p1 : (pol == 1) = false := by simpa using h1
  clear hb
  go_enter Tryz.func28, Tryz.ntmps28
  go_wp2
  go_ret
  exact ⟨rfl, Below.refl _ _⟩
end Go.Proofs.YtgponahmkjohiabGreatDoor
