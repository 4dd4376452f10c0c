/- The walk of an exact law on two shares. -/
import Derived.Test.YtbaecbibkmdbiabDoorLawExSh
import Derived.Test.YtbaecbibkmdbiabDoorTwo4
import Derived.Deep.RegionWith
import Derived.Deep.RegionHeld3
namespace Go.Proofs.YtbaecbibkmdbiabDoor
open Go.RowKit
set_option linter.unusedVariables false

set_option maxHeartbeats 20000000 in
theorem fnExactAddShares_walk (w : World) (n d m r : Int) (e0 : Addr) (he : EG w e0) :
    Calls Tryd.prog 13 #[.agg #[.int .i64 n, .int .i64 d], .agg #[.int .i64 m, .int .i64 r]] w fun e w' => e = .returned (.bool true) ∧ Below w.heap.size w w' := by
  have HE := Lib.hid he
  have HB0 := Lib.hid (Below.refl w.heap.size w)
  clear he
  go_enter Tryd.func13, Tryd.ntmps13
  obtain ⟨p, q, hpq⟩ : ∃ p q, plusS n d m r = (p, q) := ⟨_, _, rfl⟩
  obtain ⟨c, hc⟩ : ∃ c, plusB n d m r = c := ⟨_, rfl⟩
  have HM := Lib.hid (And.intro hpq hc)
  clear hpq hc
  have hS0 := And.intro (Blk.two (show Blk ((w.alloc (.cells #[.int .i64 n, .int .i64 d] 38)).alloc (.cells #[.int .i64 m, .int .i64 r] 38)) (w.heap.size) 38 #[.int .i64 n, .int .i64 d] from by have hh := Blk.new w 38 #[.int .i64 n, .int .i64 d]; (try simp only [World.size_alloc] at hh); repeat (first | exact hh | with_reducible refine Blk.alloc ?_ _))) (Blk.two (show Blk ((w.alloc (.cells #[.int .i64 n, .int .i64 d] 38)).alloc (.cells #[.int .i64 m, .int .i64 r] 38)) (w.heap.size + 1) 38 #[.int .i64 m, .int .i64 r] from by have hh := Blk.new (w.alloc (.cells #[.int .i64 n, .int .i64 d] 38)) 38 #[.int .i64 m, .int .i64 r]; (try simp only [World.size_alloc] at hh); repeat (first | exact hh | with_reducible refine Blk.alloc ?_ _)))
  have hz0 := HB0.out.size
  have hN0 : Blk (((w.alloc (.cells #[.int .i64 n, .int .i64 d] 38)).alloc (.cells #[.int .i64 m, .int .i64 r] 38)).alloc (.cells #[.int .i64 0, .int .i64 0] 26)) (w.heap.size + 1 + 1) 26 #[.int .i64 0, .int .i64 0] := by have hh := Blk.new ((w.alloc (.cells #[.int .i64 n, .int .i64 d] 38)).alloc (.cells #[.int .i64 m, .int .i64 r] 38)) 26 #[.int .i64 0, .int .i64 0]; (try simp only [World.size_alloc] at hh); exact hh
  go_wp2_with fail
  go_region_held3 (fun W => (W.cell? ⟨w.heap.size, 0, none⟩ = some (.int .i64 n) ∧ W.cell? ⟨w.heap.size, 1, none⟩ = some (.int .i64 d)) ∧ (W.cell? ⟨w.heap.size + 1, 0, none⟩ = some (.int .i64 m) ∧ W.cell? ⟨w.heap.size + 1, 1, none⟩ = some (.int .i64 r))) (first | exact hS0 | exact hS1 | exact hS2 | exact hS3 | exact two_alloc2 hS0 _ | exact two_alloc2 hS1 _ | exact two_alloc2 hS2 _ | exact two_alloc2 hS3 _ | exact two_set2 hS3 (by omega) (by omega) _ _)
    ((first
      | (go_at_call_of 28 (Value.agg #[Value.int IntKind.i64 n, Value.int IntKind.i64 d]); refine (toShare_any _ n d).mono ?_; rintro e w1 ⟨rfl, hb⟩; have hs1 := hb.size; have HB1 := Lib.hid (show Below w.heap.size w w1 from bl_trans (by repeat (first | with_reducible exact HB0.out | with_reducible refine bl_drewN ?_ _ | with_reducible refine Below.drew ?_ | with_reducible refine bl_alloc ?_ _)) hb); have ba1 := Lib.hid (show Blk w1 (w.heap.size) 38 #[.int .i64 n, .int .i64 d] from Blk.below (by have hh := Blk.new w 38 #[.int .i64 n, .int .i64 d]; (try simp only [World.size_alloc] at hh); repeat (first | exact hh | with_reducible refine Blk.drewN ?_ _ | with_reducible refine Blk.drew ?_ | with_reducible refine Blk.alloc ?_ _)) hb (by first | omega | (simp; done) | (simp; omega))); have ca := ba1.out.cell; have bb1 := Lib.hid (show Blk w1 (w.heap.size + 1) 38 #[.int .i64 m, .int .i64 r] from Blk.below (by have hh := Blk.new (w.alloc (.cells #[.int .i64 n, .int .i64 d] 38)) 38 #[.int .i64 m, .int .i64 r]; (try simp only [World.size_alloc] at hh); repeat (first | exact hh | with_reducible refine Blk.drewN ?_ _ | with_reducible refine Blk.drew ?_ | with_reducible refine Blk.alloc ?_ _)) hb (by first | omega | (simp; done) | (simp; omega))); have cb := bb1.out.cell; have hS1 := And.intro (Blk.two ba1.out) (Blk.two bb1.out); have hka1 := ba1.out.lt; have hkb1 := bb1.out.lt; have hz1 := HB1.out.size; (first | (have bC := Lib.hid (show Blk w1 (w.heap.size + 1 + 1) 26 #[.int .i64 0, .int .i64 0] from Blk.below (Blk.drew hN0) hb hN0.lt)) | (have bC := Lib.hid (show Blk w1 (w.heap.size + 1 + 1) 26 #[.int .i64 0, .int .i64 0] from Blk.below hN0 hb hN0.lt)) | (have bC := Lib.hid (Blk.below (Blk.drew bC.out) hb bC.out.lt)) | (have bC := Lib.hid (Blk.below bC.out hb bC.out.lt)) | skip); (first | (have cC := bC.out.cell; have fC := bC.out.frozen) | skip); have hN1 := Blk.new w1 26 #[.int .i64 0, .int .i64 0]; clear hb)
      | (go_at_call_of 28 (Value.agg #[Value.int IntKind.i64 m, Value.int IntKind.i64 r]); refine (toShare_any _ m r).mono ?_; rintro e w2 ⟨rfl, hb⟩; have hs2 := hb.size; have HB2 := Lib.hid (show Below w.heap.size w w2 from bl_trans (by repeat (first | with_reducible exact HB1.out | with_reducible refine bl_drewN ?_ _ | with_reducible refine Below.drew ?_ | with_reducible refine bl_alloc ?_ _)) hb); have ba2 := Lib.hid (show Blk w2 (w.heap.size) 38 #[.int .i64 n, .int .i64 d] from Blk.below (by repeat (first | with_reducible exact ba1.out | with_reducible refine Blk.drewN ?_ _ | with_reducible refine Blk.drew ?_ | with_reducible refine Blk.alloc ?_ _)) hb (by have := ba1.out.lt; first | exact this | omega | (simp; omega))); have ca := ba2.out.cell; have bb2 := Lib.hid (show Blk w2 (w.heap.size + 1) 38 #[.int .i64 m, .int .i64 r] from Blk.below (by repeat (first | with_reducible exact bb1.out | with_reducible refine Blk.drewN ?_ _ | with_reducible refine Blk.drew ?_ | with_reducible refine Blk.alloc ?_ _)) hb (by have := bb1.out.lt; first | exact this | omega | (simp; omega))); have cb := bb2.out.cell; have hS2 := And.intro (Blk.two ba2.out) (Blk.two bb2.out); have hka2 := ba2.out.lt; have hkb2 := bb2.out.lt; have hz2 := HB2.out.size; (first | (have bC := Lib.hid (show Blk w2 (w1.heap.size) 26 #[.int .i64 0, .int .i64 0] from Blk.below (Blk.drew hN1) hb hN1.lt)) | (have bC := Lib.hid (show Blk w2 (w1.heap.size) 26 #[.int .i64 0, .int .i64 0] from Blk.below hN1 hb hN1.lt)) | (have bC := Lib.hid (Blk.below (Blk.drew bC.out) hb bC.out.lt)) | (have bC := Lib.hid (Blk.below bC.out hb bC.out.lt)) | skip); (first | (have cC := bC.out.cell; have fC := bC.out.frozen) | skip); have hN2 := Blk.new w2 26 #[.int .i64 0, .int .i64 0]; clear hb)
      | (go_at_call 21; refine (sAdd_is _ n d m r p q c HM.out.1 HM.out.2).mono ?_; rintro e w3 ⟨rfl, hb⟩; have hs3 := hb.size; have HB3 := Lib.hid (show Below w.heap.size w w3 from bl_trans (by repeat (first | with_reducible exact HB2.out | with_reducible refine bl_drewN ?_ _ | with_reducible refine Below.drew ?_ | with_reducible refine bl_alloc ?_ _)) hb); have ba3 := Lib.hid (show Blk w3 (w.heap.size) 38 #[.int .i64 n, .int .i64 d] from Blk.below (by repeat (first | with_reducible exact ba2.out | with_reducible refine Blk.drewN ?_ _ | with_reducible refine Blk.drew ?_ | with_reducible refine Blk.alloc ?_ _)) hb (by have := ba2.out.lt; first | exact this | omega | (simp; omega))); have ca := ba3.out.cell; have bb3 := Lib.hid (show Blk w3 (w.heap.size + 1) 38 #[.int .i64 m, .int .i64 r] from Blk.below (by repeat (first | with_reducible exact bb2.out | with_reducible refine Blk.drewN ?_ _ | with_reducible refine Blk.drew ?_ | with_reducible refine Blk.alloc ?_ _)) hb (by have := bb2.out.lt; first | exact this | omega | (simp; omega))); have cb := bb3.out.cell; have hS3 := And.intro (Blk.two ba3.out) (Blk.two bb3.out); have hka3 := ba3.out.lt; have hkb3 := bb3.out.lt; have hz3 := HB3.out.size; (first | (have bC := Lib.hid (show Blk w3 (w2.heap.size) 26 #[.int .i64 0, .int .i64 0] from Blk.below (Blk.drew hN2) hb hN2.lt)) | (have bC := Lib.hid (show Blk w3 (w2.heap.size) 26 #[.int .i64 0, .int .i64 0] from Blk.below hN2 hb hN2.lt)) | (have bC := Lib.hid (Blk.below (Blk.drew bC.out) hb bC.out.lt)) | (have bC := Lib.hid (Blk.below bC.out hb bC.out.lt)) | skip); (first | (have cC := bC.out.cell; have fC := bC.out.frozen) | skip); have hN3 := Blk.new w3 26 #[.int .i64 0, .int .i64 0]; clear hb)))
  all_goals first
    | (have bW4 := Lib.hid (show Blk ((w3.setCell ⟨w.heap.size + 1 + 1, 0, none⟩ (.int .i64 (p : Int))).setCell ⟨w.heap.size + 1 + 1, 1, none⟩ (.int .i64 (q : Int))) (w.heap.size + 1 + 1) 26 #[.int .i64 (p : Int), .int .i64 (q : Int)] from (bC.out.set_ 0 _).set_ 1 _)
       have hnea : (w.heap.size) ≠ w.heap.size + 1 + 1 := by omega
       have ba4 := Lib.hid (show Blk ((w3.setCell ⟨w.heap.size + 1 + 1, 0, none⟩ (.int .i64 (p : Int))).setCell ⟨w.heap.size + 1 + 1, 1, none⟩ (.int .i64 (q : Int))) (w.heap.size) 38 #[.int .i64 n, .int .i64 d] from (ba3.out.far hnea _).far hnea _)
       have hneb : (w.heap.size + 1) ≠ w.heap.size + 1 + 1 := by omega
       have bb4 := Lib.hid (show Blk ((w3.setCell ⟨w.heap.size + 1 + 1, 0, none⟩ (.int .i64 (p : Int))).setCell ⟨w.heap.size + 1 + 1, 1, none⟩ (.int .i64 (q : Int))) (w.heap.size + 1) 38 #[.int .i64 m, .int .i64 r] from (bb3.out.far hneb _).far hneb _)
       have HB4 := Lib.hid (show Below w.heap.size w ((w3.setCell ⟨w.heap.size + 1 + 1, 0, none⟩ (.int .i64 (p : Int))).setCell ⟨w.heap.size + 1 + 1, 1, none⟩ (.int .i64 (q : Int))) from bl_set (bl_set HB3.out (by dsimp only; omega) _) (by dsimp only; omega) _)
       clear ba3 bb3 HB3 ca cb cC fC bC
       generalize ((w3.setCell ⟨w.heap.size + 1 + 1, 0, none⟩ (.int .i64 (p : Int))).setCell ⟨w.heap.size + 1 + 1, 1, none⟩ (.int .i64 (q : Int))) = w4 at *
       generalize w.heap.size + 1 + 1 = aW at *)
    | (have bW4 := Lib.hid (show Blk ((w3.setCell ⟨w1.heap.size, 0, none⟩ (.int .i64 (p : Int))).setCell ⟨w1.heap.size, 1, none⟩ (.int .i64 (q : Int))) (w1.heap.size) 26 #[.int .i64 (p : Int), .int .i64 (q : Int)] from (bC.out.set_ 0 _).set_ 1 _)
       have hnea : (w.heap.size) ≠ w1.heap.size := by omega
       have ba4 := Lib.hid (show Blk ((w3.setCell ⟨w1.heap.size, 0, none⟩ (.int .i64 (p : Int))).setCell ⟨w1.heap.size, 1, none⟩ (.int .i64 (q : Int))) (w.heap.size) 38 #[.int .i64 n, .int .i64 d] from (ba3.out.far hnea _).far hnea _)
       have hneb : (w.heap.size + 1) ≠ w1.heap.size := by omega
       have bb4 := Lib.hid (show Blk ((w3.setCell ⟨w1.heap.size, 0, none⟩ (.int .i64 (p : Int))).setCell ⟨w1.heap.size, 1, none⟩ (.int .i64 (q : Int))) (w.heap.size + 1) 38 #[.int .i64 m, .int .i64 r] from (bb3.out.far hneb _).far hneb _)
       have HB4 := Lib.hid (show Below w.heap.size w ((w3.setCell ⟨w1.heap.size, 0, none⟩ (.int .i64 (p : Int))).setCell ⟨w1.heap.size, 1, none⟩ (.int .i64 (q : Int))) from bl_set (bl_set HB3.out (by dsimp only; omega) _) (by dsimp only; omega) _)
       clear ba3 bb3 HB3 ca cb cC fC bC
       generalize ((w3.setCell ⟨w1.heap.size, 0, none⟩ (.int .i64 (p : Int))).setCell ⟨w1.heap.size, 1, none⟩ (.int .i64 (q : Int))) = w4 at *
       generalize w1.heap.size = aW at *)
    | (have bW4 := Lib.hid (show Blk ((w3.setCell ⟨w2.heap.size, 0, none⟩ (.int .i64 (p : Int))).setCell ⟨w2.heap.size, 1, none⟩ (.int .i64 (q : Int))) (w2.heap.size) 26 #[.int .i64 (p : Int), .int .i64 (q : Int)] from (bC.out.set_ 0 _).set_ 1 _)
       have hnea : (w.heap.size) ≠ w2.heap.size := by omega
       have ba4 := Lib.hid (show Blk ((w3.setCell ⟨w2.heap.size, 0, none⟩ (.int .i64 (p : Int))).setCell ⟨w2.heap.size, 1, none⟩ (.int .i64 (q : Int))) (w.heap.size) 38 #[.int .i64 n, .int .i64 d] from (ba3.out.far hnea _).far hnea _)
       have hneb : (w.heap.size + 1) ≠ w2.heap.size := by omega
       have bb4 := Lib.hid (show Blk ((w3.setCell ⟨w2.heap.size, 0, none⟩ (.int .i64 (p : Int))).setCell ⟨w2.heap.size, 1, none⟩ (.int .i64 (q : Int))) (w.heap.size + 1) 38 #[.int .i64 m, .int .i64 r] from (bb3.out.far hneb _).far hneb _)
       have HB4 := Lib.hid (show Below w.heap.size w ((w3.setCell ⟨w2.heap.size, 0, none⟩ (.int .i64 (p : Int))).setCell ⟨w2.heap.size, 1, none⟩ (.int .i64 (q : Int))) from bl_set (bl_set HB3.out (by dsimp only; omega) _) (by dsimp only; omega) _)
       clear ba3 bb3 HB3 ca cb cC fC bC
       generalize ((w3.setCell ⟨w2.heap.size, 0, none⟩ (.int .i64 (p : Int))).setCell ⟨w2.heap.size, 1, none⟩ (.int .i64 (q : Int))) = w4 at *
       generalize w2.heap.size = aW at *)
    | (have bW4 := Lib.hid (show Blk (w3.alloc (.cells #[.int .i64 (p : Int), .int .i64 (q : Int)] 26)) (w3.heap.size) 26 #[.int .i64 (p : Int), .int .i64 (q : Int)] from Blk.new w3 26 _)
       have ba4 := Lib.hid (show Blk (w3.alloc (.cells #[.int .i64 (p : Int), .int .i64 (q : Int)] 26)) (w.heap.size) 38 #[.int .i64 n, .int .i64 d] from ba3.out.alloc _)
       have bb4 := Lib.hid (show Blk (w3.alloc (.cells #[.int .i64 (p : Int), .int .i64 (q : Int)] 26)) (w.heap.size + 1) 38 #[.int .i64 m, .int .i64 r] from bb3.out.alloc _)
       have HB4 := Lib.hid (show Below w.heap.size w (w3.alloc (.cells #[.int .i64 (p : Int), .int .i64 (q : Int)] 26)) from bl_alloc HB3.out _)
       clear ba3 bb3 HB3 ca cb
       generalize (w3.alloc (.cells #[.int .i64 (p : Int), .int .i64 (q : Int)] 26)) = w4 at *
       generalize w3.heap.size = aW at *)
  all_goals have hka4 := ba4.out.lt
  all_goals have hkb4 := bb4.out.lt
  all_goals have hkW4 := bW4.out.lt
  all_goals
    (skip
     have ca := ba4.out.cell
     have cb := bb4.out.cell
     have cW := bW4.out.cell
     have hS4 := And.intro (Blk.two (show Blk w4 (w.heap.size) 38 #[.int .i64 n, .int .i64 d] from by repeat (first | with_reducible exact ba4.out | with_reducible refine Blk.alloc ?_ _))) (Blk.two (show Blk w4 (w.heap.size + 1) 38 #[.int .i64 m, .int .i64 r] from by repeat (first | with_reducible exact bb4.out | with_reducible refine Blk.alloc ?_ _)))
     have hka4 := ba4.out.lt
     have hkb4 := bb4.out.lt
     have hkW4 := bW4.out.lt
     have hz4 := HB4.out.size
     have hN4 : Blk (w4.alloc (.cells #[.int .i64 0, .int .i64 0] 26)) (w4.heap.size) 26 #[.int .i64 0, .int .i64 0] := by have hh := Blk.new w4 26 #[.int .i64 0, .int .i64 0]; (try simp only [World.size_alloc] at hh); exact hh
     go_wp2_with fail
     go_region_held3 (fun W => (W.cell? ⟨w.heap.size, 0, none⟩ = some (.int .i64 n) ∧ W.cell? ⟨w.heap.size, 1, none⟩ = some (.int .i64 d)) ∧ (W.cell? ⟨w.heap.size + 1, 0, none⟩ = some (.int .i64 m) ∧ W.cell? ⟨w.heap.size + 1, 1, none⟩ = some (.int .i64 r))) (first | exact hS4 | exact hS5 | exact hS6 | exact hS7 | exact two_alloc2 hS4 _ | exact two_alloc2 hS5 _ | exact two_alloc2 hS6 _ | exact two_alloc2 hS7 _ | exact two_set2 hS7 (by omega) (by omega) _ _)
       ((first
         | (go_at_call_of 28 (Value.agg #[Value.int IntKind.i64 n, Value.int IntKind.i64 d]); refine (toShare_any _ n d).mono ?_; rintro e w5 ⟨rfl, hb⟩; have hs5 := hb.size; have HB5 := Lib.hid (show Below w.heap.size w w5 from bl_trans (by repeat (first | with_reducible exact HB4.out | with_reducible refine bl_drewN ?_ _ | with_reducible refine Below.drew ?_ | with_reducible refine bl_alloc ?_ _)) hb); have ba5 := Lib.hid (show Blk w5 (w.heap.size) 38 #[.int .i64 n, .int .i64 d] from Blk.below (by repeat (first | with_reducible exact ba4.out | with_reducible refine Blk.drewN ?_ _ | with_reducible refine Blk.drew ?_ | with_reducible refine Blk.alloc ?_ _)) hb (by have := ba4.out.lt; first | exact this | omega | (simp; omega))); have ca := ba5.out.cell; have bb5 := Lib.hid (show Blk w5 (w.heap.size + 1) 38 #[.int .i64 m, .int .i64 r] from Blk.below (by repeat (first | with_reducible exact bb4.out | with_reducible refine Blk.drewN ?_ _ | with_reducible refine Blk.drew ?_ | with_reducible refine Blk.alloc ?_ _)) hb (by have := bb4.out.lt; first | exact this | omega | (simp; omega))); have cb := bb5.out.cell; have bW5 := Lib.hid (show Blk w5 aW 26 #[.int .i64 (p : Int), .int .i64 (q : Int)] from Blk.below (by repeat (first | with_reducible exact bW4.out | with_reducible refine Blk.drewN ?_ _ | with_reducible refine Blk.drew ?_ | with_reducible refine Blk.alloc ?_ _)) hb (by have := bW4.out.lt; first | exact this | omega | (simp; omega))); have cW := bW5.out.cell; have hS5 := And.intro (Blk.two ba5.out) (Blk.two bb5.out); have hka5 := ba5.out.lt; have hkb5 := bb5.out.lt; have hkW5 := bW5.out.lt; have hz5 := HB5.out.size; (first | (have bC := Lib.hid (show Blk w5 (w4.heap.size) 26 #[.int .i64 0, .int .i64 0] from Blk.below (Blk.drew hN4) hb hN4.lt)) | (have bC := Lib.hid (show Blk w5 (w4.heap.size) 26 #[.int .i64 0, .int .i64 0] from Blk.below hN4 hb hN4.lt)) | (have bC := Lib.hid (Blk.below (Blk.drew bC.out) hb bC.out.lt)) | (have bC := Lib.hid (Blk.below bC.out hb bC.out.lt)) | skip); (first | (have cC := bC.out.cell; have fC := bC.out.frozen) | skip); have hN5 := Blk.new w5 26 #[.int .i64 0, .int .i64 0]; clear hb)
         | (go_at_call_of 28 (Value.agg #[Value.int IntKind.i64 m, Value.int IntKind.i64 r]); refine (toShare_any _ m r).mono ?_; rintro e w6 ⟨rfl, hb⟩; have hs6 := hb.size; have HB6 := Lib.hid (show Below w.heap.size w w6 from bl_trans (by repeat (first | with_reducible exact HB5.out | with_reducible refine bl_drewN ?_ _ | with_reducible refine Below.drew ?_ | with_reducible refine bl_alloc ?_ _)) hb); have ba6 := Lib.hid (show Blk w6 (w.heap.size) 38 #[.int .i64 n, .int .i64 d] from Blk.below (by repeat (first | with_reducible exact ba5.out | with_reducible refine Blk.drewN ?_ _ | with_reducible refine Blk.drew ?_ | with_reducible refine Blk.alloc ?_ _)) hb (by have := ba5.out.lt; first | exact this | omega | (simp; omega))); have ca := ba6.out.cell; have bb6 := Lib.hid (show Blk w6 (w.heap.size + 1) 38 #[.int .i64 m, .int .i64 r] from Blk.below (by repeat (first | with_reducible exact bb5.out | with_reducible refine Blk.drewN ?_ _ | with_reducible refine Blk.drew ?_ | with_reducible refine Blk.alloc ?_ _)) hb (by have := bb5.out.lt; first | exact this | omega | (simp; omega))); have cb := bb6.out.cell; have bW6 := Lib.hid (show Blk w6 aW 26 #[.int .i64 (p : Int), .int .i64 (q : Int)] from Blk.below (by repeat (first | with_reducible exact bW5.out | with_reducible refine Blk.drewN ?_ _ | with_reducible refine Blk.drew ?_ | with_reducible refine Blk.alloc ?_ _)) hb (by have := bW5.out.lt; first | exact this | omega | (simp; omega))); have cW := bW6.out.cell; have hS6 := And.intro (Blk.two ba6.out) (Blk.two bb6.out); have hka6 := ba6.out.lt; have hkb6 := bb6.out.lt; have hkW6 := bW6.out.lt; have hz6 := HB6.out.size; (first | (have bC := Lib.hid (show Blk w6 (w5.heap.size) 26 #[.int .i64 0, .int .i64 0] from Blk.below (Blk.drew hN5) hb hN5.lt)) | (have bC := Lib.hid (show Blk w6 (w5.heap.size) 26 #[.int .i64 0, .int .i64 0] from Blk.below hN5 hb hN5.lt)) | (have bC := Lib.hid (Blk.below (Blk.drew bC.out) hb bC.out.lt)) | (have bC := Lib.hid (Blk.below bC.out hb bC.out.lt)) | skip); (first | (have cC := bC.out.cell; have fC := bC.out.frozen) | skip); have hN6 := Blk.new w6 26 #[.int .i64 0, .int .i64 0]; clear hb)
         | (go_at_call 20; refine (iAdd_is _ e0 (by repeat (first | exact HE.out.below HB6.out | refine EG.drewN ?_ _ | refine EG.drew ?_ | refine EG.alloc ?_ _)) n d m r p q c HM.out.1 HM.out.2).mono ?_; rintro e w7 ⟨rfl, hb⟩; have hs7 := hb.size; have HB7 := Lib.hid (show Below w.heap.size w w7 from bl_trans (by repeat (first | with_reducible exact HB6.out | with_reducible refine bl_drewN ?_ _ | with_reducible refine Below.drew ?_ | with_reducible refine bl_alloc ?_ _)) hb); have ba7 := Lib.hid (show Blk w7 (w.heap.size) 38 #[.int .i64 n, .int .i64 d] from Blk.below (by repeat (first | with_reducible exact ba6.out | with_reducible refine Blk.drewN ?_ _ | with_reducible refine Blk.drew ?_ | with_reducible refine Blk.alloc ?_ _)) hb (by have := ba6.out.lt; first | exact this | omega | (simp; omega))); have ca := ba7.out.cell; have bb7 := Lib.hid (show Blk w7 (w.heap.size + 1) 38 #[.int .i64 m, .int .i64 r] from Blk.below (by repeat (first | with_reducible exact bb6.out | with_reducible refine Blk.drewN ?_ _ | with_reducible refine Blk.drew ?_ | with_reducible refine Blk.alloc ?_ _)) hb (by have := bb6.out.lt; first | exact this | omega | (simp; omega))); have cb := bb7.out.cell; have bW7 := Lib.hid (show Blk w7 aW 26 #[.int .i64 (p : Int), .int .i64 (q : Int)] from Blk.below (by repeat (first | with_reducible exact bW6.out | with_reducible refine Blk.drewN ?_ _ | with_reducible refine Blk.drew ?_ | with_reducible refine Blk.alloc ?_ _)) hb (by have := bW6.out.lt; first | exact this | omega | (simp; omega))); have cW := bW7.out.cell; have hS7 := And.intro (Blk.two ba7.out) (Blk.two bb7.out); have hka7 := ba7.out.lt; have hkb7 := bb7.out.lt; have hkW7 := bW7.out.lt; have hz7 := HB7.out.size; (first | (have bC := Lib.hid (show Blk w7 (w6.heap.size) 26 #[.int .i64 0, .int .i64 0] from Blk.below (Blk.drew hN6) hb hN6.lt)) | (have bC := Lib.hid (show Blk w7 (w6.heap.size) 26 #[.int .i64 0, .int .i64 0] from Blk.below hN6 hb hN6.lt)) | (have bC := Lib.hid (Blk.below (Blk.drew bC.out) hb bC.out.lt)) | (have bC := Lib.hid (Blk.below bC.out hb bC.out.lt)) | skip); (first | (have cC := bC.out.cell; have fC := bC.out.frozen) | skip); have hN7 := Blk.new w7 26 #[.int .i64 0, .int .i64 0]; clear hb)))
     all_goals first
       | (have bG8 := Lib.hid (show Blk ((w7.setCell ⟨w4.heap.size, 0, none⟩ (.int .i64 (p : Int))).setCell ⟨w4.heap.size, 1, none⟩ (.int .i64 (q : Int))) (w4.heap.size) 26 #[.int .i64 (p : Int), .int .i64 (q : Int)] from (bC.out.set_ 0 _).set_ 1 _)
          have hnea : (w.heap.size) ≠ w4.heap.size := by omega
          have ba8 := Lib.hid (show Blk ((w7.setCell ⟨w4.heap.size, 0, none⟩ (.int .i64 (p : Int))).setCell ⟨w4.heap.size, 1, none⟩ (.int .i64 (q : Int))) (w.heap.size) 38 #[.int .i64 n, .int .i64 d] from (ba7.out.far hnea _).far hnea _)
          have hneb : (w.heap.size + 1) ≠ w4.heap.size := by omega
          have bb8 := Lib.hid (show Blk ((w7.setCell ⟨w4.heap.size, 0, none⟩ (.int .i64 (p : Int))).setCell ⟨w4.heap.size, 1, none⟩ (.int .i64 (q : Int))) (w.heap.size + 1) 38 #[.int .i64 m, .int .i64 r] from (bb7.out.far hneb _).far hneb _)
          have hneW : aW ≠ w4.heap.size := by omega
          have bW8 := Lib.hid (show Blk ((w7.setCell ⟨w4.heap.size, 0, none⟩ (.int .i64 (p : Int))).setCell ⟨w4.heap.size, 1, none⟩ (.int .i64 (q : Int))) aW 26 #[.int .i64 (p : Int), .int .i64 (q : Int)] from (bW7.out.far hneW _).far hneW _)
          have HB8 := Lib.hid (show Below w.heap.size w ((w7.setCell ⟨w4.heap.size, 0, none⟩ (.int .i64 (p : Int))).setCell ⟨w4.heap.size, 1, none⟩ (.int .i64 (q : Int))) from bl_set (bl_set HB7.out (by dsimp only; omega) _) (by dsimp only; omega) _)
          clear ba7 bb7 bW7 HB7 ca cb cW cC fC bC
          generalize ((w7.setCell ⟨w4.heap.size, 0, none⟩ (.int .i64 (p : Int))).setCell ⟨w4.heap.size, 1, none⟩ (.int .i64 (q : Int))) = w8 at *
          generalize w4.heap.size = aG at *)
       | (have bG8 := Lib.hid (show Blk ((w7.setCell ⟨w5.heap.size, 0, none⟩ (.int .i64 (p : Int))).setCell ⟨w5.heap.size, 1, none⟩ (.int .i64 (q : Int))) (w5.heap.size) 26 #[.int .i64 (p : Int), .int .i64 (q : Int)] from (bC.out.set_ 0 _).set_ 1 _)
          have hnea : (w.heap.size) ≠ w5.heap.size := by omega
          have ba8 := Lib.hid (show Blk ((w7.setCell ⟨w5.heap.size, 0, none⟩ (.int .i64 (p : Int))).setCell ⟨w5.heap.size, 1, none⟩ (.int .i64 (q : Int))) (w.heap.size) 38 #[.int .i64 n, .int .i64 d] from (ba7.out.far hnea _).far hnea _)
          have hneb : (w.heap.size + 1) ≠ w5.heap.size := by omega
          have bb8 := Lib.hid (show Blk ((w7.setCell ⟨w5.heap.size, 0, none⟩ (.int .i64 (p : Int))).setCell ⟨w5.heap.size, 1, none⟩ (.int .i64 (q : Int))) (w.heap.size + 1) 38 #[.int .i64 m, .int .i64 r] from (bb7.out.far hneb _).far hneb _)
          have hneW : aW ≠ w5.heap.size := by omega
          have bW8 := Lib.hid (show Blk ((w7.setCell ⟨w5.heap.size, 0, none⟩ (.int .i64 (p : Int))).setCell ⟨w5.heap.size, 1, none⟩ (.int .i64 (q : Int))) aW 26 #[.int .i64 (p : Int), .int .i64 (q : Int)] from (bW7.out.far hneW _).far hneW _)
          have HB8 := Lib.hid (show Below w.heap.size w ((w7.setCell ⟨w5.heap.size, 0, none⟩ (.int .i64 (p : Int))).setCell ⟨w5.heap.size, 1, none⟩ (.int .i64 (q : Int))) from bl_set (bl_set HB7.out (by dsimp only; omega) _) (by dsimp only; omega) _)
          clear ba7 bb7 bW7 HB7 ca cb cW cC fC bC
          generalize ((w7.setCell ⟨w5.heap.size, 0, none⟩ (.int .i64 (p : Int))).setCell ⟨w5.heap.size, 1, none⟩ (.int .i64 (q : Int))) = w8 at *
          generalize w5.heap.size = aG at *)
       | (have bG8 := Lib.hid (show Blk ((w7.setCell ⟨w6.heap.size, 0, none⟩ (.int .i64 (p : Int))).setCell ⟨w6.heap.size, 1, none⟩ (.int .i64 (q : Int))) (w6.heap.size) 26 #[.int .i64 (p : Int), .int .i64 (q : Int)] from (bC.out.set_ 0 _).set_ 1 _)
          have hnea : (w.heap.size) ≠ w6.heap.size := by omega
          have ba8 := Lib.hid (show Blk ((w7.setCell ⟨w6.heap.size, 0, none⟩ (.int .i64 (p : Int))).setCell ⟨w6.heap.size, 1, none⟩ (.int .i64 (q : Int))) (w.heap.size) 38 #[.int .i64 n, .int .i64 d] from (ba7.out.far hnea _).far hnea _)
          have hneb : (w.heap.size + 1) ≠ w6.heap.size := by omega
          have bb8 := Lib.hid (show Blk ((w7.setCell ⟨w6.heap.size, 0, none⟩ (.int .i64 (p : Int))).setCell ⟨w6.heap.size, 1, none⟩ (.int .i64 (q : Int))) (w.heap.size + 1) 38 #[.int .i64 m, .int .i64 r] from (bb7.out.far hneb _).far hneb _)
          have hneW : aW ≠ w6.heap.size := by omega
          have bW8 := Lib.hid (show Blk ((w7.setCell ⟨w6.heap.size, 0, none⟩ (.int .i64 (p : Int))).setCell ⟨w6.heap.size, 1, none⟩ (.int .i64 (q : Int))) aW 26 #[.int .i64 (p : Int), .int .i64 (q : Int)] from (bW7.out.far hneW _).far hneW _)
          have HB8 := Lib.hid (show Below w.heap.size w ((w7.setCell ⟨w6.heap.size, 0, none⟩ (.int .i64 (p : Int))).setCell ⟨w6.heap.size, 1, none⟩ (.int .i64 (q : Int))) from bl_set (bl_set HB7.out (by dsimp only; omega) _) (by dsimp only; omega) _)
          clear ba7 bb7 bW7 HB7 ca cb cW cC fC bC
          generalize ((w7.setCell ⟨w6.heap.size, 0, none⟩ (.int .i64 (p : Int))).setCell ⟨w6.heap.size, 1, none⟩ (.int .i64 (q : Int))) = w8 at *
          generalize w6.heap.size = aG at *)
       | (have bG8 := Lib.hid (show Blk (w7.alloc (.cells #[.int .i64 (p : Int), .int .i64 (q : Int)] 26)) (w7.heap.size) 26 #[.int .i64 (p : Int), .int .i64 (q : Int)] from Blk.new w7 26 _)
          have ba8 := Lib.hid (show Blk (w7.alloc (.cells #[.int .i64 (p : Int), .int .i64 (q : Int)] 26)) (w.heap.size) 38 #[.int .i64 n, .int .i64 d] from ba7.out.alloc _)
          have bb8 := Lib.hid (show Blk (w7.alloc (.cells #[.int .i64 (p : Int), .int .i64 (q : Int)] 26)) (w.heap.size + 1) 38 #[.int .i64 m, .int .i64 r] from bb7.out.alloc _)
          have bW8 := Lib.hid (show Blk (w7.alloc (.cells #[.int .i64 (p : Int), .int .i64 (q : Int)] 26)) aW 26 #[.int .i64 (p : Int), .int .i64 (q : Int)] from bW7.out.alloc _)
          have HB8 := Lib.hid (show Below w.heap.size w (w7.alloc (.cells #[.int .i64 (p : Int), .int .i64 (q : Int)] 26)) from bl_alloc HB7.out _)
          clear ba7 bb7 bW7 HB7 ca cb cW
          generalize (w7.alloc (.cells #[.int .i64 (p : Int), .int .i64 (q : Int)] 26)) = w8 at *
          generalize w7.heap.size = aG at *)
     all_goals have hka8 := ba8.out.lt
     all_goals have hkb8 := bb8.out.lt
     all_goals have hkW8 := bW8.out.lt
     all_goals have hkG8 := bG8.out.lt
     all_goals
       (skip
        have ca := ba8.out.cell
        have cb := bb8.out.cell
        have cW := bW8.out.cell
        have cG := bG8.out.cell
        go_wp2_with fail
        (try (go_quiet (fail); go_wp2_with fail))
        refine (eqShare_any _ p q).mono ?_
        rintro e w9 ⟨rfl, hb⟩
        have hs9 := hb.size
        have HB9 := Lib.hid (show Below w.heap.size w w9 from bl_trans (by repeat (first | with_reducible exact HB8.out | with_reducible refine bl_drewN ?_ _ | with_reducible refine Below.drew ?_ | with_reducible refine bl_alloc ?_ _)) hb)
        have ba9 := Lib.hid (show Blk w9 (w.heap.size) 38 #[.int .i64 n, .int .i64 d] from Blk.below (by repeat (first | with_reducible exact ba8.out | with_reducible refine Blk.drewN ?_ _ | with_reducible refine Blk.drew ?_ | with_reducible refine Blk.alloc ?_ _)) hb (by have := ba8.out.lt; first | omega | (simp; omega)))
        have bb9 := Lib.hid (show Blk w9 (w.heap.size + 1) 38 #[.int .i64 m, .int .i64 r] from Blk.below (by repeat (first | with_reducible exact bb8.out | with_reducible refine Blk.drewN ?_ _ | with_reducible refine Blk.drew ?_ | with_reducible refine Blk.alloc ?_ _)) hb (by have := bb8.out.lt; first | omega | (simp; omega)))
        have bW9 := Lib.hid (show Blk w9 aW 26 #[.int .i64 (p : Int), .int .i64 (q : Int)] from Blk.below (by repeat (first | with_reducible exact bW8.out | with_reducible refine Blk.drewN ?_ _ | with_reducible refine Blk.drew ?_ | with_reducible refine Blk.alloc ?_ _)) hb (by have := bW8.out.lt; first | omega | (simp; omega)))
        have bG9 := Lib.hid (show Blk w9 aG 26 #[.int .i64 (p : Int), .int .i64 (q : Int)] from Blk.below (by repeat (first | with_reducible exact bG8.out | with_reducible refine Blk.drewN ?_ _ | with_reducible refine Blk.drew ?_ | with_reducible refine Blk.alloc ?_ _)) hb (by have := bG8.out.lt; first | omega | (simp; omega)))
        clear hb HB8 ba8 bb8 bW8 bG8 ca cb cW cG
        cases c
        · skip
          have ca := ba9.out.cell
          have cb := bb9.out.cell
          have cW := bW9.out.cell
          have cG := bG9.out.cell
          go_wp2
          (try (go_quiet (fail); go_wp2))
          go_ret
          exact ⟨rfl, by repeat (first | with_reducible exact HB9.out | refine bl_drewN ?_ _ | refine Below.drew ?_ | refine bl_alloc ?_ _ | refine bl_set ?_ (by dsimp only; omega) _)⟩
        · skip
          have ca := ba9.out.cell
          have cb := bb9.out.cell
          have cW := bW9.out.cell
          have cG := bG9.out.cell
          go_wp2
          (try (go_quiet (fail); go_wp2))
          go_ret
          exact ⟨rfl, by repeat (first | with_reducible exact HB9.out | refine bl_drewN ?_ _ | refine Below.drew ?_ | refine bl_alloc ?_ _ | refine bl_set ?_ (by dsimp only; omega) _)⟩))

end Go.Proofs.YtbaecbibkmdbiabDoor
