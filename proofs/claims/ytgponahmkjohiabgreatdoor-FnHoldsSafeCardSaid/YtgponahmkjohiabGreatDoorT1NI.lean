import Derived.Deep.RegionWith
import Derived.Deep.RegionHeld3
import Derived.Test.YtgponahmkjohiabGreatDoorT1NB
namespace Go.Proofs.YtgponahmkjohiabGreatDoor
section
open Go.RowKit
set_option linter.unusedVariables false
set_option maxRecDepth 100000 in
set_option maxHeartbeats 6000000 in
/-- The load in the low mode: the sum of both low shares. -/
theorem ofLow_is (w0 : World) (A : Option Addr) (n c : Nat) (ts : List Tk) (h : Tks w0 w0.heap.size A n ts) (hn : n ≤ 1048576) (e0 : Addr) (he : EG w0 e0) (p q u v x y : Nat) (hp : lowOf ts false = (p, q)) (hu : lowOf ts true = (u, v)) (h1 : plusS p q u v = (x, y)) (h2 : plusB p q u v = true) :
    Calls Tryz.prog 132 #[.int .i64 0, .slice A n c] w0 (ShRes x y w0) := by
  have HTt := Lib.hid h
  have HL := Lib.hid h.len
  have HE := Lib.hid he
  have HB0 := Lib.hid (Below.refl w0.heap.size w0)
  have HDt0 := Lib.hid (Below.refl w0.heap.size w0)
  clear h he
  have HP := Lib.hid hp
  have HU := Lib.hid hu
  have HA := Lib.hid (And.intro h1 h2)
  clear hp hu h1 h2
  go_enter Tryz.func132, Tryz.ntmps132
  go_wp2_with fail
  (try (go_quiet (fail); go_wp2_with fail))
  refine (iLow_is _ A n c ts false ((HTt.out.below (by repeat (first | with_reducible exact HDt0.out | with_reducible refine Below.drew ?_ | with_reducible refine bl_drewN ?_ _ | with_reducible refine bl_alloc ?_ _) : Below w0.heap.size w0 _)).more (Below.size (by repeat (first | with_reducible exact HDt0.out | with_reducible refine Below.drew ?_ | with_reducible refine bl_drewN ?_ _ | with_reducible refine bl_alloc ?_ _) : Below w0.heap.size w0 _))) (by omega) e0 (by repeat (first | exact HE.out.below HB0.out | refine EG.drewN ?_ _ | refine EG.drew ?_ | refine EG.alloc ?_ _)) p q HP.out).mono ?_
  rintro e w1 ⟨rfl, hb⟩
  have hs1 := hb.size
  have HB1 := Lib.hid (show Below w0.heap.size w0 w1 from bl_trans (by repeat (first | with_reducible exact HB0.out | with_reducible refine bl_drewN ?_ _ | with_reducible refine Below.drew ?_ | with_reducible refine bl_alloc ?_ _)) hb)
  have br1 := Lib.hid (show Blk w1 (w0.heap.size) 87 #[.int .i64 0, .int .i64 0] from Blk.below (by have hh := Blk.new w0 87 #[.int .i64 0, .int .i64 0]; (try simp only [World.size_alloc] at hh); repeat (first | exact hh | with_reducible refine Blk.drewN ?_ _ | with_reducible refine Blk.drew ?_ | with_reducible refine Blk.alloc ?_ _)) hb (by first | omega | (simp; done) | (simp; omega)))
  have bs1 := Lib.hid (show Blk w1 (w0.heap.size + 1) 87 #[.int .i64 0, .int .i64 1] from Blk.below (by have hh := Blk.new (w0.alloc (.cells #[.int .i64 0, .int .i64 0] 87)) 87 #[.int .i64 0, .int .i64 1]; (try simp only [World.size_alloc] at hh); repeat (first | exact hh | with_reducible refine Blk.drewN ?_ _ | with_reducible refine Blk.drew ?_ | with_reducible refine Blk.alloc ?_ _)) hb (by first | omega | (simp; done) | (simp; omega)))
  have HDt1 := Lib.hid (show Below w0.heap.size w0 w1 from bl_trans (by repeat (first | with_reducible exact HDt0.out | with_reducible refine Below.drew ?_ | with_reducible refine bl_drewN ?_ _ | with_reducible refine bl_alloc ?_ _)) hb)
  clear hb HB0 HDt0
  have cr := br1.out.cell
  have cs := bs1.out.cell
  go_wp2_with fail
  (try (go_quiet (fail); go_wp2_with fail))
  refine (iLow_is _ A n c ts true ((HTt.out.below (by repeat (first | with_reducible exact HDt1.out | with_reducible refine Below.drew ?_ | with_reducible refine bl_drewN ?_ _ | with_reducible refine bl_alloc ?_ _) : Below w0.heap.size w0 _)).more (Below.size (by repeat (first | with_reducible exact HDt1.out | with_reducible refine Below.drew ?_ | with_reducible refine bl_drewN ?_ _ | with_reducible refine bl_alloc ?_ _) : Below w0.heap.size w0 _))) (by omega) e0 (by repeat (first | exact HE.out.below HB1.out | refine EG.drewN ?_ _ | refine EG.drew ?_ | refine EG.alloc ?_ _)) u v HU.out).mono ?_
  rintro e w2 ⟨rfl, hb⟩
  have hs2 := hb.size
  have HB2 := Lib.hid (show Below w0.heap.size w0 w2 from bl_trans (by repeat (first | with_reducible exact HB1.out | with_reducible refine bl_drewN ?_ _ | with_reducible refine Below.drew ?_ | with_reducible refine bl_alloc ?_ _)) hb)
  have br2 := Lib.hid (show Blk w2 (w0.heap.size) 87 #[.int .i64 0, .int .i64 0] from Blk.below (by repeat (first | with_reducible exact br1.out | with_reducible refine Blk.drewN ?_ _ | with_reducible refine Blk.drew ?_ | with_reducible refine Blk.alloc ?_ _)) hb (by have := br1.out.lt; first | omega | (simp; omega)))
  have bs2 := Lib.hid (show Blk w2 (w0.heap.size + 1) 87 #[.int .i64 0, .int .i64 1] from Blk.below (by repeat (first | with_reducible exact bs1.out | with_reducible refine Blk.drewN ?_ _ | with_reducible refine Blk.drew ?_ | with_reducible refine Blk.alloc ?_ _)) hb (by have := bs1.out.lt; first | omega | (simp; omega)))
  have HDt2 := Lib.hid (show Below w0.heap.size w0 w2 from bl_trans (by repeat (first | with_reducible exact HDt1.out | with_reducible refine Below.drew ?_ | with_reducible refine bl_drewN ?_ _ | with_reducible refine bl_alloc ?_ _)) hb)
  clear hb HB1 br1 bs1 cr cs HDt1
  have cr := br2.out.cell
  have cs := bs2.out.cell
  go_wp2_with fail
  (try (go_quiet (fail); go_wp2_with fail))
  refine (plus2_is _ e0 (by repeat (first | exact HE.out.below HB2.out | refine EG.drewN ?_ _ | refine EG.drew ?_ | refine EG.alloc ?_ _)) p q u v x y HA.out.1 HA.out.2).mono ?_
  rintro e w3 ⟨rfl, hb⟩
  have hs3 := hb.size
  have HB3 := Lib.hid (show Below w0.heap.size w0 w3 from bl_trans (by repeat (first | with_reducible exact HB2.out | with_reducible refine bl_drewN ?_ _ | with_reducible refine Below.drew ?_ | with_reducible refine bl_alloc ?_ _)) hb)
  have br3 := Lib.hid (show Blk w3 (w0.heap.size) 87 #[.int .i64 0, .int .i64 0] from Blk.below (by repeat (first | with_reducible exact br2.out | with_reducible refine Blk.drewN ?_ _ | with_reducible refine Blk.drew ?_ | with_reducible refine Blk.alloc ?_ _)) hb (by have := br2.out.lt; first | omega | (simp; omega)))
  have bs3 := Lib.hid (show Blk w3 (w0.heap.size + 1) 87 #[.int .i64 0, .int .i64 1] from Blk.below (by repeat (first | with_reducible exact bs2.out | with_reducible refine Blk.drewN ?_ _ | with_reducible refine Blk.drew ?_ | with_reducible refine Blk.alloc ?_ _)) hb (by have := bs2.out.lt; first | omega | (simp; omega)))
  have HDt3 := Lib.hid (show Below w0.heap.size w0 w3 from bl_trans (by repeat (first | with_reducible exact HDt2.out | with_reducible refine Below.drew ?_ | with_reducible refine bl_drewN ?_ _ | with_reducible refine bl_alloc ?_ _)) hb)
  clear hb HB2 br2 bs2 cr cs HDt2
  have hkr3 := br3.out.lt
  have hks3 := bs3.out.lt
  have fS := bs3.out.frozen
  have cS := bs3.out.cell
  have hne : w0.heap.size ≠ w0.heap.size + 1 := by omega
  have cS2 := ((bs3.out.set_ 0 (.int .i64 (x : Int))).set_ 1 (.int .i64 (y : Int))).cell
  have bRR := (br3.out.far (p := ⟨w0.heap.size + 1, 0, none⟩) hne (.int .i64 (x : Int))).far (p := ⟨w0.heap.size + 1, 1, none⟩) hne (.int .i64 (y : Int))
  have cR := bRR.cell
  have fR := bRR.frozen
  have cF := fun (s t : Value) => ((bRR.set_ 0 s).set_ 1 t).cell
  clear bRR
  go_wp2
  (try (go_quiet (fail); go_wp2))
  refine bodyPost_ret (v := .agg #[.int .i64 (x : Int), .int .i64 (y : Int)]) (by simp [results, Tryz.results132, go_sem, cF]) rfl ⟨rfl, (by repeat (first | with_reducible exact HB3.out | refine bl_drewN ?_ _ | refine Below.drew ?_ | refine bl_alloc ?_ _ | refine bl_set ?_ (by dsimp only; omega) _))⟩
set_option maxRecDepth 100000 in
set_option maxHeartbeats 6000000 in
/-- The plain load: the low share of the tasks that are not critical and the high share. -/
theorem ofPlain_is (w0 : World) (A : Option Addr) (n c : Nat) (ts : List Tk) (h : Tks w0 w0.heap.size A n ts) (hn : n ≤ 1048576) (e0 : Addr) (he : EG w0 e0) (p q s t x y : Nat) (hp : lowOf ts false = (p, q)) (hs : highOf ts = (s, t)) (h1 : plusS p q s t = (x, y)) (h2 : plusB p q s t = true) :
    Calls Tryz.prog 132 #[.int .i64 1, .slice A n c] w0 (ShRes x y w0) := by
  have HTt := Lib.hid h
  have HL := Lib.hid h.len
  have HE := Lib.hid he
  have HB0 := Lib.hid (Below.refl w0.heap.size w0)
  have HDt0 := Lib.hid (Below.refl w0.heap.size w0)
  clear h he
  have HP := Lib.hid hp
  have HH := Lib.hid hs
  have HA := Lib.hid (And.intro h1 h2)
  clear hp hs h1 h2
  go_enter Tryz.func132, Tryz.ntmps132
  go_wp2_with fail
  (try (go_quiet (fail); go_wp2_with fail))
  refine (iLow_is _ A n c ts false ((HTt.out.below (by repeat (first | with_reducible exact HDt0.out | with_reducible refine Below.drew ?_ | with_reducible refine bl_drewN ?_ _ | with_reducible refine bl_alloc ?_ _) : Below w0.heap.size w0 _)).more (Below.size (by repeat (first | with_reducible exact HDt0.out | with_reducible refine Below.drew ?_ | with_reducible refine bl_drewN ?_ _ | with_reducible refine bl_alloc ?_ _) : Below w0.heap.size w0 _))) (by omega) e0 (by repeat (first | exact HE.out.below HB0.out | refine EG.drewN ?_ _ | refine EG.drew ?_ | refine EG.alloc ?_ _)) p q HP.out).mono ?_
  rintro e w1 ⟨rfl, hb⟩
  have hs1 := hb.size
  have HB1 := Lib.hid (show Below w0.heap.size w0 w1 from bl_trans (by repeat (first | with_reducible exact HB0.out | with_reducible refine bl_drewN ?_ _ | with_reducible refine Below.drew ?_ | with_reducible refine bl_alloc ?_ _)) hb)
  have br1 := Lib.hid (show Blk w1 (w0.heap.size) 87 #[.int .i64 0, .int .i64 0] from Blk.below (by have hh := Blk.new w0 87 #[.int .i64 0, .int .i64 0]; (try simp only [World.size_alloc] at hh); repeat (first | exact hh | with_reducible refine Blk.drewN ?_ _ | with_reducible refine Blk.drew ?_ | with_reducible refine Blk.alloc ?_ _)) hb (by first | omega | (simp; done) | (simp; omega)))
  have bs1 := Lib.hid (show Blk w1 (w0.heap.size + 1) 87 #[.int .i64 0, .int .i64 1] from Blk.below (by have hh := Blk.new (w0.alloc (.cells #[.int .i64 0, .int .i64 0] 87)) 87 #[.int .i64 0, .int .i64 1]; (try simp only [World.size_alloc] at hh); repeat (first | exact hh | with_reducible refine Blk.drewN ?_ _ | with_reducible refine Blk.drew ?_ | with_reducible refine Blk.alloc ?_ _)) hb (by first | omega | (simp; done) | (simp; omega)))
  have HDt1 := Lib.hid (show Below w0.heap.size w0 w1 from bl_trans (by repeat (first | with_reducible exact HDt0.out | with_reducible refine Below.drew ?_ | with_reducible refine bl_drewN ?_ _ | with_reducible refine bl_alloc ?_ _)) hb)
  clear hb HB0 HDt0
  have cr := br1.out.cell
  have cs := bs1.out.cell
  have fs := bs1.out.frozen
  go_wp2_with fail
  (try (go_quiet (fail); go_wp2_with fail))
  have hne1 : w0.heap.size ≠ w0.heap.size + 1 := by omega
  have bs2 := Lib.hid (show Blk ((w1.setCell ⟨w0.heap.size + 1, 0, none⟩ (.int .i64 (p : Int))).setCell ⟨w0.heap.size + 1, 1, none⟩ (.int .i64 (q : Int))) (w0.heap.size + 1) 87 #[.int .i64 (p : Int), .int .i64 (q : Int)] from (bs1.out.set_ 0 _).set_ 1 _)
  have br2 := Lib.hid (show Blk ((w1.setCell ⟨w0.heap.size + 1, 0, none⟩ (.int .i64 (p : Int))).setCell ⟨w0.heap.size + 1, 1, none⟩ (.int .i64 (q : Int))) (w0.heap.size) 87 #[.int .i64 0, .int .i64 0] from (br1.out.far (p := ⟨w0.heap.size + 1, 0, none⟩) hne1 _).far (p := ⟨w0.heap.size + 1, 1, none⟩) hne1 _)
  have HB2 := Lib.hid (show Below w0.heap.size w0 ((w1.setCell ⟨w0.heap.size + 1, 0, none⟩ (.int .i64 (p : Int))).setCell ⟨w0.heap.size + 1, 1, none⟩ (.int .i64 (q : Int))) from bl_set (bl_set HB1.out (by dsimp only; omega) _) (by dsimp only; omega) _)
  have HDt2 := Lib.hid (show Below w0.heap.size w0 ((w1.setCell ⟨w0.heap.size + 1, 0, none⟩ (.int .i64 (p : Int))).setCell ⟨w0.heap.size + 1, 1, none⟩ (.int .i64 (q : Int))) from bl_set (bl_set HDt1.out (by dsimp only; omega) _) (by dsimp only; omega) _)
  clear bs1 br1 HB1 HDt1 cs cr fs
  generalize ((w1.setCell ⟨w0.heap.size + 1, 0, none⟩ (.int .i64 (p : Int))).setCell ⟨w0.heap.size + 1, 1, none⟩ (.int .i64 (q : Int))) = w2 at *
  have cr := br2.out.cell
  have cs := bs2.out.cell
  have hS2 := (Blk.two (show Blk w2 (w0.heap.size + 1) 87 #[.int .i64 (p : Int), .int .i64 (q : Int)] from by repeat (first | with_reducible exact bs2.out | with_reducible refine Blk.alloc ?_ _)))
  (try go_wp2_with fail)
  go_region_with (first
      | (have uu := HB2; clear uu; go_at_call 114; refine (iHigh_is _ A n c ts ((HTt.out.below (by repeat (first | with_reducible exact HDt2.out | with_reducible refine Below.drew ?_ | with_reducible refine bl_drewN ?_ _ | with_reducible refine bl_alloc ?_ _) : Below w0.heap.size w0 _)).more (Below.size (by repeat (first | with_reducible exact HDt2.out | with_reducible refine Below.drew ?_ | with_reducible refine bl_drewN ?_ _ | with_reducible refine bl_alloc ?_ _) : Below w0.heap.size w0 _))) hn e0 (by repeat (first | exact HE.out.below HB2.out | refine EG.drewN ?_ _ | refine EG.drew ?_ | refine EG.alloc ?_ _)) s t HH.out).mono ?_; rintro e w3 ⟨rfl, hb⟩; have hs3 := hb.size; have HB3 := Lib.hid (show Below w0.heap.size w0 w3 from bl_trans (by repeat (first | with_reducible exact HB2.out | with_reducible refine bl_drewN ?_ _ | with_reducible refine Below.drew ?_ | with_reducible refine bl_alloc ?_ _)) hb); have br3 := Lib.hid (show Blk w3 (w0.heap.size) 87 #[.int .i64 0, .int .i64 0] from Blk.below (by repeat (first | with_reducible exact br2.out | with_reducible refine Blk.drewN ?_ _ | with_reducible refine Blk.drew ?_ | with_reducible refine Blk.alloc ?_ _)) hb (by have := br2.out.lt; first | exact this | omega | (simp; omega))); have cr := br3.out.cell; have bs3 := Lib.hid (show Blk w3 (w0.heap.size + 1) 87 #[.int .i64 (p : Int), .int .i64 (q : Int)] from Blk.below (by repeat (first | with_reducible exact bs2.out | with_reducible refine Blk.drewN ?_ _ | with_reducible refine Blk.drew ?_ | with_reducible refine Blk.alloc ?_ _)) hb (by have := bs2.out.lt; first | exact this | omega | (simp; omega))); have cs := bs3.out.cell; have fs := bs3.out.frozen; have HDt3 := Lib.hid (show Below w0.heap.size w0 w3 from bl_trans (by repeat (first | with_reducible exact HDt2.out | with_reducible refine Below.drew ?_ | with_reducible refine bl_drewN ?_ _ | with_reducible refine bl_alloc ?_ _)) hb); have hS3 := Blk.two bs3.out; clear hb HB2)
      | (have uu := HB3; clear uu; go_at_call 113; refine (plus2_is _ e0 (by repeat (first | exact HE.out.below HB3.out | refine EG.drewN ?_ _ | refine EG.drew ?_ | refine EG.alloc ?_ _)) p q s t x y HA.out.1 HA.out.2).mono ?_; rintro e w4 ⟨rfl, hb⟩; have hs4 := hb.size; have HB4 := Lib.hid (show Below w0.heap.size w0 w4 from bl_trans (by repeat (first | with_reducible exact HB3.out | with_reducible refine bl_drewN ?_ _ | with_reducible refine Below.drew ?_ | with_reducible refine bl_alloc ?_ _)) hb); have br4 := Lib.hid (show Blk w4 (w0.heap.size) 87 #[.int .i64 0, .int .i64 0] from Blk.below (by repeat (first | with_reducible exact br3.out | with_reducible refine Blk.drewN ?_ _ | with_reducible refine Blk.drew ?_ | with_reducible refine Blk.alloc ?_ _)) hb (by have := br3.out.lt; first | exact this | omega | (simp; omega))); have cr := br4.out.cell; have bs4 := Lib.hid (show Blk w4 (w0.heap.size + 1) 87 #[.int .i64 (p : Int), .int .i64 (q : Int)] from Blk.below (by repeat (first | with_reducible exact bs3.out | with_reducible refine Blk.drewN ?_ _ | with_reducible refine Blk.drew ?_ | with_reducible refine Blk.alloc ?_ _)) hb (by have := bs3.out.lt; first | exact this | omega | (simp; omega))); have cs := bs4.out.cell; have fs := bs4.out.frozen; have HDt4 := Lib.hid (show Below w0.heap.size w0 w4 from bl_trans (by repeat (first | with_reducible exact HDt3.out | with_reducible refine Below.drew ?_ | with_reducible refine bl_drewN ?_ _ | with_reducible refine bl_alloc ?_ _)) hb); have hS4 := Blk.two bs4.out; clear hb HB3))
  have hkr4 := br4.out.lt
  have hks4 := bs4.out.lt
  all_goals
    (skip
     have hkr4 := br4.out.lt
     have hks4 := bs4.out.lt
     have fS := bs4.out.frozen
     have cS := bs4.out.cell
     have hne : w0.heap.size ≠ w0.heap.size + 1 := by omega
     have cS2 := ((bs4.out.set_ 0 (.int .i64 (x : Int))).set_ 1 (.int .i64 (y : Int))).cell
     have bRR := (br4.out.far (p := ⟨w0.heap.size + 1, 0, none⟩) hne (.int .i64 (x : Int))).far (p := ⟨w0.heap.size + 1, 1, none⟩) hne (.int .i64 (y : Int))
     have cR := bRR.cell
     have fR := bRR.frozen
     have cF := fun (s t : Value) => ((bRR.set_ 0 s).set_ 1 t).cell
     clear bRR
     go_wp2
     (try (go_quiet (fail); go_wp2))
     refine bodyPost_ret (v := .agg #[.int .i64 (x : Int), .int .i64 (y : Int)]) (by simp [results, Tryz.results132, go_sem, cF]) rfl ⟨rfl, (by repeat (first | with_reducible exact HB4.out | refine bl_drewN ?_ _ | refine Below.drew ?_ | refine bl_alloc ?_ _ | refine bl_set ?_ (by dsimp only; omega) _))⟩)
end
section
open Go.RowKit
set_option linter.unusedVariables false
set_option maxHeartbeats 1000000 in
/-- Implicit returns whether a list is valid and all its tasks are due when their next job comes. -/
theorem iImp_is (w : World) (A : Option Addr) (n c : Nat) (ts : List Tk) (h : Tks w w.heap.size A n ts) (hn : n ≤ 1048576) (b : Bool) (hb : impB ts = b) :
    Calls Tryz.prog 131 #[.slice A n c] w (BoolRes b w) := by
  have H := Lib.hid h
  have HL := Lib.hid h.len
  clear h
  cases hs : setB ts
  · obtain rfl : b = false := by rw [← hb]; exact imp_bad hs
    have HS := Lib.hid hs
    clear hb hs
    go_enter Tryz.func131, Tryz.ntmps131
    go_wp2_with fail
    refine (iSetValid_any _ A n c ts H.out hn).mono ?_
    rintro e w1 ⟨rfl, hb1⟩
    rw [HS.out]
    have HB1 := Lib.hid hb1
    clear hb1
    go_wp2
    refine bodyPost_ret (v := .bool false) (by simp [results, Tryz.results131, go_sem]) rfl ⟨rfl, HB1.out⟩
  have HS := Lib.hid hs
  have HI := Lib.hid hb
  clear hb hs
  go_enter Tryz.func131, Tryz.ntmps131
  go_wp2_with fail
  refine (iSetValid_any _ A n c ts H.out hn).mono ?_
  rintro e w1 ⟨rfl, hb1⟩
  rw [HS.out]
  have HB1 := Lib.hid hb1
  clear hb1
  go_wp2
  go_loopw [10] (fun i wr => ∃ k : Nat, k ≤ n ∧ i = .int .i64 k ∧ Hid (∀ u ∈ ts.take k, u.du = u.ev) ∧ Hid (Below w.heap.size w wr)) (fun i _ => n - (intOf i).toNat)
  case atStart => exact ⟨0, Nat.zero_le _, rfl, Lib.hid (by simp), HB1⟩
  case round =>
    obtain ⟨k, hk, rfl, HK, HB⟩ := hrel
    by_cases hlt : k < n
    · obtain ⟨t, ht⟩ : ∃ t, ts[k]? = some t := ⟨ts[k]'(by rw [HL.out]; exact hlt), List.getElem?_eq_getElem _⟩
      obtain ⟨bb, o, rfl, hbl, c0, c1, c2, c3, c4⟩ := (H.out.below HB.out).at_ k t ht
      by_cases hc : t.du = t.ev
      · have HK2 := Lib.hid (imp_step ht hc HK.out)
        clear ht
        obtain ⟨lo, hi, du, ev, cr⟩ := t
        dsimp only at c0 c1 c2 c3 c4 hc
        have d1 : (du != ev) = false := by simp; exact hc
        go_wp2
        go_roundw
        case rel => exact ⟨k + 1, by omega, by go_num, HK2, bl_alloc HB.out _⟩
        case measure => simp [intOf]; omega
      · have hbf : b = false := by rw [← HI.out]; exact imp_not ht hc
        subst hbf
        clear ht
        obtain ⟨lo, hi, du, ev, cr⟩ := t
        dsimp only at c0 c1 c2 c3 c4 hc
        have d1 : (du != ev) = true := by simp; exact hc
        go_wp2
        refine bodyPost_ret (v := .bool false) (by simp [results, Tryz.results131, go_sem]) rfl ⟨rfl, bl_alloc HB.out _⟩
    · obtain rfl : k = n := by omega
      have hbt : b = true := by
        rw [← HI.out]
        exact imp_of HS.out (by have := HK.out; rwa [List.take_of_length_le (by rw [HL.out]; omega)] at this)
      subst hbt
      go_wp2
      refine bodyPost_ret (v := .bool true) (by simp [results, Tryz.results131, go_sem]) rfl ⟨rfl, HB.out⟩
end
section
open Go.RowKit
set_option linter.unusedVariables false
set_option maxHeartbeats 400000 in
/-- fits: a share is at most the whole. -/
theorem fits_is (w : World) (u v : Int) (b : Bool) (hb : decide (u ≤ v) = b) :
    Calls Tryz.prog 115 #[.agg #[.int .i64 u, .int .i64 v]] w (BoolRes b w) := by
  go_enter Tryz.func115, Tryz.ntmps115
  go_wp2
  go_ret
  exact ⟨by subst hb; rfl, (by repeat (first | exact Below.refl _ _ | refine bl_drewN ?_ _ | refine Below.drew ?_ | refine bl_alloc ?_ _))⟩
set_option maxHeartbeats 1000000 in
/-- times: the product in lowest terms. -/
theorem times_is (w : World) (u v x y N D p q : Nat) (hN : u * x = N) (hD : v * y = D) (hr : redN N D = (p, q)) (D0 : 1 ≤ D) (p9 : p ≤ 1000000000) (q9 : q ≤ 1000000000) (u9 : u ≤ 1000000000) (v9 : v ≤ 1000000000) (x9 : x ≤ 1000000000) (y9 : y ≤ 1000000000) :
    Calls Tryz.prog 111 #[.agg #[.int .i64 (u : Int), .int .i64 (v : Int)], .agg #[.int .i64 (x : Int), .int .i64 (y : Int)]] w (ShRes p q w) := by
  have N9 := mul_le9 hN u9 x9
  have D9 := mul_le9 hD v9 y9
  have qN := mul_cast u x N hN
  have qD := mul_cast v y D hD
  have HC := Lib.hid (fun W : World => lowest_fits W (N : Int) (D : Int) N D p q rfl rfl (by omega) D0 (by omega) hr p9 q9)
  clear hr hN hD
  go_enter Tryz.func111, Tryz.ntmps111
  go_wp2_with fail
  (try (go_quiet (fail); go_wp2_with fail))
  refine (HC.out _).mono ?_
  rintro e w2 ⟨rfl, hb⟩
  have HB2 := Lib.hid (show Below w.heap.size w w2 from bl_trans (by repeat (first | exact Below.refl w.heap.size w | refine bl_drewN ?_ _ | refine Below.drew ?_ | refine bl_alloc ?_ _)) hb)
  have bR2 := Lib.hid (show Blk w2 (w.heap.size + 1 + 1) 87 #[.int .i64 0, .int .i64 0] from Blk.below (by have h := Blk.new ((w.alloc (.cells #[.int .i64 (u : Int), .int .i64 (v : Int)] 87)).alloc (.cells #[.int .i64 (x : Int), .int .i64 (y : Int)] 87)) 87 #[.int .i64 0, .int .i64 0]; simp only [World.size_alloc] at h; repeat (first | with_reducible exact h | refine Blk.drewN ?_ _ | refine Blk.drew ?_)) hb (by simp))
  clear hb
  have cR0 := bR2.out.cell
  have fR0 := bR2.out.frozen
  have cR := fun o => (bR2.out.alloc o).cell
  have fR := fun o => (bR2.out.alloc o).frozen
  have cF := fun (s t : Value) o => (((bR2.out.alloc o).set_ 0 s).set_ 1 t).cell
  go_wp2
  (try go_region)
  all_goals (try go_wp2)
  all_goals refine bodyPost_ret (v := .agg #[.int .i64 (p : Int), .int .i64 (q : Int)]) (by simp [results, Tryz.results111, go_sem, cF]) rfl ⟨rfl, (by repeat (first | with_reducible exact HB2.out | exact Below.refl _ _ | refine bl_drewN ?_ _ | refine Below.drew ?_ | refine bl_alloc ?_ _ | refine bl_set ?_ (by dsimp only; omega) _))⟩
set_option maxHeartbeats 1000000 in
/-- partOfRest: a share over what another one leaves. -/
theorem rest_is (w : World) (u v x y N D p q : Nat) (hlt : x ≤ y) (hN : u * y = N) (hD : v * (y - x) = D) (hr : redN N D = (p, q)) (D0 : 1 ≤ D) (p9 : p ≤ 1000000000) (q9 : q ≤ 1000000000) (u9 : u ≤ 1000000000) (v9 : v ≤ 1000000000) (x9 : x ≤ 1000000000) (y9 : y ≤ 1000000000) :
    Calls Tryz.prog 133 #[.agg #[.int .i64 (u : Int), .int .i64 (v : Int)], .agg #[.int .i64 (x : Int), .int .i64 (y : Int)]] w (ShRes p q w) := by
  have N9 := mul_le9 hN u9 y9
  have D9 := mul_le9 hD v9 (by omega)
  obtain ⟨R, hR⟩ : ∃ R, y - x = R := ⟨_, rfl⟩
  have R9 : R ≤ 1000000000 := by omega
  rw [hR] at hD
  have qR : (y : Int) - (x : Int) = (R : Int) := by omega
  have qN := mul_cast u y N hN
  have qD := mul_cast v R D hD
  have kR : IntKind.i64.wrap (R : Int) = (R : Int) := IntWalk.i64_in _ (by omega)
  clear hR hlt
  have HC := Lib.hid (fun W : World => lowest_fits W (N : Int) (D : Int) N D p q rfl rfl (by omega) D0 (by omega) hr p9 q9)
  clear hr hN hD
  go_enter Tryz.func133, Tryz.ntmps133
  go_wp2_with fail
  (try (go_quiet (fail); go_wp2_with fail))
  refine (HC.out _).mono ?_
  rintro e w2 ⟨rfl, hb⟩
  have HB2 := Lib.hid (show Below w.heap.size w w2 from bl_trans (by repeat (first | exact Below.refl w.heap.size w | refine bl_drewN ?_ _ | refine Below.drew ?_ | refine bl_alloc ?_ _)) hb)
  have bR2 := Lib.hid (show Blk w2 (w.heap.size + 1 + 1) 87 #[.int .i64 0, .int .i64 0] from Blk.below (by have h := Blk.new ((w.alloc (.cells #[.int .i64 (u : Int), .int .i64 (v : Int)] 87)).alloc (.cells #[.int .i64 (x : Int), .int .i64 (y : Int)] 87)) 87 #[.int .i64 0, .int .i64 0]; simp only [World.size_alloc] at h; repeat (first | with_reducible exact h | refine Blk.drewN ?_ _ | refine Blk.drew ?_)) hb (by simp))
  clear hb
  have cR0 := bR2.out.cell
  have fR0 := bR2.out.frozen
  have cR := fun o => (bR2.out.alloc o).cell
  have fR := fun o => (bR2.out.alloc o).frozen
  have cF := fun (s t : Value) o => (((bR2.out.alloc o).set_ 0 s).set_ 1 t).cell
  go_wp2
  (try go_region)
  all_goals (try go_wp2)
  all_goals refine bodyPost_ret (v := .agg #[.int .i64 (p : Int), .int .i64 (q : Int)]) (by simp [results, Tryz.results133, go_sem, cF]) rfl ⟨rfl, (by repeat (first | with_reducible exact HB2.out | exact Below.refl _ _ | refine bl_drewN ?_ _ | refine Below.drew ?_ | refine bl_alloc ?_ _ | refine bl_set ?_ (by dsimp only; omega) _))⟩
end
section
open Go.RowKit
set_option linter.unusedVariables false
theorem fits_cmp {x y : Nat} (h : Sh x y) {z : Int} (hz : cmpS x y 1 1 = z) : decide ((x : Int) ≤ (y : Int)) = decide (z ≤ 0) := by
  have e := cmp_sh h one_sh
  rw [← hz]
  have : cmpS (x : Int) (y : Int) 1 1 = cmpN (x, y) (1, 1) := e
  rw [this]
  have k := cmp_le (x, y) (1, 1)
  unfold leN at k
  by_cases hh : (x : Int) ≤ (y : Int)
  · rw [decide_eq_true hh, decide_eq_true (k.2 (by dsimp only; omega))]
  · rw [decide_eq_false hh, decide_eq_false (fun q => hh (by have := k.1 q; dsimp only at this; omega))]
/-- Where tasks do not hold plainly and both low shares fit, the ones that are not critical leave something. -/
theorem rest_some {ts : List Tk} (hi : impB ts = true) (hp : plainV ts = false) (hl : leN (addN (lowOf ts false) (lowOf ts true)) (1, 1)) : lowOf ts false ≠ (1, 1) := by
  intro ha
  have hs := imp_set hi
  have hall := (setB_all hs).2
  have hb2 := (lowOf_sh true hs).1.pos
  have h1 := sum_le_one (by rw [ha]; decide) hb2 hl
  rw [ha] at h1
  dsimp only at h1
  have hb : (lowOf ts true).1 = 0 := by omega
  have e : lowOf ts true = sumN ((ts.filter fun t => t.cr == true).map part) := by unfold lowOf; rw [hs]; rfl
  rw [e] at hb
  have hz := (sum_zero (xs := (ts.filter fun t => t.cr == true).map part) (fun x hx => by
    obtain ⟨t, ht, rfl⟩ := List.mem_map.1 hx
    have := part_facts (hall t (List.mem_filter.1 ht).1)
    exact ⟨this.2.2.2, this.1⟩)).1 hb
  have hn : ts.filter (fun t => t.cr == true) = [] := List.map_eq_nil_iff.1 hz
  have hh : highOf ts = (0, 1) := by
    unfold highOf
    rw [hs, if_pos rfl, crit_parts, hn]
    rfl
  have hpl : plainV ts = true := by
    unfold plainV
    rw [hi, Bool.true_and]
    refine leB_iff.2 ?_
    rw [ha, hh, add_zero (by simp)]
    exact le_refl' _
  rw [hpl] at hp
  cases hp
end
section
open Go.RowKit
set_option linter.unusedVariables false
set_option maxRecDepth 100000 in
set_option maxHeartbeats 6000000 in
/-- HoldsPlain, in the program. -/
theorem iPlain_is (w0 : World) (A : Option Addr) (n c : Nat) (ts : List Tk) (h : Tks w0 w0.heap.size A n ts) (hn : n ≤ 1048576) (e0 : Addr) (he : EG w0 e0) (b : Bool) (hb : plainV ts = b) :
    Calls Tryz.prog 130 #[.slice A n c] w0 (BoolRes b w0) := by
  have HTt := Lib.hid h
  have HL := Lib.hid h.len
  have HE := Lib.hid he
  have HB0 := Lib.hid (Below.refl w0.heap.size w0)
  have HDt0 := Lib.hid (Below.refl w0.heap.size w0)
  clear h he
  cases hi : impB ts
  · obtain rfl : b = false := by rw [← hb]; unfold plainV; rw [hi]; rfl
    clear hb
    go_enter Tryz.func130, Tryz.ntmps130
    go_wp2_with fail
    (try (go_quiet (fail); go_wp2_with fail))
    refine (iImp_is _ A n c ts ((HTt.out.below (by repeat (first | with_reducible exact HDt0.out | with_reducible refine Below.drew ?_ | with_reducible refine bl_drewN ?_ _ | with_reducible refine bl_alloc ?_ _) : Below w0.heap.size w0 _)).more (Below.size (by repeat (first | with_reducible exact HDt0.out | with_reducible refine Below.drew ?_ | with_reducible refine bl_drewN ?_ _ | with_reducible refine bl_alloc ?_ _) : Below w0.heap.size w0 _))) hn false hi).mono ?_
    rintro e w1 ⟨rfl, hb⟩
    have hs1 := hb.size
    have HB1 := Lib.hid (show Below w0.heap.size w0 w1 from bl_trans (by repeat (first | with_reducible exact HB0.out | with_reducible refine bl_drewN ?_ _ | with_reducible refine Below.drew ?_ | with_reducible refine bl_alloc ?_ _)) hb)
    have HDt1 := Lib.hid (show Below w0.heap.size w0 w1 from bl_trans (by repeat (first | with_reducible exact HDt0.out | with_reducible refine Below.drew ?_ | with_reducible refine bl_drewN ?_ _ | with_reducible refine bl_alloc ?_ _)) hb)
    clear hb HB0 HDt0
    go_wp2
    (try (go_quiet (fail); go_wp2))
    refine bodyPost_ret (v := .bool false) (by simp [results, Tryz.results130, go_sem]) rfl ⟨rfl, (by repeat (first | with_reducible exact HB1.out | refine bl_drewN ?_ _ | refine Below.drew ?_ | refine bl_alloc ?_ _ | refine bl_set ?_ (by dsimp only; omega) _))⟩
  have hs := imp_set hi
  obtain ⟨p, q, hpq⟩ : ∃ p q, lowOf ts false = (p, q) := ⟨_, _, rfl⟩
  obtain ⟨u, v, huv⟩ : ∃ p q, highOf ts = (p, q) := ⟨_, _, rfl⟩
  obtain ⟨x, y, z, s1, s2, s3, _, e1, e2, e3, e4⟩ := plain_pack hs hpq huv
  have hz : decide ((x : Int) ≤ (y : Int)) = b := by rw [fits_cmp s3 e3, ← hb, ← e4]; unfold plainV; rw [hi]; rfl
  have HI := Lib.hid hi
  have HP := Lib.hid hpq
  have HU := Lib.hid huv
  have HA := Lib.hid (And.intro e1 e2)
  have HZ := Lib.hid hz
  clear hb hi hs hpq huv s1 s2 s3 e1 e2 e3 e4 hz
  go_enter Tryz.func130, Tryz.ntmps130
  go_wp2_with fail
  (try (go_quiet (fail); go_wp2_with fail))
  refine (iImp_is _ A n c ts ((HTt.out.below (by repeat (first | with_reducible exact HDt0.out | with_reducible refine Below.drew ?_ | with_reducible refine bl_drewN ?_ _ | with_reducible refine bl_alloc ?_ _) : Below w0.heap.size w0 _)).more (Below.size (by repeat (first | with_reducible exact HDt0.out | with_reducible refine Below.drew ?_ | with_reducible refine bl_drewN ?_ _ | with_reducible refine bl_alloc ?_ _) : Below w0.heap.size w0 _))) hn true HI.out).mono ?_
  rintro e w1 ⟨rfl, hb⟩
  have hs1 := hb.size
  have HB1 := Lib.hid (show Below w0.heap.size w0 w1 from bl_trans (by repeat (first | with_reducible exact HB0.out | with_reducible refine bl_drewN ?_ _ | with_reducible refine Below.drew ?_ | with_reducible refine bl_alloc ?_ _)) hb)
  have HDt1 := Lib.hid (show Below w0.heap.size w0 w1 from bl_trans (by repeat (first | with_reducible exact HDt0.out | with_reducible refine Below.drew ?_ | with_reducible refine bl_drewN ?_ _ | with_reducible refine bl_alloc ?_ _)) hb)
  clear hb HB0 HDt0
  go_wp2_with fail
  (try (go_quiet (fail); go_wp2_with fail))
  refine (ofPlain_is _ A n c ts ((HTt.out.below (by repeat (first | with_reducible exact HDt1.out | with_reducible refine Below.drew ?_ | with_reducible refine bl_drewN ?_ _ | with_reducible refine bl_alloc ?_ _) : Below w0.heap.size w0 _)).more (Below.size (by repeat (first | with_reducible exact HDt1.out | with_reducible refine Below.drew ?_ | with_reducible refine bl_drewN ?_ _ | with_reducible refine bl_alloc ?_ _) : Below w0.heap.size w0 _))) hn e0 (by repeat (first | exact HE.out.below HB1.out | refine EG.drewN ?_ _ | refine EG.drew ?_ | refine EG.alloc ?_ _)) p q u v x y HP.out HU.out HA.out.1 HA.out.2).mono ?_
  rintro e w2 ⟨rfl, hb⟩
  have hs2 := hb.size
  have HB2 := Lib.hid (show Below w0.heap.size w0 w2 from bl_trans (by repeat (first | with_reducible exact HB1.out | with_reducible refine bl_drewN ?_ _ | with_reducible refine Below.drew ?_ | with_reducible refine bl_alloc ?_ _)) hb)
  have HDt2 := Lib.hid (show Below w0.heap.size w0 w2 from bl_trans (by repeat (first | with_reducible exact HDt1.out | with_reducible refine Below.drew ?_ | with_reducible refine bl_drewN ?_ _ | with_reducible refine bl_alloc ?_ _)) hb)
  clear hb HB1 HDt1
  go_wp2_with fail
  (try (go_quiet (fail); go_wp2_with fail))
  refine (fits_is _ x y b HZ.out).mono ?_
  rintro e w3 ⟨rfl, hb⟩
  have hs3 := hb.size
  have HB3 := Lib.hid (show Below w0.heap.size w0 w3 from bl_trans (by repeat (first | with_reducible exact HB2.out | with_reducible refine bl_drewN ?_ _ | with_reducible refine Below.drew ?_ | with_reducible refine bl_alloc ?_ _)) hb)
  have HDt3 := Lib.hid (show Below w0.heap.size w0 w3 from bl_trans (by repeat (first | with_reducible exact HDt2.out | with_reducible refine Below.drew ?_ | with_reducible refine bl_drewN ?_ _ | with_reducible refine bl_alloc ?_ _)) hb)
  clear hb HB2 HDt2
  go_wp2
  (try (go_quiet (fail); go_wp2))
  refine bodyPost_ret (v := .bool b) (by simp [results, Tryz.results130, go_sem]) rfl ⟨rfl, (by repeat (first | with_reducible exact HB3.out | refine bl_drewN ?_ _ | refine Below.drew ?_ | refine bl_alloc ?_ _ | refine bl_set ?_ (by dsimp only; omega) _))⟩
end
section
open Go.RowKit
set_option linter.unusedVariables false
set_option maxRecDepth 100000 in
set_option maxHeartbeats 6000000 in
/-- FactorOf, in the program. -/
theorem iFac_is (w0 : World) (A : Option Addr) (n c : Nat) (ts : List Tk) (h : Tks w0 w0.heap.size A n ts) (hn : n ≤ 1048576) (e0 : Addr) (he : EG w0 e0) (X Y : Nat) (b : Bool) (hX : facV ts = (X, Y)) (hb : facB ts = b) :
    Calls Tryz.prog 92 #[.slice A n c] w0 (MkRes X Y b w0) := by
  have HTt := Lib.hid h
  have HL := Lib.hid h.len
  have HE := Lib.hid he
  have HB0 := Lib.hid (Below.refl w0.heap.size w0)
  have HDt0 := Lib.hid (Below.refl w0.heap.size w0)
  clear h he
  cases hp : plainV ts
  · cases hi : impB ts
    · have hfn : facB ts = false := by unfold facB; rw [hi]; rfl
      rw [facV_no hfn] at hX
      obtain ⟨rfl, rfl⟩ := Prod.mk.inj hX
      obtain rfl : b = false := by rw [← hb]; exact hfn
      clear hb hX hfn
      go_enter Tryz.func92, Tryz.ntmps92
      go_wp2_with fail
      (try (go_quiet (fail); go_wp2_with fail))
      refine (iPlain_is _ A n c ts ((HTt.out.below (by repeat (first | with_reducible exact HDt0.out | with_reducible refine Below.drew ?_ | with_reducible refine bl_drewN ?_ _ | with_reducible refine bl_alloc ?_ _) : Below w0.heap.size w0 _)).more (Below.size (by repeat (first | with_reducible exact HDt0.out | with_reducible refine Below.drew ?_ | with_reducible refine bl_drewN ?_ _ | with_reducible refine bl_alloc ?_ _) : Below w0.heap.size w0 _))) hn e0 (by repeat (first | exact HE.out.below HB0.out | refine EG.drewN ?_ _ | refine EG.drew ?_ | refine EG.alloc ?_ _)) false hp).mono ?_
      rintro e w1 ⟨rfl, hb⟩
      have hs1 := hb.size
      have HB1 := Lib.hid (show Below w0.heap.size w0 w1 from bl_trans (by repeat (first | with_reducible exact HB0.out | with_reducible refine bl_drewN ?_ _ | with_reducible refine Below.drew ?_ | with_reducible refine bl_alloc ?_ _)) hb)
      have br1 := Lib.hid (show Blk w1 (w0.heap.size) 87 #[.int .i64 0, .int .i64 0] from Blk.below (by have hh := Blk.new w0 87 #[.int .i64 0, .int .i64 0]; (try simp only [World.size_alloc] at hh); repeat (first | exact hh | with_reducible refine Blk.drewN ?_ _ | with_reducible refine Blk.drew ?_ | with_reducible refine Blk.alloc ?_ _)) hb (by first | omega | (simp; done) | (simp; omega)))
      have HDt1 := Lib.hid (show Below w0.heap.size w0 w1 from bl_trans (by repeat (first | with_reducible exact HDt0.out | with_reducible refine Below.drew ?_ | with_reducible refine bl_drewN ?_ _ | with_reducible refine bl_alloc ?_ _)) hb)
      clear hb HB0 HDt0
      have cr := br1.out.cell
      go_wp2_with fail
      (try (go_quiet (fail); go_wp2_with fail))
      refine (iImp_is _ A n c ts ((HTt.out.below (by repeat (first | with_reducible exact HDt1.out | with_reducible refine Below.drew ?_ | with_reducible refine bl_drewN ?_ _ | with_reducible refine bl_alloc ?_ _) : Below w0.heap.size w0 _)).more (Below.size (by repeat (first | with_reducible exact HDt1.out | with_reducible refine Below.drew ?_ | with_reducible refine bl_drewN ?_ _ | with_reducible refine bl_alloc ?_ _) : Below w0.heap.size w0 _))) hn false hi).mono ?_
      rintro e w2 ⟨rfl, hb⟩
      have hs2 := hb.size
      have HB2 := Lib.hid (show Below w0.heap.size w0 w2 from bl_trans (by repeat (first | with_reducible exact HB1.out | with_reducible refine bl_drewN ?_ _ | with_reducible refine Below.drew ?_ | with_reducible refine bl_alloc ?_ _)) hb)
      have br2 := Lib.hid (show Blk w2 (w0.heap.size) 87 #[.int .i64 0, .int .i64 0] from Blk.below (by repeat (first | with_reducible exact br1.out | with_reducible refine Blk.drewN ?_ _ | with_reducible refine Blk.drew ?_ | with_reducible refine Blk.alloc ?_ _)) hb (by have := br1.out.lt; first | omega | (simp; omega)))
      have HDt2 := Lib.hid (show Below w0.heap.size w0 w2 from bl_trans (by repeat (first | with_reducible exact HDt1.out | with_reducible refine Below.drew ?_ | with_reducible refine bl_drewN ?_ _ | with_reducible refine bl_alloc ?_ _)) hb)
      clear hb HB1 br1 cr HDt1
      have cr := br2.out.cell
      have fR := br2.out.frozen
      have cR := br2.out.cell
      have cF := fun (s t : Value) => ((br2.out.set_ 0 s).set_ 1 t).cell
      go_wp2
      (try (go_quiet (fail); go_wp2))
      refine bodyPost_ret (v := .tuple #[.agg #[.int .i64 0, .int .i64 0], .bool false]) (by simp [results, Tryz.results92, go_sem, cF]) rfl ⟨rfl, (by repeat (first | with_reducible exact HB2.out | refine bl_drewN ?_ _ | refine Below.drew ?_ | refine bl_alloc ?_ _ | refine bl_set ?_ (by dsimp only; omega) _))⟩
    have hs := imp_set hi
    obtain ⟨p, q, hpq⟩ : ∃ p q, lowOf ts false = (p, q) := ⟨_, _, rfl⟩
    obtain ⟨u, v, huv⟩ : ∃ p q, lowOf ts true = (p, q) := ⟨_, _, rfl⟩
    obtain ⟨x, y, z, s1, s2, s3, ea, e1, e2, e3, e4⟩ := low_pack hs hpq huv
    have hfit := fits_cmp s3 e3
    rw [← e4] at hfit
    have HI := Lib.hid hi
    have HPL := Lib.hid hp
    have HP := Lib.hid hpq
    have HU := Lib.hid huv
    have HA := Lib.hid (And.intro e1 e2)
    by_cases hl : leB (addN (lowOf ts false) (lowOf ts true)) (1, 1) = true
    · have hft : facB ts = true := by unfold facB; rw [hi, hp, hl]; simp; exact rest_some hi hp (leB_iff.1 hl)
      obtain rfl : b = true := by rw [← hb]; exact hft
      obtain ⟨N, D, gg, X0, Y0, hN, hD, hlt, hg, g1, hX1, hY1, N1, D0, D1, m1, m2, hf, hsh, x1, y1⟩ := fac_pack hft hp hpq huv
      rw [hf] at hX
      obtain ⟨rfl, rfl⟩ := Prod.mk.inj hX
      rw [hl] at hfit
      have HF := Lib.hid hfit
      have hr : redN N D = (X0, Y0) := by unfold redN; rw [Nat.gcd_comm, hg, hX1, hY1]
      have HM := Lib.hid (fun (W : World) => rest_is W u v p q N D X0 Y0 (Nat.le_of_lt hlt) hN hD hr D0 (by omega) (by omega) s2.num s2.den s1.num s1.den)
      clear hb hX hi hp hs hpq huv s1 s2 s3 ea e1 e2 e3 e4 hfit hl hft hN hD hlt hg g1 hX1 hY1 N1 D0 D1 m1 m2 hf hsh x1 y1 hr
      go_enter Tryz.func92, Tryz.ntmps92
      go_wp2_with fail
      (try (go_quiet (fail); go_wp2_with fail))
      refine (iPlain_is _ A n c ts ((HTt.out.below (by repeat (first | with_reducible exact HDt0.out | with_reducible refine Below.drew ?_ | with_reducible refine bl_drewN ?_ _ | with_reducible refine bl_alloc ?_ _) : Below w0.heap.size w0 _)).more (Below.size (by repeat (first | with_reducible exact HDt0.out | with_reducible refine Below.drew ?_ | with_reducible refine bl_drewN ?_ _ | with_reducible refine bl_alloc ?_ _) : Below w0.heap.size w0 _))) hn e0 (by repeat (first | exact HE.out.below HB0.out | refine EG.drewN ?_ _ | refine EG.drew ?_ | refine EG.alloc ?_ _)) false HPL.out).mono ?_
      rintro e w1 ⟨rfl, hb⟩
      have hs1 := hb.size
      have HB1 := Lib.hid (show Below w0.heap.size w0 w1 from bl_trans (by repeat (first | with_reducible exact HB0.out | with_reducible refine bl_drewN ?_ _ | with_reducible refine Below.drew ?_ | with_reducible refine bl_alloc ?_ _)) hb)
      have br1 := Lib.hid (show Blk w1 (w0.heap.size) 87 #[.int .i64 0, .int .i64 0] from Blk.below (by have hh := Blk.new w0 87 #[.int .i64 0, .int .i64 0]; (try simp only [World.size_alloc] at hh); repeat (first | exact hh | with_reducible refine Blk.drewN ?_ _ | with_reducible refine Blk.drew ?_ | with_reducible refine Blk.alloc ?_ _)) hb (by first | omega | (simp; done) | (simp; omega)))
      have HDt1 := Lib.hid (show Below w0.heap.size w0 w1 from bl_trans (by repeat (first | with_reducible exact HDt0.out | with_reducible refine Below.drew ?_ | with_reducible refine bl_drewN ?_ _ | with_reducible refine bl_alloc ?_ _)) hb)
      clear hb HB0 HDt0
      have cr := br1.out.cell
      go_wp2_with fail
      (try (go_quiet (fail); go_wp2_with fail))
      refine (iImp_is _ A n c ts ((HTt.out.below (by repeat (first | with_reducible exact HDt1.out | with_reducible refine Below.drew ?_ | with_reducible refine bl_drewN ?_ _ | with_reducible refine bl_alloc ?_ _) : Below w0.heap.size w0 _)).more (Below.size (by repeat (first | with_reducible exact HDt1.out | with_reducible refine Below.drew ?_ | with_reducible refine bl_drewN ?_ _ | with_reducible refine bl_alloc ?_ _) : Below w0.heap.size w0 _))) hn true HI.out).mono ?_
      rintro e w2 ⟨rfl, hb⟩
      have hs2 := hb.size
      have HB2 := Lib.hid (show Below w0.heap.size w0 w2 from bl_trans (by repeat (first | with_reducible exact HB1.out | with_reducible refine bl_drewN ?_ _ | with_reducible refine Below.drew ?_ | with_reducible refine bl_alloc ?_ _)) hb)
      have br2 := Lib.hid (show Blk w2 (w0.heap.size) 87 #[.int .i64 0, .int .i64 0] from Blk.below (by repeat (first | with_reducible exact br1.out | with_reducible refine Blk.drewN ?_ _ | with_reducible refine Blk.drew ?_ | with_reducible refine Blk.alloc ?_ _)) hb (by have := br1.out.lt; first | omega | (simp; omega)))
      have HDt2 := Lib.hid (show Below w0.heap.size w0 w2 from bl_trans (by repeat (first | with_reducible exact HDt1.out | with_reducible refine Below.drew ?_ | with_reducible refine bl_drewN ?_ _ | with_reducible refine bl_alloc ?_ _)) hb)
      clear hb HB1 br1 cr HDt1
      have cr := br2.out.cell
      go_wp2_with fail
      (try (go_quiet (fail); go_wp2_with fail))
      refine (ofLow_is _ A n c ts ((HTt.out.below (by repeat (first | with_reducible exact HDt2.out | with_reducible refine Below.drew ?_ | with_reducible refine bl_drewN ?_ _ | with_reducible refine bl_alloc ?_ _) : Below w0.heap.size w0 _)).more (Below.size (by repeat (first | with_reducible exact HDt2.out | with_reducible refine Below.drew ?_ | with_reducible refine bl_drewN ?_ _ | with_reducible refine bl_alloc ?_ _) : Below w0.heap.size w0 _))) hn e0 (by repeat (first | exact HE.out.below HB2.out | refine EG.drewN ?_ _ | refine EG.drew ?_ | refine EG.alloc ?_ _)) p q u v x y HP.out HU.out HA.out.1 HA.out.2).mono ?_
      rintro e w3 ⟨rfl, hb⟩
      have hs3 := hb.size
      have HB3 := Lib.hid (show Below w0.heap.size w0 w3 from bl_trans (by repeat (first | with_reducible exact HB2.out | with_reducible refine bl_drewN ?_ _ | with_reducible refine Below.drew ?_ | with_reducible refine bl_alloc ?_ _)) hb)
      have br3 := Lib.hid (show Blk w3 (w0.heap.size) 87 #[.int .i64 0, .int .i64 0] from Blk.below (by repeat (first | with_reducible exact br2.out | with_reducible refine Blk.drewN ?_ _ | with_reducible refine Blk.drew ?_ | with_reducible refine Blk.alloc ?_ _)) hb (by have := br2.out.lt; first | omega | (simp; omega)))
      have HDt3 := Lib.hid (show Below w0.heap.size w0 w3 from bl_trans (by repeat (first | with_reducible exact HDt2.out | with_reducible refine Below.drew ?_ | with_reducible refine bl_drewN ?_ _ | with_reducible refine bl_alloc ?_ _)) hb)
      clear hb HB2 br2 cr HDt2
      have cr := br3.out.cell
      go_wp2_with fail
      (try (go_quiet (fail); go_wp2_with fail))
      refine (fits_is _ x y true HF.out).mono ?_
      rintro e w4 ⟨rfl, hb⟩
      have hs4 := hb.size
      have HB4 := Lib.hid (show Below w0.heap.size w0 w4 from bl_trans (by repeat (first | with_reducible exact HB3.out | with_reducible refine bl_drewN ?_ _ | with_reducible refine Below.drew ?_ | with_reducible refine bl_alloc ?_ _)) hb)
      have br4 := Lib.hid (show Blk w4 (w0.heap.size) 87 #[.int .i64 0, .int .i64 0] from Blk.below (by repeat (first | with_reducible exact br3.out | with_reducible refine Blk.drewN ?_ _ | with_reducible refine Blk.drew ?_ | with_reducible refine Blk.alloc ?_ _)) hb (by have := br3.out.lt; first | omega | (simp; omega)))
      have HDt4 := Lib.hid (show Below w0.heap.size w0 w4 from bl_trans (by repeat (first | with_reducible exact HDt3.out | with_reducible refine Below.drew ?_ | with_reducible refine bl_drewN ?_ _ | with_reducible refine bl_alloc ?_ _)) hb)
      clear hb HB3 br3 cr HDt3
      have cr := br4.out.cell
      go_wp2_with fail
      (try (go_quiet (fail); go_wp2_with fail))
      refine (iLow_is _ A n c ts true ((HTt.out.below (by repeat (first | with_reducible exact HDt4.out | with_reducible refine Below.drew ?_ | with_reducible refine bl_drewN ?_ _ | with_reducible refine bl_alloc ?_ _) : Below w0.heap.size w0 _)).more (Below.size (by repeat (first | with_reducible exact HDt4.out | with_reducible refine Below.drew ?_ | with_reducible refine bl_drewN ?_ _ | with_reducible refine bl_alloc ?_ _) : Below w0.heap.size w0 _))) (by omega) e0 (by repeat (first | exact HE.out.below HB4.out | refine EG.drewN ?_ _ | refine EG.drew ?_ | refine EG.alloc ?_ _)) u v HU.out).mono ?_
      rintro e w5 ⟨rfl, hb⟩
      have hs5 := hb.size
      have HB5 := Lib.hid (show Below w0.heap.size w0 w5 from bl_trans (by repeat (first | with_reducible exact HB4.out | with_reducible refine bl_drewN ?_ _ | with_reducible refine Below.drew ?_ | with_reducible refine bl_alloc ?_ _)) hb)
      have br5 := Lib.hid (show Blk w5 (w0.heap.size) 87 #[.int .i64 0, .int .i64 0] from Blk.below (by repeat (first | with_reducible exact br4.out | with_reducible refine Blk.drewN ?_ _ | with_reducible refine Blk.drew ?_ | with_reducible refine Blk.alloc ?_ _)) hb (by have := br4.out.lt; first | omega | (simp; omega)))
      have HDt5 := Lib.hid (show Below w0.heap.size w0 w5 from bl_trans (by repeat (first | with_reducible exact HDt4.out | with_reducible refine Below.drew ?_ | with_reducible refine bl_drewN ?_ _ | with_reducible refine bl_alloc ?_ _)) hb)
      clear hb HB4 br4 cr HDt4
      have cr := br5.out.cell
      go_wp2_with fail
      (try (go_quiet (fail); go_wp2_with fail))
      refine (iLow_is _ A n c ts false ((HTt.out.below (by repeat (first | with_reducible exact HDt5.out | with_reducible refine Below.drew ?_ | with_reducible refine bl_drewN ?_ _ | with_reducible refine bl_alloc ?_ _) : Below w0.heap.size w0 _)).more (Below.size (by repeat (first | with_reducible exact HDt5.out | with_reducible refine Below.drew ?_ | with_reducible refine bl_drewN ?_ _ | with_reducible refine bl_alloc ?_ _) : Below w0.heap.size w0 _))) (by omega) e0 (by repeat (first | exact HE.out.below HB5.out | refine EG.drewN ?_ _ | refine EG.drew ?_ | refine EG.alloc ?_ _)) p q HP.out).mono ?_
      rintro e w6 ⟨rfl, hb⟩
      have hs6 := hb.size
      have HB6 := Lib.hid (show Below w0.heap.size w0 w6 from bl_trans (by repeat (first | with_reducible exact HB5.out | with_reducible refine bl_drewN ?_ _ | with_reducible refine Below.drew ?_ | with_reducible refine bl_alloc ?_ _)) hb)
      have br6 := Lib.hid (show Blk w6 (w0.heap.size) 87 #[.int .i64 0, .int .i64 0] from Blk.below (by repeat (first | with_reducible exact br5.out | with_reducible refine Blk.drewN ?_ _ | with_reducible refine Blk.drew ?_ | with_reducible refine Blk.alloc ?_ _)) hb (by have := br5.out.lt; first | omega | (simp; omega)))
      have HDt6 := Lib.hid (show Below w0.heap.size w0 w6 from bl_trans (by repeat (first | with_reducible exact HDt5.out | with_reducible refine Below.drew ?_ | with_reducible refine bl_drewN ?_ _ | with_reducible refine bl_alloc ?_ _)) hb)
      clear hb HB5 br5 cr HDt5
      have cr := br6.out.cell
      go_wp2_with fail
      (try (go_quiet (fail); go_wp2_with fail))
      refine (HM.out _).mono ?_
      rintro e w7 ⟨rfl, hb⟩
      have hs7 := hb.size
      have HB7 := Lib.hid (show Below w0.heap.size w0 w7 from bl_trans (by repeat (first | with_reducible exact HB6.out | with_reducible refine bl_drewN ?_ _ | with_reducible refine Below.drew ?_ | with_reducible refine bl_alloc ?_ _)) hb)
      have br7 := Lib.hid (show Blk w7 (w0.heap.size) 87 #[.int .i64 0, .int .i64 0] from Blk.below (by repeat (first | with_reducible exact br6.out | with_reducible refine Blk.drewN ?_ _ | with_reducible refine Blk.drew ?_ | with_reducible refine Blk.alloc ?_ _)) hb (by have := br6.out.lt; first | omega | (simp; omega)))
      have HDt7 := Lib.hid (show Below w0.heap.size w0 w7 from bl_trans (by repeat (first | with_reducible exact HDt6.out | with_reducible refine Below.drew ?_ | with_reducible refine bl_drewN ?_ _ | with_reducible refine bl_alloc ?_ _)) hb)
      clear hb HB6 br6 cr HDt6
      have cr := br7.out.cell
      have fR := br7.out.frozen
      have cR := br7.out.cell
      have cF := fun (s t : Value) => ((br7.out.set_ 0 s).set_ 1 t).cell
      go_wp2
      (try (go_quiet (fail); go_wp2))
      refine bodyPost_ret (v := .tuple #[.agg #[.int .i64 (X0 : Int), .int .i64 (Y0 : Int)], .bool true]) (by simp [results, Tryz.results92, go_sem, cF]) rfl ⟨rfl, (by repeat (first | with_reducible exact HB7.out | refine bl_drewN ?_ _ | refine Below.drew ?_ | refine bl_alloc ?_ _ | refine bl_set ?_ (by dsimp only; omega) _))⟩
    have hl : leB (addN (lowOf ts false) (lowOf ts true)) (1, 1) = false := by simpa using hl
    have hfn : facB ts = false := by unfold facB; rw [hi, hp, hl]; rfl
    rw [facV_no hfn] at hX
    obtain ⟨rfl, rfl⟩ := Prod.mk.inj hX
    obtain rfl : b = false := by rw [← hb]; exact hfn
    rw [hl] at hfit
    have HF := Lib.hid hfit
    clear hb hX hi hp hs hpq huv s1 s2 s3 ea e1 e2 e3 e4 hfit hl hfn
    go_enter Tryz.func92, Tryz.ntmps92
    go_wp2_with fail
    (try (go_quiet (fail); go_wp2_with fail))
    refine (iPlain_is _ A n c ts ((HTt.out.below (by repeat (first | with_reducible exact HDt0.out | with_reducible refine Below.drew ?_ | with_reducible refine bl_drewN ?_ _ | with_reducible refine bl_alloc ?_ _) : Below w0.heap.size w0 _)).more (Below.size (by repeat (first | with_reducible exact HDt0.out | with_reducible refine Below.drew ?_ | with_reducible refine bl_drewN ?_ _ | with_reducible refine bl_alloc ?_ _) : Below w0.heap.size w0 _))) hn e0 (by repeat (first | exact HE.out.below HB0.out | refine EG.drewN ?_ _ | refine EG.drew ?_ | refine EG.alloc ?_ _)) false HPL.out).mono ?_
    rintro e w1 ⟨rfl, hb⟩
    have hs1 := hb.size
    have HB1 := Lib.hid (show Below w0.heap.size w0 w1 from bl_trans (by repeat (first | with_reducible exact HB0.out | with_reducible refine bl_drewN ?_ _ | with_reducible refine Below.drew ?_ | with_reducible refine bl_alloc ?_ _)) hb)
    have br1 := Lib.hid (show Blk w1 (w0.heap.size) 87 #[.int .i64 0, .int .i64 0] from Blk.below (by have hh := Blk.new w0 87 #[.int .i64 0, .int .i64 0]; (try simp only [World.size_alloc] at hh); repeat (first | exact hh | with_reducible refine Blk.drewN ?_ _ | with_reducible refine Blk.drew ?_ | with_reducible refine Blk.alloc ?_ _)) hb (by first | omega | (simp; done) | (simp; omega)))
    have HDt1 := Lib.hid (show Below w0.heap.size w0 w1 from bl_trans (by repeat (first | with_reducible exact HDt0.out | with_reducible refine Below.drew ?_ | with_reducible refine bl_drewN ?_ _ | with_reducible refine bl_alloc ?_ _)) hb)
    clear hb HB0 HDt0
    have cr := br1.out.cell
    go_wp2_with fail
    (try (go_quiet (fail); go_wp2_with fail))
    refine (iImp_is _ A n c ts ((HTt.out.below (by repeat (first | with_reducible exact HDt1.out | with_reducible refine Below.drew ?_ | with_reducible refine bl_drewN ?_ _ | with_reducible refine bl_alloc ?_ _) : Below w0.heap.size w0 _)).more (Below.size (by repeat (first | with_reducible exact HDt1.out | with_reducible refine Below.drew ?_ | with_reducible refine bl_drewN ?_ _ | with_reducible refine bl_alloc ?_ _) : Below w0.heap.size w0 _))) hn true HI.out).mono ?_
    rintro e w2 ⟨rfl, hb⟩
    have hs2 := hb.size
    have HB2 := Lib.hid (show Below w0.heap.size w0 w2 from bl_trans (by repeat (first | with_reducible exact HB1.out | with_reducible refine bl_drewN ?_ _ | with_reducible refine Below.drew ?_ | with_reducible refine bl_alloc ?_ _)) hb)
    have br2 := Lib.hid (show Blk w2 (w0.heap.size) 87 #[.int .i64 0, .int .i64 0] from Blk.below (by repeat (first | with_reducible exact br1.out | with_reducible refine Blk.drewN ?_ _ | with_reducible refine Blk.drew ?_ | with_reducible refine Blk.alloc ?_ _)) hb (by have := br1.out.lt; first | omega | (simp; omega)))
    have HDt2 := Lib.hid (show Below w0.heap.size w0 w2 from bl_trans (by repeat (first | with_reducible exact HDt1.out | with_reducible refine Below.drew ?_ | with_reducible refine bl_drewN ?_ _ | with_reducible refine bl_alloc ?_ _)) hb)
    clear hb HB1 br1 cr HDt1
    have cr := br2.out.cell
    go_wp2_with fail
    (try (go_quiet (fail); go_wp2_with fail))
    refine (ofLow_is _ A n c ts ((HTt.out.below (by repeat (first | with_reducible exact HDt2.out | with_reducible refine Below.drew ?_ | with_reducible refine bl_drewN ?_ _ | with_reducible refine bl_alloc ?_ _) : Below w0.heap.size w0 _)).more (Below.size (by repeat (first | with_reducible exact HDt2.out | with_reducible refine Below.drew ?_ | with_reducible refine bl_drewN ?_ _ | with_reducible refine bl_alloc ?_ _) : Below w0.heap.size w0 _))) hn e0 (by repeat (first | exact HE.out.below HB2.out | refine EG.drewN ?_ _ | refine EG.drew ?_ | refine EG.alloc ?_ _)) p q u v x y HP.out HU.out HA.out.1 HA.out.2).mono ?_
    rintro e w3 ⟨rfl, hb⟩
    have hs3 := hb.size
    have HB3 := Lib.hid (show Below w0.heap.size w0 w3 from bl_trans (by repeat (first | with_reducible exact HB2.out | with_reducible refine bl_drewN ?_ _ | with_reducible refine Below.drew ?_ | with_reducible refine bl_alloc ?_ _)) hb)
    have br3 := Lib.hid (show Blk w3 (w0.heap.size) 87 #[.int .i64 0, .int .i64 0] from Blk.below (by repeat (first | with_reducible exact br2.out | with_reducible refine Blk.drewN ?_ _ | with_reducible refine Blk.drew ?_ | with_reducible refine Blk.alloc ?_ _)) hb (by have := br2.out.lt; first | omega | (simp; omega)))
    have HDt3 := Lib.hid (show Below w0.heap.size w0 w3 from bl_trans (by repeat (first | with_reducible exact HDt2.out | with_reducible refine Below.drew ?_ | with_reducible refine bl_drewN ?_ _ | with_reducible refine bl_alloc ?_ _)) hb)
    clear hb HB2 br2 cr HDt2
    have cr := br3.out.cell
    go_wp2_with fail
    (try (go_quiet (fail); go_wp2_with fail))
    refine (fits_is _ x y false HF.out).mono ?_
    rintro e w4 ⟨rfl, hb⟩
    have hs4 := hb.size
    have HB4 := Lib.hid (show Below w0.heap.size w0 w4 from bl_trans (by repeat (first | with_reducible exact HB3.out | with_reducible refine bl_drewN ?_ _ | with_reducible refine Below.drew ?_ | with_reducible refine bl_alloc ?_ _)) hb)
    have br4 := Lib.hid (show Blk w4 (w0.heap.size) 87 #[.int .i64 0, .int .i64 0] from Blk.below (by repeat (first | with_reducible exact br3.out | with_reducible refine Blk.drewN ?_ _ | with_reducible refine Blk.drew ?_ | with_reducible refine Blk.alloc ?_ _)) hb (by have := br3.out.lt; first | omega | (simp; omega)))
    have HDt4 := Lib.hid (show Below w0.heap.size w0 w4 from bl_trans (by repeat (first | with_reducible exact HDt3.out | with_reducible refine Below.drew ?_ | with_reducible refine bl_drewN ?_ _ | with_reducible refine bl_alloc ?_ _)) hb)
    clear hb HB3 br3 cr HDt3
    have cr := br4.out.cell
    have fR := br4.out.frozen
    have cR := br4.out.cell
    have cF := fun (s t : Value) => ((br4.out.set_ 0 s).set_ 1 t).cell
    go_wp2
    (try (go_quiet (fail); go_wp2))
    refine bodyPost_ret (v := .tuple #[.agg #[.int .i64 0, .int .i64 0], .bool false]) (by simp [results, Tryz.results92, go_sem, cF]) rfl ⟨rfl, (by repeat (first | with_reducible exact HB4.out | refine bl_drewN ?_ _ | refine Below.drew ?_ | refine bl_alloc ?_ _ | refine bl_set ?_ (by dsimp only; omega) _))⟩
  · rw [facV_plain hp] at hX
    obtain ⟨rfl, rfl⟩ := Prod.mk.inj hX
    obtain rfl : b = true := by rw [← hb]; exact fac_plain hp
    have HPL := Lib.hid hp
    clear hb hX hp
    go_enter Tryz.func92, Tryz.ntmps92
    go_wp2_with fail
    (try (go_quiet (fail); go_wp2_with fail))
    refine (iPlain_is _ A n c ts ((HTt.out.below (by repeat (first | with_reducible exact HDt0.out | with_reducible refine Below.drew ?_ | with_reducible refine bl_drewN ?_ _ | with_reducible refine bl_alloc ?_ _) : Below w0.heap.size w0 _)).more (Below.size (by repeat (first | with_reducible exact HDt0.out | with_reducible refine Below.drew ?_ | with_reducible refine bl_drewN ?_ _ | with_reducible refine bl_alloc ?_ _) : Below w0.heap.size w0 _))) hn e0 (by repeat (first | exact HE.out.below HB0.out | refine EG.drewN ?_ _ | refine EG.drew ?_ | refine EG.alloc ?_ _)) true HPL.out).mono ?_
    rintro e w1 ⟨rfl, hb⟩
    have hs1 := hb.size
    have HB1 := Lib.hid (show Below w0.heap.size w0 w1 from bl_trans (by repeat (first | with_reducible exact HB0.out | with_reducible refine bl_drewN ?_ _ | with_reducible refine Below.drew ?_ | with_reducible refine bl_alloc ?_ _)) hb)
    have br1 := Lib.hid (show Blk w1 (w0.heap.size) 87 #[.int .i64 0, .int .i64 0] from Blk.below (by have hh := Blk.new w0 87 #[.int .i64 0, .int .i64 0]; (try simp only [World.size_alloc] at hh); repeat (first | exact hh | with_reducible refine Blk.drewN ?_ _ | with_reducible refine Blk.drew ?_ | with_reducible refine Blk.alloc ?_ _)) hb (by first | omega | (simp; done) | (simp; omega)))
    have HDt1 := Lib.hid (show Below w0.heap.size w0 w1 from bl_trans (by repeat (first | with_reducible exact HDt0.out | with_reducible refine Below.drew ?_ | with_reducible refine bl_drewN ?_ _ | with_reducible refine bl_alloc ?_ _)) hb)
    clear hb HB0 HDt0
    have cr := br1.out.cell
    have fR := br1.out.frozen
    have cR := br1.out.cell
    have cF := fun (s t : Value) => ((br1.out.set_ 0 s).set_ 1 t).cell
    go_wp2
    (try (go_quiet (fail); go_wp2))
    refine bodyPost_ret (v := .tuple #[.agg #[.int .i64 1, .int .i64 1], .bool true]) (by simp [results, Tryz.results92, go_sem, cF]) rfl ⟨rfl, (by repeat (first | with_reducible exact HB1.out | refine bl_drewN ?_ _ | refine Below.drew ?_ | refine bl_alloc ?_ _ | refine bl_set ?_ (by dsimp only; omega) _))⟩
end
section
open Go.RowKit
set_option linter.unusedVariables false
/-- What HoldsVirtual adds up, whether tasks hold plainly or not. -/
theorem virt5_pack {ts : List Tk} (h : facB ts = true) {p q X Y s t : Nat} (ha : lowOf ts false = (p, q)) (hf : facV ts = (X, Y)) (hh : highOf ts = (s, t)) :
    ∃ (N D P Q x y : Nat), X * p = N ∧ Y * q = D ∧ redN N D = (P, Q) ∧ 1 ≤ D ∧ P ≤ 1000000000 ∧ Q ≤ 1000000000 ∧ plusS P Q s t = (x, y) ∧ plusB P Q s t = true ∧ decide ((x : Int) ≤ (y : Int)) = virtV ts := by
  have hs := imp_set (fac_imp h)
  have sl := (lowOf_sh false hs).1
  rw [ha] at sl
  cases hp : plainV ts
  · obtain ⟨N, D, g, P, Q, x, y, z, hN, hD, hg, g1, hP1, hQ1, N1, D0, D1, m1, m2, sP, sh, p1, q1, e1, e2, sx, ez, ev, _, _⟩ := virt_pack h hp ha hf hh
    exact ⟨N, D, P, Q, x, y, hN, hD, by unfold redN; rw [Nat.gcd_comm, hg, hP1, hQ1], D0, by omega, by omega, e1, e2, by rw [fits_cmp sx ez, ev]⟩
  · obtain ⟨x, y, z, s1, s2, s3, _, e1, e2, e3, e4⟩ := plain_pack hs ha hh
    rw [facV_plain hp] at hf
    obtain ⟨rfl, rfl⟩ := Prod.mk.inj hf
    refine ⟨p, q, p, q, x, y, Nat.one_mul _, Nat.one_mul _, sh_redN s1, s1.pos, s1.num, s1.den, e1, e2, ?_⟩
    rw [fits_cmp s3 e3, ← e4]
    have hv : virtV ts = true := by unfold virtV; rw [h, hp]; rfl
    have hp2 := hp
    unfold plainV at hp2
    rw [hv]
    simp at hp2
    rw [hp2.2]
set_option maxRecDepth 100000 in
set_option maxHeartbeats 6000000 in
/-- HoldsVirtual, in the program. -/
theorem iVirt_is (w0 : World) (A : Option Addr) (n c : Nat) (ts : List Tk) (h : Tks w0 w0.heap.size A n ts) (hn : n ≤ 1048576) (e0 : Addr) (he : EG w0 e0) (b : Bool) (hb : virtV ts = b) :
    Calls Tryz.prog 73 #[.slice A n c] w0 (BoolRes b w0) := by
  have HTt := Lib.hid h
  have HL := Lib.hid h.len
  have HE := Lib.hid he
  have HB0 := Lib.hid (Below.refl w0.heap.size w0)
  have HDt0 := Lib.hid (Below.refl w0.heap.size w0)
  clear h he
  cases hft : facB ts
  · obtain rfl : b = false := by rw [← hb]; unfold virtV; rw [hft]; rfl
    have HF := Lib.hid (And.intro (facV_no hft) hft)
    clear hb hft
    go_enter Tryz.func73, Tryz.ntmps73
    go_wp2_with fail
    (try (go_quiet (fail); go_wp2_with fail))
    refine (iFac_is _ A n c ts ((HTt.out.below (by repeat (first | with_reducible exact HDt0.out | with_reducible refine Below.drew ?_ | with_reducible refine bl_drewN ?_ _ | with_reducible refine bl_alloc ?_ _) : Below w0.heap.size w0 _)).more (Below.size (by repeat (first | with_reducible exact HDt0.out | with_reducible refine Below.drew ?_ | with_reducible refine bl_drewN ?_ _ | with_reducible refine bl_alloc ?_ _) : Below w0.heap.size w0 _))) hn e0 (by repeat (first | exact HE.out.below HB0.out | refine EG.drewN ?_ _ | refine EG.drew ?_ | refine EG.alloc ?_ _)) 0 0 false HF.out.1 HF.out.2).mono ?_
    rintro e w1 ⟨rfl, hb⟩
    have hs1 := hb.size
    have HB1 := Lib.hid (show Below w0.heap.size w0 w1 from bl_trans (by repeat (first | with_reducible exact HB0.out | with_reducible refine bl_drewN ?_ _ | with_reducible refine Below.drew ?_ | with_reducible refine bl_alloc ?_ _)) hb)
    have HDt1 := Lib.hid (show Below w0.heap.size w0 w1 from bl_trans (by repeat (first | with_reducible exact HDt0.out | with_reducible refine Below.drew ?_ | with_reducible refine bl_drewN ?_ _ | with_reducible refine bl_alloc ?_ _)) hb)
    clear hb HB0 HDt0
    go_wp2_with fail
    (try go_region_with (fail))
    all_goals
      (skip
       go_wp2
       (try (go_quiet (fail); go_wp2))
       refine bodyPost_ret (v := .bool false) (by simp [results, Tryz.results73, go_sem]) rfl ⟨rfl, (by repeat (first | with_reducible exact HB1.out | refine bl_drewN ?_ _ | refine Below.drew ?_ | refine bl_alloc ?_ _ | refine bl_set ?_ (by dsimp only; omega) _))⟩)
  obtain ⟨p, q, hpq⟩ : ∃ p q, lowOf ts false = (p, q) := ⟨_, _, rfl⟩
  obtain ⟨X, Y, hXY⟩ : ∃ p q, facV ts = (p, q) := ⟨_, _, rfl⟩
  obtain ⟨s, t, hst⟩ : ∃ p q, highOf ts = (p, q) := ⟨_, _, rfl⟩
  obtain ⟨N, D, P, Q, x, y, hN, hD, hr, D0, P9, Q9, e1, e2, e3⟩ := virt5_pack hft hpq hXY hst
  rw [hb] at e3
  have sf := (facV_sh hft).1
  rw [hXY] at sf
  have sl := (lowOf_sh false (imp_set (fac_imp hft))).1
  rw [hpq] at sl
  have HM := Lib.hid (fun (W : World) => times_is W X Y p q N D P Q hN hD hr D0 P9 Q9 sf.num sf.den sl.num sl.den)
  have HF := Lib.hid (And.intro hXY hft)
  have HP := Lib.hid hpq
  have HH := Lib.hid hst
  have HA := Lib.hid (And.intro e1 e2)
  have HZ := Lib.hid e3
  clear hb hft hpq hXY hst hN hD hr D0 P9 Q9 e1 e2 e3 sf sl
  go_enter Tryz.func73, Tryz.ntmps73
  go_wp2_with fail
  (try (go_quiet (fail); go_wp2_with fail))
  refine (iFac_is _ A n c ts ((HTt.out.below (by repeat (first | with_reducible exact HDt0.out | with_reducible refine Below.drew ?_ | with_reducible refine bl_drewN ?_ _ | with_reducible refine bl_alloc ?_ _) : Below w0.heap.size w0 _)).more (Below.size (by repeat (first | with_reducible exact HDt0.out | with_reducible refine Below.drew ?_ | with_reducible refine bl_drewN ?_ _ | with_reducible refine bl_alloc ?_ _) : Below w0.heap.size w0 _))) hn e0 (by repeat (first | exact HE.out.below HB0.out | refine EG.drewN ?_ _ | refine EG.drew ?_ | refine EG.alloc ?_ _)) X Y true HF.out.1 HF.out.2).mono ?_
  rintro e w1 ⟨rfl, hb⟩
  have hs1 := hb.size
  have HB1 := Lib.hid (show Below w0.heap.size w0 w1 from bl_trans (by repeat (first | with_reducible exact HB0.out | with_reducible refine bl_drewN ?_ _ | with_reducible refine Below.drew ?_ | with_reducible refine bl_alloc ?_ _)) hb)
  have HDt1 := Lib.hid (show Below w0.heap.size w0 w1 from bl_trans (by repeat (first | with_reducible exact HDt0.out | with_reducible refine Below.drew ?_ | with_reducible refine bl_drewN ?_ _ | with_reducible refine bl_alloc ?_ _)) hb)
  clear hb HB0 HDt0
  have hS1 := (Blk.two (show Blk (w1.alloc (.cells #[.int .i64 (X : Int), .int .i64 (Y : Int)] 87)) (w1.heap.size) 87 #[.int .i64 (X : Int), .int .i64 (Y : Int)] from by have hh := Blk.new w1 87 #[.int .i64 (X : Int), .int .i64 (Y : Int)]; (try simp only [World.size_alloc] at hh); repeat (first | exact hh | with_reducible refine Blk.alloc ?_ _)))
  go_wp2_with fail
  first
  | (go_region_held3 (fun W => (W.cell? ⟨w1.heap.size, 0, none⟩ = some (.int .i64 (X : Int)) ∧ W.cell? ⟨w1.heap.size, 1, none⟩ = some (.int .i64 (Y : Int)))) (first | exact hS1 | exact hS2 | exact hS3 | exact hS4 | exact hS5 | exact hS6)
    ((first
      | (have uu := HB1; clear uu; go_at_call 112; refine (iLow_is _ A n c ts false ((HTt.out.below (by repeat (first | with_reducible exact HDt1.out | with_reducible refine Below.drew ?_ | with_reducible refine bl_drewN ?_ _ | with_reducible refine bl_alloc ?_ _) : Below w0.heap.size w0 _)).more (Below.size (by repeat (first | with_reducible exact HDt1.out | with_reducible refine Below.drew ?_ | with_reducible refine bl_drewN ?_ _ | with_reducible refine bl_alloc ?_ _) : Below w0.heap.size w0 _))) hn e0 (by repeat (first | exact HE.out.below HB1.out | refine EG.drewN ?_ _ | refine EG.drew ?_ | refine EG.alloc ?_ _)) p q HP.out).mono ?_; rintro e w2 ⟨rfl, hb⟩; have hs2 := hb.size; have HB2 := Lib.hid (show Below w0.heap.size w0 w2 from bl_trans (by repeat (first | with_reducible exact HB1.out | with_reducible refine bl_drewN ?_ _ | with_reducible refine Below.drew ?_ | with_reducible refine bl_alloc ?_ _)) hb); have bx2 := Lib.hid (show Blk w2 (w1.heap.size) 87 #[.int .i64 (X : Int), .int .i64 (Y : Int)] from Blk.below (by have hh := Blk.new w1 87 #[.int .i64 (X : Int), .int .i64 (Y : Int)]; (try simp only [World.size_alloc] at hh); repeat (first | exact hh | with_reducible refine Blk.drewN ?_ _ | with_reducible refine Blk.drew ?_ | with_reducible refine Blk.alloc ?_ _)) hb (by first | omega | (simp; done) | (simp; omega))); have cx := bx2.out.cell; have HDt2 := Lib.hid (show Below w0.heap.size w0 w2 from bl_trans (by repeat (first | with_reducible exact HDt1.out | with_reducible refine Below.drew ?_ | with_reducible refine bl_drewN ?_ _ | with_reducible refine bl_alloc ?_ _)) hb); have hS2 := Blk.two bx2.out; clear hb HB1)
      | (have uu := HB2; clear uu; go_at_call 111; refine (HM.out _).mono ?_; rintro e w3 ⟨rfl, hb⟩; have hs3 := hb.size; have HB3 := Lib.hid (show Below w0.heap.size w0 w3 from bl_trans (by repeat (first | with_reducible exact HB2.out | with_reducible refine bl_drewN ?_ _ | with_reducible refine Below.drew ?_ | with_reducible refine bl_alloc ?_ _)) hb); have bx3 := Lib.hid (show Blk w3 (w1.heap.size) 87 #[.int .i64 (X : Int), .int .i64 (Y : Int)] from Blk.below (by repeat (first | with_reducible exact bx2.out | with_reducible refine Blk.drewN ?_ _ | with_reducible refine Blk.drew ?_ | with_reducible refine Blk.alloc ?_ _)) hb (by have := bx2.out.lt; first | exact this | omega | (simp; omega))); have cx := bx3.out.cell; have HDt3 := Lib.hid (show Below w0.heap.size w0 w3 from bl_trans (by repeat (first | with_reducible exact HDt2.out | with_reducible refine Below.drew ?_ | with_reducible refine bl_drewN ?_ _ | with_reducible refine bl_alloc ?_ _)) hb); have hS3 := Blk.two bx3.out; clear hb HB2)
      | (have uu := HB3; clear uu; go_at_call 114; refine (iHigh_is _ A n c ts ((HTt.out.below (by repeat (first | with_reducible exact HDt3.out | with_reducible refine Below.drew ?_ | with_reducible refine bl_drewN ?_ _ | with_reducible refine bl_alloc ?_ _) : Below w0.heap.size w0 _)).more (Below.size (by repeat (first | with_reducible exact HDt3.out | with_reducible refine Below.drew ?_ | with_reducible refine bl_drewN ?_ _ | with_reducible refine bl_alloc ?_ _) : Below w0.heap.size w0 _))) hn e0 (by repeat (first | exact HE.out.below HB3.out | refine EG.drewN ?_ _ | refine EG.drew ?_ | refine EG.alloc ?_ _)) s t HH.out).mono ?_; rintro e w4 ⟨rfl, hb⟩; have hs4 := hb.size; have HB4 := Lib.hid (show Below w0.heap.size w0 w4 from bl_trans (by repeat (first | with_reducible exact HB3.out | with_reducible refine bl_drewN ?_ _ | with_reducible refine Below.drew ?_ | with_reducible refine bl_alloc ?_ _)) hb); have bx4 := Lib.hid (show Blk w4 (w1.heap.size) 87 #[.int .i64 (X : Int), .int .i64 (Y : Int)] from Blk.below (by repeat (first | with_reducible exact bx3.out | with_reducible refine Blk.drewN ?_ _ | with_reducible refine Blk.drew ?_ | with_reducible refine Blk.alloc ?_ _)) hb (by have := bx3.out.lt; first | exact this | omega | (simp; omega))); have cx := bx4.out.cell; have HDt4 := Lib.hid (show Below w0.heap.size w0 w4 from bl_trans (by repeat (first | with_reducible exact HDt3.out | with_reducible refine Below.drew ?_ | with_reducible refine bl_drewN ?_ _ | with_reducible refine bl_alloc ?_ _)) hb); have hS4 := Blk.two bx4.out; clear hb HB3)
      | (have uu := HB4; clear uu; go_at_call 113; refine (plus2_is _ e0 (by repeat (first | exact HE.out.below HB4.out | refine EG.drewN ?_ _ | refine EG.drew ?_ | refine EG.alloc ?_ _)) P Q s t x y HA.out.1 HA.out.2).mono ?_; rintro e w5 ⟨rfl, hb⟩; have hs5 := hb.size; have HB5 := Lib.hid (show Below w0.heap.size w0 w5 from bl_trans (by repeat (first | with_reducible exact HB4.out | with_reducible refine bl_drewN ?_ _ | with_reducible refine Below.drew ?_ | with_reducible refine bl_alloc ?_ _)) hb); have bx5 := Lib.hid (show Blk w5 (w1.heap.size) 87 #[.int .i64 (X : Int), .int .i64 (Y : Int)] from Blk.below (by repeat (first | with_reducible exact bx4.out | with_reducible refine Blk.drewN ?_ _ | with_reducible refine Blk.drew ?_ | with_reducible refine Blk.alloc ?_ _)) hb (by have := bx4.out.lt; first | exact this | omega | (simp; omega))); have cx := bx5.out.cell; have HDt5 := Lib.hid (show Below w0.heap.size w0 w5 from bl_trans (by repeat (first | with_reducible exact HDt4.out | with_reducible refine Below.drew ?_ | with_reducible refine bl_drewN ?_ _ | with_reducible refine bl_alloc ?_ _)) hb); have hS5 := Blk.two bx5.out; clear hb HB4)
      | (have uu := HB5; clear uu; go_at_call 115; refine (fits_is _ x y b HZ.out).mono ?_; rintro e w6 ⟨rfl, hb⟩; have hs6 := hb.size; have HB6 := Lib.hid (show Below w0.heap.size w0 w6 from bl_trans (by repeat (first | with_reducible exact HB5.out | with_reducible refine bl_drewN ?_ _ | with_reducible refine Below.drew ?_ | with_reducible refine bl_alloc ?_ _)) hb); have bx6 := Lib.hid (show Blk w6 (w1.heap.size) 87 #[.int .i64 (X : Int), .int .i64 (Y : Int)] from Blk.below (by repeat (first | with_reducible exact bx5.out | with_reducible refine Blk.drewN ?_ _ | with_reducible refine Blk.drew ?_ | with_reducible refine Blk.alloc ?_ _)) hb (by have := bx5.out.lt; first | exact this | omega | (simp; omega))); have cx := bx6.out.cell; have HDt6 := Lib.hid (show Below w0.heap.size w0 w6 from bl_trans (by repeat (first | with_reducible exact HDt5.out | with_reducible refine Below.drew ?_ | with_reducible refine bl_drewN ?_ _ | with_reducible refine bl_alloc ?_ _)) hb); have hS6 := Blk.two bx6.out; clear hb HB5))))
  | fail "no region"
  have hkx6 := bx6.out.lt
  have cx := bx6.out.cell
  go_wp2
  (try (go_quiet (fail); go_wp2))
  refine bodyPost_ret (v := .bool b) (by simp [results, Tryz.results73, go_sem]) rfl ⟨rfl, (by repeat (first | with_reducible exact HB6.out | refine bl_drewN ?_ _ | refine Below.drew ?_ | refine bl_alloc ?_ _ | refine bl_set ?_ (by dsimp only; omega) _))⟩
end
end Go.Proofs.YtgponahmkjohiabGreatDoor
