/- The walks of the laws on shares of tasks. -/
import Derived.Test.YthaflbgkhlggkaaDoorM5
import Derived.Test.YthaflbgkhlggkaaDoorM3
import Derived.Test.YthaflbgkhlggkaaDoorM1
import Derived.Deep.RegionWith
import Derived.Deep.RegionHeld3
namespace Go.Proofs.YthaflbgkhlggkaaDoor
open Go.RowKit
set_option linter.unusedVariables false

theorem take_one {ts : List Tk} {t : Tk} (h : ts[0]? = some t) : ts.take 1 = [t] := by
  cases ts with
  | nil => simp at h
  | cons a r => simp at h; simp [h]
theorem lt_of_tks {w w' : World} {B g n : Nat} {ts : List Tk} {t : Tk} (h : Tks w B (some ⟨g, 0, none⟩) n ts) (ht : ts[0]? = some t) (hb : Below B w w') (hB : B ≤ w.heap.size := by omega) : g < w'.heap.size := by
  obtain ⟨b, o, e, hlt, _⟩ := h.at_ 0 t ht
  injection e with e
  injection e with e1 e2
  have := hb.size
  omega
theorem crit0 {w : World} {B g n : Nat} {ts : List Tk} {t : Tk} (h : Tks w B (some ⟨g, 0, none⟩) n ts) (ht : ts[0]? = some t) : w.cell? ⟨g, 4, none⟩ = some (.bool t.cr) := by
  obtain ⟨b, o, e, hlt, _, _, _, _, c4⟩ := h.at_ 0 t ht
  injection e with e
  injection e with e1 e2
  subst e1
  subst e2
  simpa using c4
theorem crit0c {w : World} {B g n : Nat} {ts : List Tk} {t : Tk} {c : Bool} (h : Tks w B (some ⟨g, 0, none⟩) n ts) (ht : ts[0]? = some t) (hc : t.cr = c) : w.cell? ⟨g, 4, none⟩ = some (.bool c) := by rw [← hc]; exact crit0 h ht
theorem one_alloc {w : World} {a i : Nat} {x : Value} (h : w.cell? ⟨a, i, none⟩ = some x) (o : Obj) : (w.alloc o).cell? ⟨a, i, none⟩ = some x :=
  (World.cell?_alloc_lt w o _ (World.block_lt_of_cell? w _ h)).trans h
theorem one_set {w : World} {a c i : Nat} {x : Value} (h : w.cell? ⟨a, i, none⟩ = some x) (hc : a ≠ c) (u v : Value) : ((w.setCell ⟨c, 0, none⟩ u).setCell ⟨c, 1, none⟩ v).cell? ⟨a, i, none⟩ = some x := by
  have k : ∀ (X : World) (i j : Nat) (z : Value), (X.setCell ⟨c, j, none⟩ z).cell? ⟨a, i, none⟩ = X.cell? ⟨a, i, none⟩ := fun X i j z =>
    World.cell?_setCell_other X _ _ _ (fun e => by injection e with e1; exact hc e1.symm)
  exact (k _ _ _ _).trans ((k _ _ _ _).trans h)

set_option maxHeartbeats 2000000 in
theorem fnShareOne_walk (w : World) (A : Option Addr) (n c : Nat) (f : Nat → Int) (h : Code w w.heap.size A n c f) (e0 : Addr) (he : EG w e0) :
    Calls Tryd.prog 9 #[.slice A n c] w fun e w' => e = .returned (.bool true) ∧ Below w.heap.size w w' := by
  have H := Lib.hid h
  have HE := Lib.hid he
  have hle := h.le
  have hmax := h.max
  unfold maxLen at hmax
  clear h he
  by_cases hn : 1048576 < n
  · go_enter Tryd.func9, Tryd.ntmps9
    go_wp2
    go_ret
    exact ⟨rfl, Below.refl _ _⟩
  go_enter Tryd.func9, Tryd.ntmps9
  go_wp2_with fail
  refine (dDrawLowShare_any _ A n c f H.out).mono ?_
  rintro e w1 ⟨At, ct, ts, cr, rfl, hl, ho, hb⟩
  have HB1 := Lib.hid hb
  have HO := Lib.hid ho
  have HTt := Lib.hid ho.reads.2
  clear hb H ho
  have HDt1 := Lib.hid (Below.refl w1.heap.size w1)
  cases hs : setB ts
  · have HP := Lib.hid (lowOf_bad cr hs)
    go_wp2_with fail
    (try (go_quiet (fail); go_wp2_with fail))
    refine (iLow_is _ At _ ct ts cr ((HTt.out.below (by repeat (first | with_reducible exact HDt1.out | with_reducible refine Below.drew ?_ | with_reducible refine bl_drewN ?_ _ | with_reducible refine bl_alloc ?_ _) : Below w1.heap.size w1 _)).more (Below.size (by repeat (first | with_reducible exact HDt1.out | with_reducible refine Below.drew ?_ | with_reducible refine bl_drewN ?_ _ | with_reducible refine bl_alloc ?_ _) : Below w1.heap.size w1 _))) (by omega) e0 (by repeat (first | exact HE.out.below HB1.out | refine EG.drewN ?_ _ | refine EG.drew ?_ | refine EG.alloc ?_ _)) 0 0 HP.out).mono ?_
    rintro e w2 ⟨rfl, hb⟩
    have hs2 := hb.size
    have HB2 := Lib.hid (show Below w.heap.size w w2 from bl_trans (by repeat (first | with_reducible exact HB1.out | with_reducible refine bl_drewN ?_ _ | with_reducible refine Below.drew ?_ | with_reducible refine bl_alloc ?_ _)) hb)
    have HDt2 := Lib.hid (show Below w1.heap.size w1 w2 from bl_trans (by repeat (first | with_reducible exact HDt1.out | with_reducible refine Below.drew ?_ | with_reducible refine bl_drewN ?_ _ | with_reducible refine bl_alloc ?_ _)) hb)
    clear hb HB1 HDt1
    have hS2 := (Blk.two (show Blk (w2.alloc (.cells #[.int .i64 0, .int .i64 0] 27)) (w2.heap.size) 27 #[.int .i64 0, .int .i64 0] from by have hh := Blk.new w2 27 #[.int .i64 0, .int .i64 0]; (try simp only [World.size_alloc] at hh); repeat (first | exact hh | with_reducible refine Blk.alloc ?_ _)))
    go_wp2_with fail
    first
    | (go_region_with (first
        | (have uu := HB2; clear uu; go_at_call 16; refine (sLow_is _ At _ ct ts cr ((HTt.out.below (by repeat (first | with_reducible exact HDt2.out | with_reducible refine Below.drew ?_ | with_reducible refine bl_drewN ?_ _ | with_reducible refine bl_alloc ?_ _) : Below w1.heap.size w1 _)).more (Below.size (by repeat (first | with_reducible exact HDt2.out | with_reducible refine Below.drew ?_ | with_reducible refine bl_drewN ?_ _ | with_reducible refine bl_alloc ?_ _) : Below w1.heap.size w1 _))) (by omega) 0 0 HP.out).mono ?_; rintro e w3 ⟨rfl, hb⟩; have hs3 := hb.size; have HB3 := Lib.hid (show Below w.heap.size w w3 from bl_trans (by repeat (first | with_reducible exact HB2.out | with_reducible refine bl_drewN ?_ _ | with_reducible refine Below.drew ?_ | with_reducible refine bl_alloc ?_ _)) hb); have bs3 := Lib.hid (show Blk w3 (w2.heap.size) 27 #[.int .i64 0, .int .i64 0] from Blk.below (by have hh := Blk.new w2 27 #[.int .i64 0, .int .i64 0]; (try simp only [World.size_alloc] at hh); repeat (first | exact hh | with_reducible refine Blk.drewN ?_ _ | with_reducible refine Blk.drew ?_ | with_reducible refine Blk.alloc ?_ _)) hb (by first | omega | (simp; done) | (simp; omega))); have cs := bs3.out.cell; have HDt3 := Lib.hid (show Below w1.heap.size w1 w3 from bl_trans (by repeat (first | with_reducible exact HDt2.out | with_reducible refine Below.drew ?_ | with_reducible refine bl_drewN ?_ _ | with_reducible refine bl_alloc ?_ _)) hb); have hS3 := Blk.two bs3.out; clear hb HB2)
        | (have uu := HB3; clear uu; go_at_call 17; refine (iSetValid_any _ At _ ct ts ((HTt.out.below (by repeat (first | with_reducible exact HDt3.out | with_reducible refine Below.drew ?_ | with_reducible refine bl_drewN ?_ _ | with_reducible refine bl_alloc ?_ _) : Below w1.heap.size w1 _)).more (Below.size (by repeat (first | with_reducible exact HDt3.out | with_reducible refine Below.drew ?_ | with_reducible refine bl_drewN ?_ _ | with_reducible refine bl_alloc ?_ _) : Below w1.heap.size w1 _))) (by omega)).mono ?_; rintro e w4 ⟨rfl, hb⟩; have hs4 := hb.size; have HB4 := Lib.hid (show Below w.heap.size w w4 from bl_trans (by repeat (first | with_reducible exact HB3.out | with_reducible refine bl_drewN ?_ _ | with_reducible refine Below.drew ?_ | with_reducible refine bl_alloc ?_ _)) hb); have bs4 := Lib.hid (show Blk w4 (w2.heap.size) 27 #[.int .i64 0, .int .i64 0] from Blk.below (by repeat (first | with_reducible exact bs3.out | with_reducible refine Blk.drewN ?_ _ | with_reducible refine Blk.drew ?_ | with_reducible refine Blk.alloc ?_ _)) hb (by have := bs3.out.lt; first | exact this | omega | (simp; omega))); have cs := bs4.out.cell; have HDt4 := Lib.hid (show Below w1.heap.size w1 w4 from bl_trans (by repeat (first | with_reducible exact HDt3.out | with_reducible refine Below.drew ?_ | with_reducible refine bl_drewN ?_ _ | with_reducible refine bl_alloc ?_ _)) hb); have hS4 := Blk.two bs4.out; clear hb HB3)))
    | fail "no region"
    have hks4 := bs4.out.lt
    all_goals
      (skip
       have cs := bs4.out.cell
       have hS4 := (Blk.two (show Blk w4 (w2.heap.size) 27 #[.int .i64 0, .int .i64 0] from by repeat (first | with_reducible exact bs4.out | with_reducible refine Blk.alloc ?_ _)))
       go_wp2_with fail
       first
       | (go_region_held3 (fun W => (W.cell? ⟨w2.heap.size, 0, none⟩ = some (.int .i64 0) ∧ W.cell? ⟨w2.heap.size, 1, none⟩ = some (.int .i64 0))) (first | exact hS4 | exact hS5)
         ((first
           | (have uu := HB4; clear uu; go_at_call 16; refine (sLow_is _ At _ ct ts cr ((HTt.out.below (by repeat (first | with_reducible exact HDt4.out | with_reducible refine Below.drew ?_ | with_reducible refine bl_drewN ?_ _ | with_reducible refine bl_alloc ?_ _) : Below w1.heap.size w1 _)).more (Below.size (by repeat (first | with_reducible exact HDt4.out | with_reducible refine Below.drew ?_ | with_reducible refine bl_drewN ?_ _ | with_reducible refine bl_alloc ?_ _) : Below w1.heap.size w1 _))) (by omega) 0 0 HP.out).mono ?_; rintro e w5 ⟨rfl, hb⟩; have hs5 := hb.size; have HB5 := Lib.hid (show Below w.heap.size w w5 from bl_trans (by repeat (first | with_reducible exact HB4.out | with_reducible refine bl_drewN ?_ _ | with_reducible refine Below.drew ?_ | with_reducible refine bl_alloc ?_ _)) hb); have bs5 := Lib.hid (show Blk w5 (w2.heap.size) 27 #[.int .i64 0, .int .i64 0] from Blk.below (by repeat (first | with_reducible exact bs4.out | with_reducible refine Blk.drewN ?_ _ | with_reducible refine Blk.drew ?_ | with_reducible refine Blk.alloc ?_ _)) hb (by have := bs4.out.lt; first | exact this | omega | (simp; omega))); have cs := bs5.out.cell; have HDt5 := Lib.hid (show Below w1.heap.size w1 w5 from bl_trans (by repeat (first | with_reducible exact HDt4.out | with_reducible refine Below.drew ?_ | with_reducible refine bl_drewN ?_ _ | with_reducible refine bl_alloc ?_ _)) hb); have hS5 := Blk.two bs5.out; clear hb HB4))))
       | fail "no region"
       have hks5 := bs5.out.lt
       have cs := bs5.out.cell
       go_wp2
       (try (go_quiet (fail); go_wp2))
       go_ret
       exact ⟨rfl, by repeat (first | with_reducible exact HB5.out | refine bl_drewN ?_ _ | refine Below.drew ?_ | refine bl_alloc ?_ _ | refine bl_set ?_ (by dsimp only; omega) _)⟩)
  obtain ⟨p, q, hpq⟩ : ∃ p q, lowOf ts cr = (p, q) := ⟨_, _, rfl⟩
  have hl5 : ts.length ≤ 5 := setB_len hs
  have HP := Lib.hid hpq
  have HSET := Lib.hid hs
  clear hpq
  by_cases hl0 : ts.length = 0
  · have hb0 : ((ts.length : Int) == 0) = true := by rw [beq_iff_eq]; omega
    clear hl0
    go_wp2_with fail
    (try (go_quiet (fail); go_wp2_with fail))
    refine (iLow_is _ At _ ct ts cr ((HTt.out.below (by repeat (first | with_reducible exact HDt1.out | with_reducible refine Below.drew ?_ | with_reducible refine bl_drewN ?_ _ | with_reducible refine bl_alloc ?_ _) : Below w1.heap.size w1 _)).more (Below.size (by repeat (first | with_reducible exact HDt1.out | with_reducible refine Below.drew ?_ | with_reducible refine bl_drewN ?_ _ | with_reducible refine bl_alloc ?_ _) : Below w1.heap.size w1 _))) (by omega) e0 (by repeat (first | exact HE.out.below HB1.out | refine EG.drewN ?_ _ | refine EG.drew ?_ | refine EG.alloc ?_ _)) p q HP.out).mono ?_
    rintro e w2 ⟨rfl, hb⟩
    have hs2 := hb.size
    have HB2 := Lib.hid (show Below w.heap.size w w2 from bl_trans (by repeat (first | with_reducible exact HB1.out | with_reducible refine bl_drewN ?_ _ | with_reducible refine Below.drew ?_ | with_reducible refine bl_alloc ?_ _)) hb)
    have HDt2 := Lib.hid (show Below w1.heap.size w1 w2 from bl_trans (by repeat (first | with_reducible exact HDt1.out | with_reducible refine Below.drew ?_ | with_reducible refine bl_drewN ?_ _ | with_reducible refine bl_alloc ?_ _)) hb)
    clear hb HB1 HDt1
    have hS2 := (Blk.two (show Blk (w2.alloc (.cells #[.int .i64 (p : Int), .int .i64 (q : Int)] 27)) (w2.heap.size) 27 #[.int .i64 (p : Int), .int .i64 (q : Int)] from by have hh := Blk.new w2 27 #[.int .i64 (p : Int), .int .i64 (q : Int)]; (try simp only [World.size_alloc] at hh); repeat (first | exact hh | with_reducible refine Blk.alloc ?_ _)))
    go_wp2_with fail
    first
    | (go_region_held3 (fun W => (W.cell? ⟨w2.heap.size, 0, none⟩ = some (.int .i64 (p : Int)) ∧ W.cell? ⟨w2.heap.size, 1, none⟩ = some (.int .i64 (q : Int)))) (first | exact hS2 | exact hS3 | exact hS4)
      ((first
        | (have uu := HB2; clear uu; go_at_call 16; refine (sLow_is _ At _ ct ts cr ((HTt.out.below (by repeat (first | with_reducible exact HDt2.out | with_reducible refine Below.drew ?_ | with_reducible refine bl_drewN ?_ _ | with_reducible refine bl_alloc ?_ _) : Below w1.heap.size w1 _)).more (Below.size (by repeat (first | with_reducible exact HDt2.out | with_reducible refine Below.drew ?_ | with_reducible refine bl_drewN ?_ _ | with_reducible refine bl_alloc ?_ _) : Below w1.heap.size w1 _))) (by omega) p q HP.out).mono ?_; rintro e w3 ⟨rfl, hb⟩; have hs3 := hb.size; have HB3 := Lib.hid (show Below w.heap.size w w3 from bl_trans (by repeat (first | with_reducible exact HB2.out | with_reducible refine bl_drewN ?_ _ | with_reducible refine Below.drew ?_ | with_reducible refine bl_alloc ?_ _)) hb); have bs3 := Lib.hid (show Blk w3 (w2.heap.size) 27 #[.int .i64 (p : Int), .int .i64 (q : Int)] from Blk.below (by have hh := Blk.new w2 27 #[.int .i64 (p : Int), .int .i64 (q : Int)]; (try simp only [World.size_alloc] at hh); repeat (first | exact hh | with_reducible refine Blk.drewN ?_ _ | with_reducible refine Blk.drew ?_ | with_reducible refine Blk.alloc ?_ _)) hb (by first | omega | (simp; done) | (simp; omega))); have cs := bs3.out.cell; have HDt3 := Lib.hid (show Below w1.heap.size w1 w3 from bl_trans (by repeat (first | with_reducible exact HDt2.out | with_reducible refine Below.drew ?_ | with_reducible refine bl_drewN ?_ _ | with_reducible refine bl_alloc ?_ _)) hb); have hS3 := Blk.two bs3.out; clear hb HB2)
        | (have uu := HB3; clear uu; go_at_call 17; refine (iSetValid_any _ At _ ct ts ((HTt.out.below (by repeat (first | with_reducible exact HDt3.out | with_reducible refine Below.drew ?_ | with_reducible refine bl_drewN ?_ _ | with_reducible refine bl_alloc ?_ _) : Below w1.heap.size w1 _)).more (Below.size (by repeat (first | with_reducible exact HDt3.out | with_reducible refine Below.drew ?_ | with_reducible refine bl_drewN ?_ _ | with_reducible refine bl_alloc ?_ _) : Below w1.heap.size w1 _))) (by omega)).mono ?_; rintro e w4 ⟨rfl, hb⟩; have hs4 := hb.size; have HB4 := Lib.hid (show Below w.heap.size w w4 from bl_trans (by repeat (first | with_reducible exact HB3.out | with_reducible refine bl_drewN ?_ _ | with_reducible refine Below.drew ?_ | with_reducible refine bl_alloc ?_ _)) hb); have bs4 := Lib.hid (show Blk w4 (w2.heap.size) 27 #[.int .i64 (p : Int), .int .i64 (q : Int)] from Blk.below (by repeat (first | with_reducible exact bs3.out | with_reducible refine Blk.drewN ?_ _ | with_reducible refine Blk.drew ?_ | with_reducible refine Blk.alloc ?_ _)) hb (by have := bs3.out.lt; first | exact this | omega | (simp; omega))); have cs := bs4.out.cell; have HDt4 := Lib.hid (show Below w1.heap.size w1 w4 from bl_trans (by repeat (first | with_reducible exact HDt3.out | with_reducible refine Below.drew ?_ | with_reducible refine bl_drewN ?_ _ | with_reducible refine bl_alloc ?_ _)) hb); have hS4 := Blk.two bs4.out; clear hb HB3))))
    | fail "no region"
    have hks4 := bs4.out.lt
    have cs := bs4.out.cell
    have hS4 := (Blk.two (show Blk w4 (w2.heap.size) 27 #[.int .i64 (p : Int), .int .i64 (q : Int)] from by repeat (first | with_reducible exact bs4.out | with_reducible refine Blk.alloc ?_ _)))
    go_wp2_with fail
    first
    | (go_region_held3 (fun W => (W.cell? ⟨w2.heap.size, 0, none⟩ = some (.int .i64 (p : Int)) ∧ W.cell? ⟨w2.heap.size, 1, none⟩ = some (.int .i64 (q : Int)))) (first | exact hS4 | exact hS5)
      ((first
        | (have uu := HB4; clear uu; go_at_call 16; refine (sLow_is _ At _ ct ts cr ((HTt.out.below (by repeat (first | with_reducible exact HDt4.out | with_reducible refine Below.drew ?_ | with_reducible refine bl_drewN ?_ _ | with_reducible refine bl_alloc ?_ _) : Below w1.heap.size w1 _)).more (Below.size (by repeat (first | with_reducible exact HDt4.out | with_reducible refine Below.drew ?_ | with_reducible refine bl_drewN ?_ _ | with_reducible refine bl_alloc ?_ _) : Below w1.heap.size w1 _))) (by omega) p q HP.out).mono ?_; rintro e w5 ⟨rfl, hb⟩; have hs5 := hb.size; have HB5 := Lib.hid (show Below w.heap.size w w5 from bl_trans (by repeat (first | with_reducible exact HB4.out | with_reducible refine bl_drewN ?_ _ | with_reducible refine Below.drew ?_ | with_reducible refine bl_alloc ?_ _)) hb); have bs5 := Lib.hid (show Blk w5 (w2.heap.size) 27 #[.int .i64 (p : Int), .int .i64 (q : Int)] from Blk.below (by repeat (first | with_reducible exact bs4.out | with_reducible refine Blk.drewN ?_ _ | with_reducible refine Blk.drew ?_ | with_reducible refine Blk.alloc ?_ _)) hb (by have := bs4.out.lt; first | exact this | omega | (simp; omega))); have cs := bs5.out.cell; have HDt5 := Lib.hid (show Below w1.heap.size w1 w5 from bl_trans (by repeat (first | with_reducible exact HDt4.out | with_reducible refine Below.drew ?_ | with_reducible refine bl_drewN ?_ _ | with_reducible refine bl_alloc ?_ _)) hb); have hS5 := Blk.two bs5.out; clear hb HB4))))
    | fail "no region"
    have hks5 := bs5.out.lt
    have cs := bs5.out.cell
    go_wp2
    (try (go_quiet (fail); go_wp2))
    go_ret
    exact ⟨rfl, by repeat (first | with_reducible exact HB5.out | refine bl_drewN ?_ _ | refine Below.drew ?_ | refine bl_alloc ?_ _ | refine bl_set ?_ (by dsimp only; omega) _)⟩
  have hb0 : ((ts.length : Int) == 0) = false := by rw [beq_eq_false_iff_ne]; omega
  go_wp2_with fail
  (try (go_quiet (fail); go_wp2_with fail))
  refine (iLow_is _ At _ ct ts cr ((HTt.out.below (by repeat (first | with_reducible exact HDt1.out | with_reducible refine Below.drew ?_ | with_reducible refine bl_drewN ?_ _ | with_reducible refine bl_alloc ?_ _) : Below w1.heap.size w1 _)).more (Below.size (by repeat (first | with_reducible exact HDt1.out | with_reducible refine Below.drew ?_ | with_reducible refine bl_drewN ?_ _ | with_reducible refine bl_alloc ?_ _) : Below w1.heap.size w1 _))) (by omega) e0 (by repeat (first | exact HE.out.below HB1.out | refine EG.drewN ?_ _ | refine EG.drew ?_ | refine EG.alloc ?_ _)) p q HP.out).mono ?_
  rintro e w2 ⟨rfl, hb⟩
  have hs2 := hb.size
  have HB2 := Lib.hid (show Below w.heap.size w w2 from bl_trans (by repeat (first | with_reducible exact HB1.out | with_reducible refine bl_drewN ?_ _ | with_reducible refine Below.drew ?_ | with_reducible refine bl_alloc ?_ _)) hb)
  have HDt2 := Lib.hid (show Below w1.heap.size w1 w2 from bl_trans (by repeat (first | with_reducible exact HDt1.out | with_reducible refine Below.drew ?_ | with_reducible refine bl_drewN ?_ _ | with_reducible refine bl_alloc ?_ _)) hb)
  clear hb HB1 HDt1
  have hS2 := (Blk.two (show Blk (w2.alloc (.cells #[.int .i64 (p : Int), .int .i64 (q : Int)] 27)) (w2.heap.size) 27 #[.int .i64 (p : Int), .int .i64 (q : Int)] from by have hh := Blk.new w2 27 #[.int .i64 (p : Int), .int .i64 (q : Int)]; (try simp only [World.size_alloc] at hh); repeat (first | exact hh | with_reducible refine Blk.alloc ?_ _)))
  go_wp2_with fail
  first
  | (go_region_held3 (fun W => (W.cell? ⟨w2.heap.size, 0, none⟩ = some (.int .i64 (p : Int)) ∧ W.cell? ⟨w2.heap.size, 1, none⟩ = some (.int .i64 (q : Int)))) (first | exact hS2 | exact hS3 | exact hS4)
    ((first
      | (have uu := HB2; clear uu; go_at_call 16; refine (sLow_is _ At _ ct ts cr ((HTt.out.below (by repeat (first | with_reducible exact HDt2.out | with_reducible refine Below.drew ?_ | with_reducible refine bl_drewN ?_ _ | with_reducible refine bl_alloc ?_ _) : Below w1.heap.size w1 _)).more (Below.size (by repeat (first | with_reducible exact HDt2.out | with_reducible refine Below.drew ?_ | with_reducible refine bl_drewN ?_ _ | with_reducible refine bl_alloc ?_ _) : Below w1.heap.size w1 _))) (by omega) p q HP.out).mono ?_; rintro e w3 ⟨rfl, hb⟩; have hs3 := hb.size; have HB3 := Lib.hid (show Below w.heap.size w w3 from bl_trans (by repeat (first | with_reducible exact HB2.out | with_reducible refine bl_drewN ?_ _ | with_reducible refine Below.drew ?_ | with_reducible refine bl_alloc ?_ _)) hb); have bs3 := Lib.hid (show Blk w3 (w2.heap.size) 27 #[.int .i64 (p : Int), .int .i64 (q : Int)] from Blk.below (by have hh := Blk.new w2 27 #[.int .i64 (p : Int), .int .i64 (q : Int)]; (try simp only [World.size_alloc] at hh); repeat (first | exact hh | with_reducible refine Blk.drewN ?_ _ | with_reducible refine Blk.drew ?_ | with_reducible refine Blk.alloc ?_ _)) hb (by first | omega | (simp; done) | (simp; omega))); have cs := bs3.out.cell; have HDt3 := Lib.hid (show Below w1.heap.size w1 w3 from bl_trans (by repeat (first | with_reducible exact HDt2.out | with_reducible refine Below.drew ?_ | with_reducible refine bl_drewN ?_ _ | with_reducible refine bl_alloc ?_ _)) hb); have hS3 := Blk.two bs3.out; clear hb HB2)
      | (have uu := HB3; clear uu; go_at_call 17; refine (iSetValid_any _ At _ ct ts ((HTt.out.below (by repeat (first | with_reducible exact HDt3.out | with_reducible refine Below.drew ?_ | with_reducible refine bl_drewN ?_ _ | with_reducible refine bl_alloc ?_ _) : Below w1.heap.size w1 _)).more (Below.size (by repeat (first | with_reducible exact HDt3.out | with_reducible refine Below.drew ?_ | with_reducible refine bl_drewN ?_ _ | with_reducible refine bl_alloc ?_ _) : Below w1.heap.size w1 _))) (by omega)).mono ?_; rintro e w4 ⟨rfl, hb⟩; have hs4 := hb.size; have HB4 := Lib.hid (show Below w.heap.size w w4 from bl_trans (by repeat (first | with_reducible exact HB3.out | with_reducible refine bl_drewN ?_ _ | with_reducible refine Below.drew ?_ | with_reducible refine bl_alloc ?_ _)) hb); have bs4 := Lib.hid (show Blk w4 (w2.heap.size) 27 #[.int .i64 (p : Int), .int .i64 (q : Int)] from Blk.below (by repeat (first | with_reducible exact bs3.out | with_reducible refine Blk.drewN ?_ _ | with_reducible refine Blk.drew ?_ | with_reducible refine Blk.alloc ?_ _)) hb (by have := bs3.out.lt; first | exact this | omega | (simp; omega))); have cs := bs4.out.cell; have HDt4 := Lib.hid (show Below w1.heap.size w1 w4 from bl_trans (by repeat (first | with_reducible exact HDt3.out | with_reducible refine Below.drew ?_ | with_reducible refine bl_drewN ?_ _ | with_reducible refine bl_alloc ?_ _)) hb); have hS4 := Blk.two bs4.out; clear hb HB3))))
  | fail "no region"
  have hks4 := bs4.out.lt
  obtain ⟨t0, ht0⟩ : ∃ t, ts[0]? = some t := ⟨ts[0]'(by omega), List.getElem?_eq_getElem _⟩
  have htk : ts.take 1 = [t0] := take_one ht0
  have hok : t0.ok = true := ok_of_set HSET.out (List.mem_of_getElem? ht0)
  have hs1 : setB (ts.take 1) = true := by have h := HSET.out; unfold setB at h ⊢; simp at h ⊢; exact ⟨by omega, fun t ht => h.2 t (List.mem_of_mem_take ht)⟩
  obtain ⟨p1, q1, hp1⟩ : ∃ p q, lowOf (ts.take 1) t0.cr = (p, q) := ⟨_, _, rfl⟩
  obtain ⟨p2, q2, hp2⟩ : ∃ p q, highOf (ts.take 1) = (p, q) := ⟨_, _, rfl⟩
  obtain ⟨z1, hz1⟩ : ∃ z, cmpS p1 q1 1 1 = z := ⟨_, rfl⟩
  obtain ⟨z2, hz2⟩ : ∃ z, cmpS p2 q2 1 1 = z := ⟨_, rfl⟩
  have h11 : Sh 1 1 := ⟨by omega, by omega, by omega, by decide⟩
  have hsl := (lowOf_sh t0.cr hs1).1
  have hsh := (highOf_sh hs1).1
  rw [hp1] at hsl
  rw [hp2] at hsh
  have el : lowOf (ts.take 1) t0.cr = lowL [t0] t0.cr := by unfold lowOf; rw [hs1, htk]; rfl
  have eh : highOf (ts.take 1) = lowL (critL [t0]) true := by unfold highOf; rw [hs1, htk]; rfl
  have hone := low_one hok
  rw [← hone.1, ← el, hp1] at hone
  have hhi := high_one hok
  rw [← eh, hp2] at hhi
  have y1 : z1 ≤ 0 := by rw [← hz1]; exact (show cmpS p1 q1 ((1 : Nat) : Int) ((1 : Nat) : Int) ≤ 0 by rw [cmp_sh hsl h11]; exact (cmp_le _ _).2 hone.2.2)
  have y2 : z2 ≤ 0 := by rw [← hz2]; exact (show cmpS p2 q2 ((1 : Nat) : Int) ((1 : Nat) : Int) ≤ 0 by rw [cmp_sh hsh h11]; exact (cmp_le _ _).2 hhi)
  have y3 : (0 : Int) < (p1 : Int) := by have : 0 < p1 := hone.2.1; omega
  have HZ1 := Lib.hid hz1
  have HZ2 := Lib.hid hz2
  have HP1 := Lib.hid hp1
  have HP2 := Lib.hid hp2
  have HT0 := Lib.hid ht0
  obtain ⟨cc, hcc⟩ : ∃ c, t0.cr = c := ⟨_, rfl⟩
  have HCC := Lib.hid hcc
  obtain ⟨gg, rfl, hcap1, hcap2⟩ := own_cap HO.out (by omega)
  unfold maxLen at hcap2
  clear HO htk hok hs1 h11 hsl hsh el eh hone hhi hz1 hz2 hp1 hp2 ht0 hcc
  have j1 : (1 : Int) ≤ (ts.length : Int) := by omega
  have j2 : (1 : Int) ≤ (ct : Int) := by omega
  have j3 : (0 : Int) < (ts.length : Int) := by omega
  have j4 : (ts.length : Int) ≤ (ct : Int) := by omega
  have j5 : 0 < ts.length := by omega
  have j6 : ts ≠ [] := by intro e; rw [e] at j5; exact absurd j5 (by simp)
  have y4 : decide (0 < p1) = true := by rw [decide_eq_true_iff]; omega
  have HL1 := Lib.hid (fun (W : World) (nn cp : Nat) (hnn : nn = 1) (hD : Below w1.heap.size w1 W) (hE : EG W e0) => iLow_is W (some ⟨gg, 0, none⟩) nn cp (ts.take 1) cc (by rw [hnn]; exact Tks.take ((HTt.out.below hD).more hD.size) (by omega)) (by omega) e0 hE p1 q1 (by rw [← HCC.out]; exact HP1.out))
  have HL2 := Lib.hid (fun (W : World) (nn cp : Nat) (hnn : nn = 1) (hD : Below w1.heap.size w1 W) (hE : EG W e0) => iHigh_is W (some ⟨gg, 0, none⟩) nn cp (ts.take 1) (by rw [hnn]; exact Tks.take ((HTt.out.below hD).more hD.size) (by omega)) (by omega) e0 hE p2 q2 HP2.out)
  have hgg4 : gg < w4.heap.size := lt_of_tks HTt.out HT0.out HDt4.out
  have cs := fun o0 => (bs4.out.alloc o0).cell
  have hS4 : ((w4.alloc (.cells #[.int .i64 1, .int .i64 1] 27))).cell? ⟨gg, 4, none⟩ = some (.bool cc) := by rw [← HCC.out]; exact crit0 (HTt.out.below (by repeat (first | with_reducible exact HDt4.out | with_reducible refine Below.drew ?_ | with_reducible refine bl_drewN ?_ _ | with_reducible refine bl_alloc ?_ _))) HT0.out
  have hks4 := bs4.out.lt
  have hz4 := HB4.out.size
  have hzdt4 := HDt4.out.size
  have hN4 : Blk ((w4.alloc (.cells #[.int .i64 1, .int .i64 1] 27)).alloc (.cells #[.int .i64 0, .int .i64 0] 27)) (w4.heap.size + 1) 27 #[.int .i64 0, .int .i64 0] := by have hh := Blk.new (w4.alloc (.cells #[.int .i64 1, .int .i64 1] 27)) 27 #[.int .i64 0, .int .i64 0]; (try simp only [World.size_alloc] at hh); exact hh
  go_wp2_with fail
  first
  | (go_region_held3 (fun W => W.cell? ⟨gg, 4, none⟩ = some (.bool cc)) (first | exact hS4 | exact hS5 | exact one_alloc hS4 _ | exact one_alloc hS5 _ | exact one_set hS5 (by omega) _ _)
    ((first
      | (have uu := HB4; clear uu; go_at_call 15; (with_reducible refine (HL1.out _ _ _ ?_ ?_ ?_).mono ?_); (· (first | rfl | omega)); (· (repeat (first | with_reducible exact HDt4.out | with_reducible refine Below.drew ?_ | with_reducible refine bl_drewN ?_ _ | with_reducible refine bl_alloc ?_ _))); (· (repeat (first | exact HE.out.below HB4.out | with_reducible refine EG.drewN ?_ _ | with_reducible refine EG.drew ?_ | with_reducible refine EG.alloc ?_ _))); rintro e w5 ⟨rfl, hb⟩; have hs5 := hb.size; have HB5 := Lib.hid (show Below w.heap.size w w5 from bl_trans (by repeat (first | with_reducible exact HB4.out | with_reducible refine bl_drewN ?_ _ | with_reducible refine Below.drew ?_ | with_reducible refine bl_alloc ?_ _)) hb); have bs5 := Lib.hid (show Blk w5 (w2.heap.size) 27 #[.int .i64 (p : Int), .int .i64 (q : Int)] from Blk.below (by repeat (first | with_reducible exact bs4.out | with_reducible refine Blk.drewN ?_ _ | with_reducible refine Blk.drew ?_ | with_reducible refine Blk.alloc ?_ _)) hb (by have := bs4.out.lt; first | exact this | omega | (simp; omega))); have cs := bs5.out.cell; have bone5 := Lib.hid (show Blk w5 (w4.heap.size) 27 #[.int .i64 1, .int .i64 1] from Blk.below (by have hh := Blk.new w4 27 #[.int .i64 1, .int .i64 1]; (try simp only [World.size_alloc] at hh); repeat (first | exact hh | with_reducible refine Blk.drewN ?_ _ | with_reducible refine Blk.drew ?_ | with_reducible refine Blk.alloc ?_ _)) hb (by first | omega | (simp; done) | (simp; omega))); have cone := bone5.out.cell; have HDt5 := Lib.hid (show Below w1.heap.size w1 w5 from bl_trans (by repeat (first | with_reducible exact HDt4.out | with_reducible refine Below.drew ?_ | with_reducible refine bl_drewN ?_ _ | with_reducible refine bl_alloc ?_ _)) hb); have hS5 := crit0c (HTt.out.below HDt5.out) HT0.out HCC.out; have hgg5 : gg < w5.heap.size := lt_of_tks HTt.out HT0.out HDt5.out; have hks5 := bs5.out.lt; have hkone5 := bone5.out.lt; have hz5 := HB5.out.size; have hzdt5 := HDt5.out.size; (first | (have bC := Lib.hid (show Blk w5 (w4.heap.size + 1) 27 #[.int .i64 0, .int .i64 0] from Blk.below (Blk.drew hN4) hb hN4.lt)) | (have bC := Lib.hid (show Blk w5 (w4.heap.size + 1) 27 #[.int .i64 0, .int .i64 0] from Blk.below hN4 hb hN4.lt)) | (have bC := Lib.hid (Blk.below (Blk.drew bC.out) hb bC.out.lt)) | (have bC := Lib.hid (Blk.below bC.out hb bC.out.lt)) | skip); (first | (have cC := bC.out.cell; have fC := bC.out.frozen) | skip); have hN5 := Blk.new w5 27 #[.int .i64 0, .int .i64 0]; clear hb HB4))))
  | fail "no region"
  all_goals first
    | (have bx6 := Lib.hid (show Blk ((w5.setCell ⟨w4.heap.size + 1, 0, none⟩ (.int .i64 (p1 : Int))).setCell ⟨w4.heap.size + 1, 1, none⟩ (.int .i64 (q1 : Int))) (w4.heap.size + 1) 27 #[.int .i64 (p1 : Int), .int .i64 (q1 : Int)] from (bC.out.set_ 0 _).set_ 1 _)
       have hnes : (w2.heap.size) ≠ w4.heap.size + 1 := by omega
       have bs6 := Lib.hid (show Blk ((w5.setCell ⟨w4.heap.size + 1, 0, none⟩ (.int .i64 (p1 : Int))).setCell ⟨w4.heap.size + 1, 1, none⟩ (.int .i64 (q1 : Int))) (w2.heap.size) 27 #[.int .i64 (p : Int), .int .i64 (q : Int)] from (bs5.out.far hnes _).far hnes _)
       have hneone : (w4.heap.size) ≠ w4.heap.size + 1 := by omega
       have bone6 := Lib.hid (show Blk ((w5.setCell ⟨w4.heap.size + 1, 0, none⟩ (.int .i64 (p1 : Int))).setCell ⟨w4.heap.size + 1, 1, none⟩ (.int .i64 (q1 : Int))) (w4.heap.size) 27 #[.int .i64 1, .int .i64 1] from (bone5.out.far hneone _).far hneone _)
       have HB6 := Lib.hid (show Below w.heap.size w ((w5.setCell ⟨w4.heap.size + 1, 0, none⟩ (.int .i64 (p1 : Int))).setCell ⟨w4.heap.size + 1, 1, none⟩ (.int .i64 (q1 : Int))) from bl_set (bl_set HB5.out (by dsimp only; omega) _) (by dsimp only; omega) _)
       have HDt6 := Lib.hid (show Below w1.heap.size w1 ((w5.setCell ⟨w4.heap.size + 1, 0, none⟩ (.int .i64 (p1 : Int))).setCell ⟨w4.heap.size + 1, 1, none⟩ (.int .i64 (q1 : Int))) from bl_set (bl_set HDt5.out (by dsimp only; omega) _) (by dsimp only; omega) _)
       clear bs5 bone5 HB5 HDt5 cs cone cC fC bC
       generalize ((w5.setCell ⟨w4.heap.size + 1, 0, none⟩ (.int .i64 (p1 : Int))).setCell ⟨w4.heap.size + 1, 1, none⟩ (.int .i64 (q1 : Int))) = w6 at *
       generalize w4.heap.size + 1 = ax at *)
    | (have bx6 := Lib.hid (show Blk (w5.alloc (.cells #[.int .i64 (p1 : Int), .int .i64 (q1 : Int)] 27)) (w5.heap.size) 27 #[.int .i64 (p1 : Int), .int .i64 (q1 : Int)] from Blk.new w5 27 _)
       have bs6 := Lib.hid (show Blk (w5.alloc (.cells #[.int .i64 (p1 : Int), .int .i64 (q1 : Int)] 27)) (w2.heap.size) 27 #[.int .i64 (p : Int), .int .i64 (q : Int)] from bs5.out.alloc _)
       have bone6 := Lib.hid (show Blk (w5.alloc (.cells #[.int .i64 (p1 : Int), .int .i64 (q1 : Int)] 27)) (w4.heap.size) 27 #[.int .i64 1, .int .i64 1] from bone5.out.alloc _)
       have HB6 := Lib.hid (show Below w.heap.size w (w5.alloc (.cells #[.int .i64 (p1 : Int), .int .i64 (q1 : Int)] 27)) from bl_alloc HB5.out _)
       have HDt6 := Lib.hid (show Below w1.heap.size w1 (w5.alloc (.cells #[.int .i64 (p1 : Int), .int .i64 (q1 : Int)] 27)) from bl_alloc HDt5.out _)
       clear bs5 bone5 HB5 HDt5 cs cone
       generalize (w5.alloc (.cells #[.int .i64 (p1 : Int), .int .i64 (q1 : Int)] 27)) = w6 at *
       generalize w5.heap.size = ax at *)
  all_goals have hks6 := bs6.out.lt
  all_goals have hkone6 := bone6.out.lt
  all_goals have hkx6 := bx6.out.lt
  all_goals
    (skip
     have cs := bs6.out.cell
     have cone := bone6.out.cell
     have cx := bx6.out.cell
     have hS6 := And.intro (Blk.two (show Blk w6 (ax) 27 #[.int .i64 (p1 : Int), .int .i64 (q1 : Int)] from by repeat (first | with_reducible exact bx6.out | with_reducible refine Blk.alloc ?_ _))) (Blk.two (show Blk w6 (w4.heap.size) 27 #[.int .i64 1, .int .i64 1] from by repeat (first | with_reducible exact bone6.out | with_reducible refine Blk.alloc ?_ _)))
     go_wp2_with fail
     first
     | (go_region_held3 (fun W => (W.cell? ⟨ax, 0, none⟩ = some (.int .i64 (p1 : Int)) ∧ W.cell? ⟨ax, 1, none⟩ = some (.int .i64 (q1 : Int))) ∧ (W.cell? ⟨w4.heap.size, 0, none⟩ = some (.int .i64 1) ∧ W.cell? ⟨w4.heap.size, 1, none⟩ = some (.int .i64 1))) (first | exact hS6 | exact hS7 | exact hS8 | exact hS9)
       ((first
         | (have uu := HB6; clear uu; go_at_call 20; refine (iCmp_is _ (p1 : Int) (q1 : Int) 1 1 z1 HZ1.out).mono ?_; rintro e w7 ⟨rfl, hb⟩; have hs7 := hb.size; have HB7 := Lib.hid (show Below w.heap.size w w7 from bl_trans (by repeat (first | with_reducible exact HB6.out | with_reducible refine bl_drewN ?_ _ | with_reducible refine Below.drew ?_ | with_reducible refine bl_alloc ?_ _)) hb); have bs7 := Lib.hid (show Blk w7 (w2.heap.size) 27 #[.int .i64 (p : Int), .int .i64 (q : Int)] from Blk.below (by repeat (first | with_reducible exact bs6.out | with_reducible refine Blk.drewN ?_ _ | with_reducible refine Blk.drew ?_ | with_reducible refine Blk.alloc ?_ _)) hb (by have := bs6.out.lt; first | exact this | omega | (simp; omega))); have cs := bs7.out.cell; have bone7 := Lib.hid (show Blk w7 (w4.heap.size) 27 #[.int .i64 1, .int .i64 1] from Blk.below (by repeat (first | with_reducible exact bone6.out | with_reducible refine Blk.drewN ?_ _ | with_reducible refine Blk.drew ?_ | with_reducible refine Blk.alloc ?_ _)) hb (by have := bone6.out.lt; first | exact this | omega | (simp; omega))); have cone := bone7.out.cell; have bx7 := Lib.hid (show Blk w7 ax 27 #[.int .i64 (p1 : Int), .int .i64 (q1 : Int)] from Blk.below (by repeat (first | with_reducible exact bx6.out | with_reducible refine Blk.drewN ?_ _ | with_reducible refine Blk.drew ?_ | with_reducible refine Blk.alloc ?_ _)) hb (by have := bx6.out.lt; first | exact this | omega | (simp; omega))); have cx := bx7.out.cell; have HDt7 := Lib.hid (show Below w1.heap.size w1 w7 from bl_trans (by repeat (first | with_reducible exact HDt6.out | with_reducible refine Below.drew ?_ | with_reducible refine bl_drewN ?_ _ | with_reducible refine bl_alloc ?_ _)) hb); have hS7 := And.intro (Blk.two bx7.out) (Blk.two bone7.out); clear hb HB6)
         | (have uu := HB7; clear uu; go_at_call 18; (with_reducible refine (HL2.out _ _ _ ?_ ?_ ?_).mono ?_); (· (first | rfl | omega)); (· (repeat (first | with_reducible exact HDt7.out | with_reducible refine Below.drew ?_ | with_reducible refine bl_drewN ?_ _ | with_reducible refine bl_alloc ?_ _))); (· (repeat (first | exact HE.out.below HB7.out | with_reducible refine EG.drewN ?_ _ | with_reducible refine EG.drew ?_ | with_reducible refine EG.alloc ?_ _))); rintro e w8 ⟨rfl, hb⟩; have hs8 := hb.size; have HB8 := Lib.hid (show Below w.heap.size w w8 from bl_trans (by repeat (first | with_reducible exact HB7.out | with_reducible refine bl_drewN ?_ _ | with_reducible refine Below.drew ?_ | with_reducible refine bl_alloc ?_ _)) hb); have bs8 := Lib.hid (show Blk w8 (w2.heap.size) 27 #[.int .i64 (p : Int), .int .i64 (q : Int)] from Blk.below (by repeat (first | with_reducible exact bs7.out | with_reducible refine Blk.drewN ?_ _ | with_reducible refine Blk.drew ?_ | with_reducible refine Blk.alloc ?_ _)) hb (by have := bs7.out.lt; first | exact this | omega | (simp; omega))); have cs := bs8.out.cell; have bone8 := Lib.hid (show Blk w8 (w4.heap.size) 27 #[.int .i64 1, .int .i64 1] from Blk.below (by repeat (first | with_reducible exact bone7.out | with_reducible refine Blk.drewN ?_ _ | with_reducible refine Blk.drew ?_ | with_reducible refine Blk.alloc ?_ _)) hb (by have := bone7.out.lt; first | exact this | omega | (simp; omega))); have cone := bone8.out.cell; have bx8 := Lib.hid (show Blk w8 ax 27 #[.int .i64 (p1 : Int), .int .i64 (q1 : Int)] from Blk.below (by repeat (first | with_reducible exact bx7.out | with_reducible refine Blk.drewN ?_ _ | with_reducible refine Blk.drew ?_ | with_reducible refine Blk.alloc ?_ _)) hb (by have := bx7.out.lt; first | exact this | omega | (simp; omega))); have cx := bx8.out.cell; have HDt8 := Lib.hid (show Below w1.heap.size w1 w8 from bl_trans (by repeat (first | with_reducible exact HDt7.out | with_reducible refine Below.drew ?_ | with_reducible refine bl_drewN ?_ _ | with_reducible refine bl_alloc ?_ _)) hb); have hS8 := And.intro (Blk.two bx8.out) (Blk.two bone8.out); clear hb HB7)
         | (have uu := HB8; clear uu; go_at_call 20; refine (iCmp_is _ (p2 : Int) (q2 : Int) 1 1 z2 HZ2.out).mono ?_; rintro e w9 ⟨rfl, hb⟩; have hs9 := hb.size; have HB9 := Lib.hid (show Below w.heap.size w w9 from bl_trans (by repeat (first | with_reducible exact HB8.out | with_reducible refine bl_drewN ?_ _ | with_reducible refine Below.drew ?_ | with_reducible refine bl_alloc ?_ _)) hb); have bs9 := Lib.hid (show Blk w9 (w2.heap.size) 27 #[.int .i64 (p : Int), .int .i64 (q : Int)] from Blk.below (by repeat (first | with_reducible exact bs8.out | with_reducible refine Blk.drewN ?_ _ | with_reducible refine Blk.drew ?_ | with_reducible refine Blk.alloc ?_ _)) hb (by have := bs8.out.lt; first | exact this | omega | (simp; omega))); have cs := bs9.out.cell; have bone9 := Lib.hid (show Blk w9 (w4.heap.size) 27 #[.int .i64 1, .int .i64 1] from Blk.below (by repeat (first | with_reducible exact bone8.out | with_reducible refine Blk.drewN ?_ _ | with_reducible refine Blk.drew ?_ | with_reducible refine Blk.alloc ?_ _)) hb (by have := bone8.out.lt; first | exact this | omega | (simp; omega))); have cone := bone9.out.cell; have bx9 := Lib.hid (show Blk w9 ax 27 #[.int .i64 (p1 : Int), .int .i64 (q1 : Int)] from Blk.below (by repeat (first | with_reducible exact bx8.out | with_reducible refine Blk.drewN ?_ _ | with_reducible refine Blk.drew ?_ | with_reducible refine Blk.alloc ?_ _)) hb (by have := bx8.out.lt; first | exact this | omega | (simp; omega))); have cx := bx9.out.cell; have HDt9 := Lib.hid (show Below w1.heap.size w1 w9 from bl_trans (by repeat (first | with_reducible exact HDt8.out | with_reducible refine Below.drew ?_ | with_reducible refine bl_drewN ?_ _ | with_reducible refine bl_alloc ?_ _)) hb); have hS9 := And.intro (Blk.two bx9.out) (Blk.two bone9.out); clear hb HB8))))
     | fail "no region"
     have hks9 := bs9.out.lt
     have hkone9 := bone9.out.lt
     have hkx9 := bx9.out.lt
     have cs := bs9.out.cell
     have cone := bone9.out.cell
     have cx := bx9.out.cell
     go_wp2
     (try (go_quiet (fail); go_wp2))
     go_ret
     exact ⟨(by first | rfl | (rw [y4]; rfl)), by repeat (first | with_reducible exact HB9.out | refine bl_drewN ?_ _ | refine Below.drew ?_ | refine bl_alloc ?_ _ | refine bl_set ?_ (by dsimp only; omega) _)⟩)

end Go.Proofs.YthaflbgkhlggkaaDoor
