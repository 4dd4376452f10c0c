/- The walks of the laws on shares of tasks. -/
import Derived.Test.YthaflbgkhlggkaaDoorM5
import Derived.Test.YthaflbgkhlggkaaDoorM3
import Derived.Test.YthaflbgkhlggkaaDoorM1
import Derived.Deep.RegionWith
import Derived.Deep.RegionHeld3
namespace Go.Proofs.YthaflbgkhlggkaaDoor
open Go.RowKit
set_option linter.unusedVariables false

set_option maxHeartbeats 2000000 in
theorem fnShareSort_walk (w : World) (A : Option Addr) (n c : Nat) (f : Nat → Int) (h : Code w w.heap.size A n c f) (e0 : Addr) (he : EG w e0) :
    Calls Tryd.prog 7 #[.slice A n c] w fun e w' => e = .returned (.bool true) ∧ Below w.heap.size w w' := by
  have H := Lib.hid h
  have HE := Lib.hid he
  have hle := h.le
  have hmax := h.max
  unfold maxLen at hmax
  clear h he
  by_cases hn : 1048576 < n
  · go_enter Tryd.func7, Tryd.ntmps7
    go_wp2
    go_ret
    exact ⟨rfl, Below.refl _ _⟩
  go_enter Tryd.func7, Tryd.ntmps7
  go_wp2_with fail
  refine (dDrawLowShare_any _ A n c f H.out).mono ?_
  rintro e w1 ⟨At, ct, ts, cr, rfl, hl, ho, hb⟩
  have HB1 := Lib.hid hb
  have HO := Lib.hid ho
  have HTt := Lib.hid ho.reads.2
  clear hb H ho
  have HDt1 := Lib.hid (Below.refl w1.heap.size w1)
  cases hs : setB ts
  · have HP := Lib.hid (lowOf_bad cr hs)
    go_wp2_with fail
    (try (go_quiet (fail); go_wp2_with fail))
    refine (iLow_is _ At _ ct ts cr ((HTt.out.below (by repeat (first | with_reducible exact HDt1.out | with_reducible refine Below.drew ?_ | with_reducible refine bl_drewN ?_ _ | with_reducible refine bl_alloc ?_ _) : Below w1.heap.size w1 _)).more (Below.size (by repeat (first | with_reducible exact HDt1.out | with_reducible refine Below.drew ?_ | with_reducible refine bl_drewN ?_ _ | with_reducible refine bl_alloc ?_ _) : Below w1.heap.size w1 _))) (by omega) e0 (by repeat (first | exact HE.out.below HB1.out | refine EG.drewN ?_ _ | refine EG.drew ?_ | refine EG.alloc ?_ _)) 0 0 HP.out).mono ?_
    rintro e w2 ⟨rfl, hb⟩
    have hs2 := hb.size
    have HB2 := Lib.hid (show Below w.heap.size w w2 from bl_trans (by repeat (first | with_reducible exact HB1.out | with_reducible refine bl_drewN ?_ _ | with_reducible refine Below.drew ?_ | with_reducible refine bl_alloc ?_ _)) hb)
    have HDt2 := Lib.hid (show Below w1.heap.size w1 w2 from bl_trans (by repeat (first | with_reducible exact HDt1.out | with_reducible refine Below.drew ?_ | with_reducible refine bl_drewN ?_ _ | with_reducible refine bl_alloc ?_ _)) hb)
    clear hb HB1 HDt1
    have hS2 := (Blk.two (show Blk (w2.alloc (.cells #[.int .i64 0, .int .i64 0] 27)) (w2.heap.size) 27 #[.int .i64 0, .int .i64 0] from by have hh := Blk.new w2 27 #[.int .i64 0, .int .i64 0]; (try simp only [World.size_alloc] at hh); repeat (first | exact hh | with_reducible refine Blk.alloc ?_ _)))
    go_wp2_with fail
    go_region_held3 (fun W => (W.cell? ⟨w2.heap.size, 0, none⟩ = some (.int .i64 0) ∧ W.cell? ⟨w2.heap.size, 1, none⟩ = some (.int .i64 0))) (first | exact hS2 | exact hS3 | exact hS4)
      ((first
        | (go_at_call 16; refine (sLow_is _ At _ ct ts cr ((HTt.out.below (by repeat (first | with_reducible exact HDt2.out | with_reducible refine Below.drew ?_ | with_reducible refine bl_drewN ?_ _ | with_reducible refine bl_alloc ?_ _) : Below w1.heap.size w1 _)).more (Below.size (by repeat (first | with_reducible exact HDt2.out | with_reducible refine Below.drew ?_ | with_reducible refine bl_drewN ?_ _ | with_reducible refine bl_alloc ?_ _) : Below w1.heap.size w1 _))) (by omega) 0 0 HP.out).mono ?_; rintro e w3 ⟨rfl, hb⟩; have hs3 := hb.size; have HB3 := Lib.hid (show Below w.heap.size w w3 from bl_trans (by repeat (first | with_reducible exact HB2.out | with_reducible refine bl_drewN ?_ _ | with_reducible refine Below.drew ?_ | with_reducible refine bl_alloc ?_ _)) hb); have bs3 := Lib.hid (show Blk w3 (w2.heap.size) 27 #[.int .i64 0, .int .i64 0] from Blk.below (by have hh := Blk.new w2 27 #[.int .i64 0, .int .i64 0]; (try simp only [World.size_alloc] at hh); repeat (first | exact hh | with_reducible refine Blk.drewN ?_ _ | with_reducible refine Blk.drew ?_ | with_reducible refine Blk.alloc ?_ _)) hb (by first | omega | (simp; done) | (simp; omega))); have cs := bs3.out.cell; have HDt3 := Lib.hid (show Below w1.heap.size w1 w3 from bl_trans (by repeat (first | with_reducible exact HDt2.out | with_reducible refine Below.drew ?_ | with_reducible refine bl_drewN ?_ _ | with_reducible refine bl_alloc ?_ _)) hb); have hS3 := Blk.two bs3.out; clear hb)
        | (go_at_call 17; refine (iSetValid_any _ At _ ct ts ((HTt.out.below (by repeat (first | with_reducible exact HDt3.out | with_reducible refine Below.drew ?_ | with_reducible refine bl_drewN ?_ _ | with_reducible refine bl_alloc ?_ _) : Below w1.heap.size w1 _)).more (Below.size (by repeat (first | with_reducible exact HDt3.out | with_reducible refine Below.drew ?_ | with_reducible refine bl_drewN ?_ _ | with_reducible refine bl_alloc ?_ _) : Below w1.heap.size w1 _))) (by omega)).mono ?_; rintro e w4 ⟨rfl, hb⟩; have hs4 := hb.size; have HB4 := Lib.hid (show Below w.heap.size w w4 from bl_trans (by repeat (first | with_reducible exact HB3.out | with_reducible refine bl_drewN ?_ _ | with_reducible refine Below.drew ?_ | with_reducible refine bl_alloc ?_ _)) hb); have bs4 := Lib.hid (show Blk w4 (w2.heap.size) 27 #[.int .i64 0, .int .i64 0] from Blk.below (by repeat (first | with_reducible exact bs3.out | with_reducible refine Blk.drewN ?_ _ | with_reducible refine Blk.drew ?_ | with_reducible refine Blk.alloc ?_ _)) hb (by have := bs3.out.lt; first | exact this | omega | (simp; omega))); have cs := bs4.out.cell; have HDt4 := Lib.hid (show Below w1.heap.size w1 w4 from bl_trans (by repeat (first | with_reducible exact HDt3.out | with_reducible refine Below.drew ?_ | with_reducible refine bl_drewN ?_ _ | with_reducible refine bl_alloc ?_ _)) hb); have hS4 := Blk.two bs4.out; clear hb)))
    have hks4 := bs4.out.lt
    have cs := bs4.out.cell
    have hS4 := (Blk.two (show Blk w4 (w2.heap.size) 27 #[.int .i64 0, .int .i64 0] from by repeat (first | with_reducible exact bs4.out | with_reducible refine Blk.alloc ?_ _)))
    go_wp2_with fail
    go_region_held3 (fun W => (W.cell? ⟨w2.heap.size, 0, none⟩ = some (.int .i64 0) ∧ W.cell? ⟨w2.heap.size, 1, none⟩ = some (.int .i64 0))) (first | exact hS4 | exact hS5)
      ((first
        | (go_at_call 16; refine (sLow_is _ At _ ct ts cr ((HTt.out.below (by repeat (first | with_reducible exact HDt4.out | with_reducible refine Below.drew ?_ | with_reducible refine bl_drewN ?_ _ | with_reducible refine bl_alloc ?_ _) : Below w1.heap.size w1 _)).more (Below.size (by repeat (first | with_reducible exact HDt4.out | with_reducible refine Below.drew ?_ | with_reducible refine bl_drewN ?_ _ | with_reducible refine bl_alloc ?_ _) : Below w1.heap.size w1 _))) (by omega) 0 0 HP.out).mono ?_; rintro e w5 ⟨rfl, hb⟩; have hs5 := hb.size; have HB5 := Lib.hid (show Below w.heap.size w w5 from bl_trans (by repeat (first | with_reducible exact HB4.out | with_reducible refine bl_drewN ?_ _ | with_reducible refine Below.drew ?_ | with_reducible refine bl_alloc ?_ _)) hb); have bs5 := Lib.hid (show Blk w5 (w2.heap.size) 27 #[.int .i64 0, .int .i64 0] from Blk.below (by repeat (first | with_reducible exact bs4.out | with_reducible refine Blk.drewN ?_ _ | with_reducible refine Blk.drew ?_ | with_reducible refine Blk.alloc ?_ _)) hb (by have := bs4.out.lt; first | exact this | omega | (simp; omega))); have cs := bs5.out.cell; have HDt5 := Lib.hid (show Below w1.heap.size w1 w5 from bl_trans (by repeat (first | with_reducible exact HDt4.out | with_reducible refine Below.drew ?_ | with_reducible refine bl_drewN ?_ _ | with_reducible refine bl_alloc ?_ _)) hb); have hS5 := Blk.two bs5.out; clear hb)))
    have hks5 := bs5.out.lt
    have cs := bs5.out.cell
    go_wp2
    (try (go_quiet (fail); go_wp2))
    go_ret
    exact ⟨rfl, by repeat (first | with_reducible exact HB5.out | refine bl_drewN ?_ _ | refine Below.drew ?_ | refine bl_alloc ?_ _ | refine bl_set ?_ (by dsimp only; omega) _)⟩
  obtain ⟨p, q, hpq⟩ : ∃ p q, lowOf ts cr = (p, q) := ⟨_, _, rfl⟩
  have hsh := lowOf_sh cr hs
  rw [hpq] at hsh
  have HS := Lib.hid (show Sh p q from hsh.1)
  have pb : p ≤ 16000000 := hsh.2.1
  have qb : q ≤ 3200000 := hsh.2.2
  have hl5 : ts.length ≤ 5 := setB_len hs
  have HV := Lib.hid (of_sh HS.out)
  have HP := Lib.hid hpq
  have HSET := Lib.hid hs
  clear hpq hsh
  go_wp2_with fail
  (try (go_quiet (fail); go_wp2_with fail))
  refine (iLow_is _ At _ ct ts cr ((HTt.out.below (by repeat (first | with_reducible exact HDt1.out | with_reducible refine Below.drew ?_ | with_reducible refine bl_drewN ?_ _ | with_reducible refine bl_alloc ?_ _) : Below w1.heap.size w1 _)).more (Below.size (by repeat (first | with_reducible exact HDt1.out | with_reducible refine Below.drew ?_ | with_reducible refine bl_drewN ?_ _ | with_reducible refine bl_alloc ?_ _) : Below w1.heap.size w1 _))) (by omega) e0 (by repeat (first | exact HE.out.below HB1.out | refine EG.drewN ?_ _ | refine EG.drew ?_ | refine EG.alloc ?_ _)) p q HP.out).mono ?_
  rintro e w2 ⟨rfl, hb⟩
  have hs2 := hb.size
  have HB2 := Lib.hid (show Below w.heap.size w w2 from bl_trans (by repeat (first | with_reducible exact HB1.out | with_reducible refine bl_drewN ?_ _ | with_reducible refine Below.drew ?_ | with_reducible refine bl_alloc ?_ _)) hb)
  have HDt2 := Lib.hid (show Below w1.heap.size w1 w2 from bl_trans (by repeat (first | with_reducible exact HDt1.out | with_reducible refine Below.drew ?_ | with_reducible refine bl_drewN ?_ _ | with_reducible refine bl_alloc ?_ _)) hb)
  clear hb HB1 HDt1
  have hS2 := (Blk.two (show Blk (w2.alloc (.cells #[.int .i64 (p : Int), .int .i64 (q : Int)] 27)) (w2.heap.size) 27 #[.int .i64 (p : Int), .int .i64 (q : Int)] from by have hh := Blk.new w2 27 #[.int .i64 (p : Int), .int .i64 (q : Int)]; (try simp only [World.size_alloc] at hh); repeat (first | exact hh | with_reducible refine Blk.alloc ?_ _)))
  go_wp2_with fail
  go_region_held3 (fun W => (W.cell? ⟨w2.heap.size, 0, none⟩ = some (.int .i64 (p : Int)) ∧ W.cell? ⟨w2.heap.size, 1, none⟩ = some (.int .i64 (q : Int)))) (first | exact hS2 | exact hS3 | exact hS4)
    ((first
      | (go_at_call 16; refine (sLow_is _ At _ ct ts cr ((HTt.out.below (by repeat (first | with_reducible exact HDt2.out | with_reducible refine Below.drew ?_ | with_reducible refine bl_drewN ?_ _ | with_reducible refine bl_alloc ?_ _) : Below w1.heap.size w1 _)).more (Below.size (by repeat (first | with_reducible exact HDt2.out | with_reducible refine Below.drew ?_ | with_reducible refine bl_drewN ?_ _ | with_reducible refine bl_alloc ?_ _) : Below w1.heap.size w1 _))) (by omega) p q HP.out).mono ?_; rintro e w3 ⟨rfl, hb⟩; have hs3 := hb.size; have HB3 := Lib.hid (show Below w.heap.size w w3 from bl_trans (by repeat (first | with_reducible exact HB2.out | with_reducible refine bl_drewN ?_ _ | with_reducible refine Below.drew ?_ | with_reducible refine bl_alloc ?_ _)) hb); have bs3 := Lib.hid (show Blk w3 (w2.heap.size) 27 #[.int .i64 (p : Int), .int .i64 (q : Int)] from Blk.below (by have hh := Blk.new w2 27 #[.int .i64 (p : Int), .int .i64 (q : Int)]; (try simp only [World.size_alloc] at hh); repeat (first | exact hh | with_reducible refine Blk.drewN ?_ _ | with_reducible refine Blk.drew ?_ | with_reducible refine Blk.alloc ?_ _)) hb (by first | omega | (simp; done) | (simp; omega))); have cs := bs3.out.cell; have HDt3 := Lib.hid (show Below w1.heap.size w1 w3 from bl_trans (by repeat (first | with_reducible exact HDt2.out | with_reducible refine Below.drew ?_ | with_reducible refine bl_drewN ?_ _ | with_reducible refine bl_alloc ?_ _)) hb); have hS3 := Blk.two bs3.out; clear hb)
      | (go_at_call 17; refine (iSetValid_any _ At _ ct ts ((HTt.out.below (by repeat (first | with_reducible exact HDt3.out | with_reducible refine Below.drew ?_ | with_reducible refine bl_drewN ?_ _ | with_reducible refine bl_alloc ?_ _) : Below w1.heap.size w1 _)).more (Below.size (by repeat (first | with_reducible exact HDt3.out | with_reducible refine Below.drew ?_ | with_reducible refine bl_drewN ?_ _ | with_reducible refine bl_alloc ?_ _) : Below w1.heap.size w1 _))) (by omega)).mono ?_; rintro e w4 ⟨rfl, hb⟩; have hs4 := hb.size; have HB4 := Lib.hid (show Below w.heap.size w w4 from bl_trans (by repeat (first | with_reducible exact HB3.out | with_reducible refine bl_drewN ?_ _ | with_reducible refine Below.drew ?_ | with_reducible refine bl_alloc ?_ _)) hb); have bs4 := Lib.hid (show Blk w4 (w2.heap.size) 27 #[.int .i64 (p : Int), .int .i64 (q : Int)] from Blk.below (by repeat (first | with_reducible exact bs3.out | with_reducible refine Blk.drewN ?_ _ | with_reducible refine Blk.drew ?_ | with_reducible refine Blk.alloc ?_ _)) hb (by have := bs3.out.lt; first | exact this | omega | (simp; omega))); have cs := bs4.out.cell; have HDt4 := Lib.hid (show Below w1.heap.size w1 w4 from bl_trans (by repeat (first | with_reducible exact HDt3.out | with_reducible refine Below.drew ?_ | with_reducible refine bl_drewN ?_ _ | with_reducible refine bl_alloc ?_ _)) hb); have hS4 := Blk.two bs4.out; clear hb)))
  have hks4 := bs4.out.lt
  obtain ⟨us, hus⟩ : ∃ us, us = sortOf ts := ⟨_, rfl⟩
  have hul : us.length ≤ 5 := by have := sortOf_len ts; rw [← hus] at this; omega
  have hperm : us.Perm ts := by rw [(sort_facts HSET.out hus).2.2.2.2.2]; exact sortL_perm ts
  have hsu : setB us = true := (sort_facts HSET.out hus).2.2.2.2.1
  have hall := (setB_all hsu).2
  obtain ⟨p2, q2, hpq2⟩ : ∃ p q, highOf ts = (p, q) := ⟨_, _, rfl⟩
  have HL1 := Lib.hid (show lowOf us cr = (p, q) by have h := HP.out; unfold lowOf at h ⊢; rw [HSET.out] at h; rw [hsu]; rw [← h]; exact low_perm cr hperm hall)
  have HH1 := Lib.hid (show highOf us = (p2, q2) by have h := hpq2; unfold highOf at h ⊢; rw [HSET.out] at h; rw [hsu]; rw [← h]; exact low_perm true (crit_perm hperm) (crit_ok hall))
  have HP2 := Lib.hid hpq2
  have HU := Lib.hid hus
  clear hus hperm hsu hall hpq2
  have cs := bs4.out.cell
  go_wp2_with fail
  (try (go_quiet (fail); go_wp2_with fail))
  refine (iSortDue_is _ At _ ct ts us HU.out ((HTt.out.below (by repeat (first | with_reducible exact HDt4.out | with_reducible refine Below.drew ?_ | with_reducible refine bl_drewN ?_ _ | with_reducible refine bl_alloc ?_ _) : Below w1.heap.size w1 _)).more (Below.size (by repeat (first | with_reducible exact HDt4.out | with_reducible refine Below.drew ?_ | with_reducible refine bl_drewN ?_ _ | with_reducible refine bl_alloc ?_ _) : Below w1.heap.size w1 _))) (by omega)).mono ?_
  rintro e w5 ⟨Au, cu, rfl, ho, hb⟩
  have hs5 := hb.size
  have HB5 := Lib.hid (show Below w.heap.size w w5 from bl_trans (by repeat (first | with_reducible exact HB4.out | with_reducible refine bl_drewN ?_ _ | with_reducible refine Below.drew ?_ | with_reducible refine bl_alloc ?_ _)) hb)
  have bs5 := Lib.hid (show Blk w5 (w2.heap.size) 27 #[.int .i64 (p : Int), .int .i64 (q : Int)] from Blk.below (by repeat (first | with_reducible exact bs4.out | with_reducible refine Blk.drewN ?_ _ | with_reducible refine Blk.drew ?_ | with_reducible refine Blk.alloc ?_ _)) hb (by have := bs4.out.lt; first | omega | (simp; omega)))
  have HDt5 := Lib.hid (show Below w1.heap.size w1 w5 from bl_trans (by repeat (first | with_reducible exact HDt4.out | with_reducible refine Below.drew ?_ | with_reducible refine bl_drewN ?_ _ | with_reducible refine bl_alloc ?_ _)) hb)
  have HTu := Lib.hid ho.reads.2
  clear hb HB4 bs4 cs HDt4 ho
  have HDu5 := Lib.hid (Below.refl w5.heap.size w5)
  have cs := bs5.out.cell
  have hS5 := (Blk.two (show Blk w5 (w2.heap.size) 27 #[.int .i64 (p : Int), .int .i64 (q : Int)] from by repeat (first | with_reducible exact bs5.out | with_reducible refine Blk.alloc ?_ _)))
  go_wp2_with fail
  go_region_held3 (fun W => (W.cell? ⟨w2.heap.size, 0, none⟩ = some (.int .i64 (p : Int)) ∧ W.cell? ⟨w2.heap.size, 1, none⟩ = some (.int .i64 (q : Int)))) (first | exact hS5 | exact hS6 | exact hS7 | exact hS8)
    ((first
      | (go_at_call 15; refine (iLow_is _ Au _ cu us cr ((HTu.out.below (by repeat (first | with_reducible exact HDu5.out | with_reducible refine Below.drew ?_ | with_reducible refine bl_drewN ?_ _ | with_reducible refine bl_alloc ?_ _) : Below w5.heap.size w5 _)).more (Below.size (by repeat (first | with_reducible exact HDu5.out | with_reducible refine Below.drew ?_ | with_reducible refine bl_drewN ?_ _ | with_reducible refine bl_alloc ?_ _) : Below w5.heap.size w5 _))) (by omega) e0 (by repeat (first | exact HE.out.below HB5.out | refine EG.drewN ?_ _ | refine EG.drew ?_ | refine EG.alloc ?_ _)) p q HL1.out).mono ?_; rintro e w6 ⟨rfl, hb⟩; have hs6 := hb.size; have HB6 := Lib.hid (show Below w.heap.size w w6 from bl_trans (by repeat (first | with_reducible exact HB5.out | with_reducible refine bl_drewN ?_ _ | with_reducible refine Below.drew ?_ | with_reducible refine bl_alloc ?_ _)) hb); have bs6 := Lib.hid (show Blk w6 (w2.heap.size) 27 #[.int .i64 (p : Int), .int .i64 (q : Int)] from Blk.below (by repeat (first | with_reducible exact bs5.out | with_reducible refine Blk.drewN ?_ _ | with_reducible refine Blk.drew ?_ | with_reducible refine Blk.alloc ?_ _)) hb (by have := bs5.out.lt; first | exact this | omega | (simp; omega))); have cs := bs6.out.cell; have HDt6 := Lib.hid (show Below w1.heap.size w1 w6 from bl_trans (by repeat (first | with_reducible exact HDt5.out | with_reducible refine Below.drew ?_ | with_reducible refine bl_drewN ?_ _ | with_reducible refine bl_alloc ?_ _)) hb); have HDu6 := Lib.hid (show Below w5.heap.size w5 w6 from bl_trans (by repeat (first | with_reducible exact HDu5.out | with_reducible refine Below.drew ?_ | with_reducible refine bl_drewN ?_ _ | with_reducible refine bl_alloc ?_ _)) hb); have hS6 := Blk.two bs6.out; clear hb)
      | (go_at_call_of 18 (Value.slice Au us.length cu); refine (iHigh_is _ Au _ cu us ((HTu.out.below (by repeat (first | with_reducible exact HDu6.out | with_reducible refine Below.drew ?_ | with_reducible refine bl_drewN ?_ _ | with_reducible refine bl_alloc ?_ _) : Below w5.heap.size w5 _)).more (Below.size (by repeat (first | with_reducible exact HDu6.out | with_reducible refine Below.drew ?_ | with_reducible refine bl_drewN ?_ _ | with_reducible refine bl_alloc ?_ _) : Below w5.heap.size w5 _))) (by omega) e0 (by repeat (first | exact HE.out.below HB6.out | refine EG.drewN ?_ _ | refine EG.drew ?_ | refine EG.alloc ?_ _)) p2 q2 HH1.out).mono ?_; rintro e w7 ⟨rfl, hb⟩; have hs7 := hb.size; have HB7 := Lib.hid (show Below w.heap.size w w7 from bl_trans (by repeat (first | with_reducible exact HB6.out | with_reducible refine bl_drewN ?_ _ | with_reducible refine Below.drew ?_ | with_reducible refine bl_alloc ?_ _)) hb); have bs7 := Lib.hid (show Blk w7 (w2.heap.size) 27 #[.int .i64 (p : Int), .int .i64 (q : Int)] from Blk.below (by repeat (first | with_reducible exact bs6.out | with_reducible refine Blk.drewN ?_ _ | with_reducible refine Blk.drew ?_ | with_reducible refine Blk.alloc ?_ _)) hb (by have := bs6.out.lt; first | exact this | omega | (simp; omega))); have cs := bs7.out.cell; have HDt7 := Lib.hid (show Below w1.heap.size w1 w7 from bl_trans (by repeat (first | with_reducible exact HDt6.out | with_reducible refine Below.drew ?_ | with_reducible refine bl_drewN ?_ _ | with_reducible refine bl_alloc ?_ _)) hb); have HDu7 := Lib.hid (show Below w5.heap.size w5 w7 from bl_trans (by repeat (first | with_reducible exact HDu6.out | with_reducible refine Below.drew ?_ | with_reducible refine bl_drewN ?_ _ | with_reducible refine bl_alloc ?_ _)) hb); have hS7 := Blk.two bs7.out; clear hb)
      | (go_at_call_of 18 (Value.slice At ts.length ct); refine (iHigh_is _ At _ ct ts ((HTt.out.below (by repeat (first | with_reducible exact HDt7.out | with_reducible refine Below.drew ?_ | with_reducible refine bl_drewN ?_ _ | with_reducible refine bl_alloc ?_ _) : Below w1.heap.size w1 _)).more (Below.size (by repeat (first | with_reducible exact HDt7.out | with_reducible refine Below.drew ?_ | with_reducible refine bl_drewN ?_ _ | with_reducible refine bl_alloc ?_ _) : Below w1.heap.size w1 _))) (by omega) e0 (by repeat (first | exact HE.out.below HB7.out | refine EG.drewN ?_ _ | refine EG.drew ?_ | refine EG.alloc ?_ _)) p2 q2 HP2.out).mono ?_; rintro e w8 ⟨rfl, hb⟩; have hs8 := hb.size; have HB8 := Lib.hid (show Below w.heap.size w w8 from bl_trans (by repeat (first | with_reducible exact HB7.out | with_reducible refine bl_drewN ?_ _ | with_reducible refine Below.drew ?_ | with_reducible refine bl_alloc ?_ _)) hb); have bs8 := Lib.hid (show Blk w8 (w2.heap.size) 27 #[.int .i64 (p : Int), .int .i64 (q : Int)] from Blk.below (by repeat (first | with_reducible exact bs7.out | with_reducible refine Blk.drewN ?_ _ | with_reducible refine Blk.drew ?_ | with_reducible refine Blk.alloc ?_ _)) hb (by have := bs7.out.lt; first | exact this | omega | (simp; omega))); have cs := bs8.out.cell; have HDt8 := Lib.hid (show Below w1.heap.size w1 w8 from bl_trans (by repeat (first | with_reducible exact HDt7.out | with_reducible refine Below.drew ?_ | with_reducible refine bl_drewN ?_ _ | with_reducible refine bl_alloc ?_ _)) hb); have HDu8 := Lib.hid (show Below w5.heap.size w5 w8 from bl_trans (by repeat (first | with_reducible exact HDu7.out | with_reducible refine Below.drew ?_ | with_reducible refine bl_drewN ?_ _ | with_reducible refine bl_alloc ?_ _)) hb); have hS8 := Blk.two bs8.out; clear hb)))
  have hks8 := bs8.out.lt
  have cs := bs8.out.cell
  go_wp2
  (try (go_quiet (fail); go_wp2))
  go_ret
  exact ⟨rfl, by repeat (first | with_reducible exact HB8.out | refine bl_drewN ?_ _ | refine Below.drew ?_ | refine bl_alloc ?_ _ | refine bl_set ?_ (by dsimp only; omega) _)⟩

end Go.Proofs.YthaflbgkhlggkaaDoor
