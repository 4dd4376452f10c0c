/- Contract of the reference's HighShare. Nothing that was there is written. -/
import Derived.Test.YtbaecbibkmdbiaaDoorSLow
namespace Go.Proofs.YtbaecbibkmdbiaaDoor
open Go.RowKit
set_option linter.unusedVariables false

set_option maxHeartbeats 1000000 in
theorem sHigh_is (w : World) (A : Option Addr) (n c : Nat) (ts : List Tk) (h : Tks w w.heap.size A n ts) (hn : n ≤ 1048576) (p q : Nat) (hpq : highOf ts = (p, q)) :
    Calls Tryd.prog 20 #[.slice A n c] w (ShRes p q w) := by
  have H := Lib.hid h
  have HL := Lib.hid h.len

  clear h
  cases hs : setB ts
  · obtain ⟨rfl, rfl⟩ := Prod.mk.inj ((highOf_bad hs).symm.trans hpq)
    clear hpq
    go_enter Tryd.func20, Tryd.ntmps20
    go_wp2_with fail
    refine (sSetValid_any _ A n c ts ((H.out.below (by repeat (first | exact Below.refl w.heap.size w | refine bl_alloc ?_ _))).more (by simp)) hn).mono ?_
    rintro e w1 ⟨rfl, hb⟩
    have HB1 := Lib.hid (show Below w.heap.size w w1 from bl_trans (by repeat (first | exact Below.refl w.heap.size w | refine bl_alloc ?_ _)) hb)
    have bR1 := Lib.hid (Blk.below (Blk.new w 27 #[.int .i64 0, .int .i64 0]) hb (by simp))
    have cR := bR1.out.cell
    have fR := bR1.out.frozen
    clear hb
    go_wp2
    refine bodyPost_ret (v := .agg #[.int .i64 0, .int .i64 0]) (by simp [results, Tryd.results20, go_sem, cR]) rfl ⟨rfl, (by repeat (first | with_reducible exact HB1.out | refine bl_drewN ?_ _ | refine Below.drew ?_ | refine bl_alloc ?_ _ | refine bl_set ?_ (by dsimp only; omega) _))⟩
  have h5 : n ≤ 5 := by have := setB_len hs; rw [HL.out] at this; exact this
  have HS := Lib.hid hs
  obtain ⟨us, hus⟩ : ∃ us, us = critOf ts := ⟨_, rfl⟩
  have hpq' : lowOf us true = (p, q) := by rw [← hpq]; exact highOf_low hs hus
  have hul : us.length ≤ 5 := by have := critOf_len ts; rw [← hus, HL.out] at this; omega
  have HPQ := Lib.hid hpq'
  have HU := Lib.hid hus
  clear hpq hpq' hs hus
  go_enter Tryd.func20, Tryd.ntmps20
  go_wp2_with fail
  refine (sSetValid_any _ A n c ts ((H.out.below (by repeat (first | exact Below.refl w.heap.size w | refine bl_alloc ?_ _))).more (by simp)) hn).mono ?_
  rintro e w1 ⟨rfl, hb⟩
  rw [HS.out]
  have HB1 := Lib.hid (show Below w.heap.size w w1 from bl_trans (by repeat (first | exact Below.refl w.heap.size w | refine bl_alloc ?_ _)) hb)
  have bR1 := Lib.hid (show Blk w1 w.heap.size 27 #[.int .i64 0, .int .i64 0] from Blk.below (Blk.new w 27 #[.int .i64 0, .int .i64 0]) hb (by simp))
  clear hb
  go_wp2_with fail
  refine (sCriticalOf_is w1 A n c ts us HU.out ((H.out.below HB1.out).more HB1.out.size) hn).mono ?_
  rintro e w2 ⟨A2, c2, rfl, ho, hb⟩
  have HB2 := Lib.hid (bl_trans HB1.out hb)
  have HO := Lib.hid ho.reads.2
  have bR2 := Lib.hid (bR1.out.below hb bR1.out.lt)
  clear hb ho
  go_wp2_with fail
  refine (sLow_is w2 A2 _ c2 us true HO.out (by omega) p q HPQ.out).mono ?_
  rintro e w3 ⟨rfl, hb⟩
  have HB3 := Lib.hid (bl_trans HB2.out hb)
  have bR3 := Lib.hid (bR2.out.below hb bR2.out.lt)
  have cR := bR3.out.cell
  have fR := bR3.out.frozen
  have cF := fun (s t : Value) => ((bR3.out.set_ 0 s).set_ 1 t).cell
  clear hb
  go_wp2
  refine bodyPost_ret (v := .agg #[.int .i64 (p : Int), .int .i64 (q : Int)]) (by simp [results, Tryd.results20, go_sem, cF]) rfl ⟨rfl, (by repeat (first | with_reducible exact HB3.out | refine bl_drewN ?_ _ | refine Below.drew ?_ | refine bl_alloc ?_ _ | refine bl_set ?_ (by dsimp only; omega) _))⟩

end Go.Proofs.YtbaecbibkmdbiaaDoor
