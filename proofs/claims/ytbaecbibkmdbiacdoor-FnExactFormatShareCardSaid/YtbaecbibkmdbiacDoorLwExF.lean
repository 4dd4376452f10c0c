/- The walk of the exact law on the text of a share. -/
import Derived.Test.YtbaecbibkmdbiacDoorFmtS
namespace Go.Proofs.YtbaecbibkmdbiacDoor
open Go.RowKit
set_option linter.unusedVariables false

set_option maxHeartbeats 400000 in
theorem toShare_any (w : World) (n d : Int) :
    Calls Tryd.prog 12 #[.agg #[.int .i64 n, .int .i64 d]] w fun e w' => e = .returned (.agg #[.int .i64 n, .int .i64 d]) ∧ Below w.heap.size w w' := by
  go_enter Tryd.func12, Tryd.ntmps12
  go_wp2
  refine bodyPost_ret (v := .agg #[.int .i64 n, .int .i64 d]) (by simp [results, Tryd.results12, go_sem]) rfl ⟨rfl, ?_⟩
  repeat (first | exact Below.refl _ _ | refine bl_alloc ?_ _ | refine bl_set ?_ (by dsimp only; omega) _)


set_option maxHeartbeats 1000000 in
theorem fnExactFormatShare_walk (w : World) (n d : Int) (ht : TG w) :
    Calls Tryd.prog 5 #[.agg #[.int .i64 n, .int .i64 d]] w fun e w' => e = .returned (.bool true) ∧ Below w.heap.size w w' := by
  have HT := Lib.hid ht
  have HB0 := Lib.hid (Below.refl w.heap.size w)
  clear ht
  go_enter Tryd.func5, Tryd.ntmps5
  obtain ⟨l, hl⟩ : ∃ l, fmtS n d = l := ⟨_, rfl⟩
  have HM := Lib.hid hl
  clear hl
  go_wp2_with fail
  (try (go_quiet (fail); go_wp2_with fail))
  refine (toShare_any _ n d).mono ?_
  rintro e w1 ⟨rfl, hb⟩
  have hs1 := hb.size
  have HB1 := Lib.hid (show Below w.heap.size w w1 from bl_trans (by repeat (first | with_reducible exact HB0.out | refine bl_drewN ?_ _ | refine Below.drew ?_ | refine bl_alloc ?_ _)) hb)
  have ba1 := Lib.hid (show Blk w1 (w.heap.size) 31 #[.int .i64 n, .int .i64 d] from Blk.below (by have hh := Blk.new w 31 #[.int .i64 n, .int .i64 d]; (try simp only [World.size_alloc] at hh); repeat (first | exact hh | refine Blk.drewN ?_ _ | refine Blk.drew ?_ | refine Blk.alloc ?_ _)) hb (by first | omega | (simp; done) | (simp; omega)))
  clear hb HB0
  have ca := ba1.out.cell
  go_wp2_with fail
  (try (go_quiet (fail); go_wp2_with fail))
  refine (sFmt_is _ n d l HM.out).mono ?_
  rintro e w2 ⟨rfl, hb⟩
  have hs2 := hb.size
  have HB2 := Lib.hid (show Below w.heap.size w w2 from bl_trans (by repeat (first | with_reducible exact HB1.out | refine bl_drewN ?_ _ | refine Below.drew ?_ | refine bl_alloc ?_ _)) hb)
  have ba2 := Lib.hid (show Blk w2 (w.heap.size) 31 #[.int .i64 n, .int .i64 d] from Blk.below (by repeat (first | with_reducible exact ba1.out | refine Blk.drewN ?_ _ | refine Blk.drew ?_ | refine Blk.alloc ?_ _)) hb (by have := ba1.out.lt; first | omega | (simp; omega)))
  clear hb HB1 ba1 ca
  have ca := ba2.out.cell
  go_wp2_with fail
  (try (go_quiet (fail); go_wp2_with fail))
  refine (toShare_any _ n d).mono ?_
  rintro e w3 ⟨rfl, hb⟩
  have hs3 := hb.size
  have HB3 := Lib.hid (show Below w.heap.size w w3 from bl_trans (by repeat (first | with_reducible exact HB2.out | refine bl_drewN ?_ _ | refine Below.drew ?_ | refine bl_alloc ?_ _)) hb)
  have ba3 := Lib.hid (show Blk w3 (w.heap.size) 31 #[.int .i64 n, .int .i64 d] from Blk.below (by repeat (first | with_reducible exact ba2.out | refine Blk.drewN ?_ _ | refine Blk.drew ?_ | refine Blk.alloc ?_ _)) hb (by have := ba2.out.lt; first | omega | (simp; omega)))
  clear hb HB2 ba2 ca
  have ca := ba3.out.cell
  go_wp2_with fail
  (try (go_quiet (fail); go_wp2_with fail))
  refine (iFmt_is _ n d l HM.out (TG.below HT.out (by repeat (first | with_reducible exact HB3.out | refine bl_drewN ?_ _ | refine Below.drew ?_ | refine bl_alloc ?_ _)))).mono ?_
  rintro e w4 ⟨rfl, hb⟩
  have hs4 := hb.size
  have HB4 := Lib.hid (show Below w.heap.size w w4 from bl_trans (by repeat (first | with_reducible exact HB3.out | refine bl_drewN ?_ _ | refine Below.drew ?_ | refine bl_alloc ?_ _)) hb)
  have ba4 := Lib.hid (show Blk w4 (w.heap.size) 31 #[.int .i64 n, .int .i64 d] from Blk.below (by repeat (first | with_reducible exact ba3.out | refine Blk.drewN ?_ _ | refine Blk.drew ?_ | refine Blk.alloc ?_ _)) hb (by have := ba3.out.lt; first | omega | (simp; omega)))
  clear hb HB3 ba3 ca
  have ca := ba4.out.cell
  go_wp2
  (try (go_quiet (fail); go_wp2))
  go_ret
  exact ⟨rfl, by repeat (first | with_reducible exact HB4.out | refine bl_drewN ?_ _ | refine Below.drew ?_ | refine bl_alloc ?_ _ | refine bl_set ?_ (by dsimp only; omega) _)⟩

end Go.Proofs.YtbaecbibkmdbiacDoor
