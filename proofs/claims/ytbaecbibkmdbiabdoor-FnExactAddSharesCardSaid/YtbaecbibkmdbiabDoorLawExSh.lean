/- The copy and the comparison of shares that the exact laws make; the walks of the exact laws on shares. -/
import Derived.Test.YtbaecbibkmdbiabDoorSAdd
namespace Go.Proofs.YtbaecbibkmdbiabDoor
open Go.RowKit
set_option linter.unusedVariables false

set_option maxHeartbeats 400000 in
theorem toShare_any (w : World) (n d : Int) :
    Calls Tryd.prog 28 #[.agg #[.int .i64 n, .int .i64 d]] w fun e w' => e = .returned (.agg #[.int .i64 n, .int .i64 d]) ∧ Below w.heap.size w w' := by
  go_enter Tryd.func28, Tryd.ntmps28
  go_wp2
  refine bodyPost_ret (v := .agg #[.int .i64 n, .int .i64 d]) (by simp [results, Tryd.results28, go_sem]) rfl ⟨rfl, ?_⟩
  repeat (first | exact Below.refl _ _ | refine bl_alloc ?_ _ | refine bl_set ?_ (by dsimp only; omega) _)

set_option maxHeartbeats 400000 in
theorem eqShare_any (w : World) (n d : Int) :
    Calls Tryd.prog 27 #[.agg #[.int .i64 n, .int .i64 d], .agg #[.int .i64 n, .int .i64 d]] w (BoolRes true w) := by
  have HB := Lib.hid (Below.refl w.heap.size w)
  go_enter Tryd.func27, Tryd.ntmps27
  go_wp2
  (try (go_quiet (fail); go_wp2))
  go_ret
  exact ⟨rfl, by repeat (first | exact HB.out | refine bl_drewN ?_ _ | refine Below.drew ?_ | refine bl_alloc ?_ _)⟩

set_option maxHeartbeats 1000000 in
theorem fnExactMakeShare_walk (w : World) (n d : Int) (e0 : Addr) (he : EG w e0) :
    Calls Tryd.prog 11 #[.int .i64 n, .int .i64 d] w fun e w' => e = .returned (.bool true) ∧ Below w.heap.size w w' := by
  have HE := Lib.hid he
  have HB0 := Lib.hid (Below.refl w.heap.size w)
  clear he
  go_enter Tryd.func11, Tryd.ntmps11
  obtain ⟨p, q, hpq⟩ : ∃ p q, mkS n d = (p, q) := ⟨_, _, rfl⟩
  obtain ⟨c, hc⟩ : ∃ c, mkB n d = c := ⟨_, rfl⟩
  have HM := Lib.hid (And.intro hpq hc)
  clear hpq hc
  go_wp2_with fail
  (try (go_quiet (fail); go_wp2_with fail))
  refine (sMake_is _ n d p q c HM.out.1 HM.out.2).mono ?_
  rintro e w1 ⟨rfl, hb⟩
  have hs1 := hb.size
  have HB1 := Lib.hid (show Below w.heap.size w w1 from bl_trans (by repeat (first | with_reducible exact HB0.out | refine bl_drewN ?_ _ | refine Below.drew ?_ | refine bl_alloc ?_ _)) hb)
  clear hb HB0
  go_wp2_with fail
  (try (go_quiet (fail); go_wp2_with fail))
  refine (iMake_is _ n d p q c HM.out.1 HM.out.2).mono ?_
  rintro e w2 ⟨rfl, hb⟩
  have hs2 := hb.size
  have HB2 := Lib.hid (show Below w.heap.size w w2 from bl_trans (by repeat (first | with_reducible exact HB1.out | refine bl_drewN ?_ _ | refine Below.drew ?_ | refine bl_alloc ?_ _)) hb)
  have bs2 := Lib.hid (show Blk w2 (w1.heap.size) 26 #[.int .i64 (p : Int), .int .i64 (q : Int)] from Blk.below (by have hh := Blk.new w1 26 #[.int .i64 (p : Int), .int .i64 (q : Int)]; (try simp only [World.size_alloc] at hh); repeat (first | exact hh | refine Blk.drewN ?_ _ | refine Blk.drew ?_ | refine Blk.alloc ?_ _)) hb (by first | omega | (simp; done) | (simp; omega)))
  clear hb HB1
  have cs := fun o0 => (bs2.out.alloc o0).cell
  go_wp2_with fail
  (try (go_quiet (fail); go_wp2_with fail))
  refine (eqShare_any _ p q).mono ?_
  rintro e w3 ⟨rfl, hb⟩
  have hs3 := hb.size
  have HB3 := Lib.hid (show Below w.heap.size w w3 from bl_trans (by repeat (first | with_reducible exact HB2.out | refine bl_drewN ?_ _ | refine Below.drew ?_ | refine bl_alloc ?_ _)) hb)
  have bs3 := Lib.hid (show Blk w3 (w1.heap.size) 26 #[.int .i64 (p : Int), .int .i64 (q : Int)] from Blk.below (by repeat (first | with_reducible exact bs2.out | refine Blk.drewN ?_ _ | refine Blk.drew ?_ | refine Blk.alloc ?_ _)) hb (by have := bs2.out.lt; first | omega | (simp; omega)))
  have bt3 := Lib.hid (show Blk w3 (w2.heap.size) 26 #[.int .i64 (p : Int), .int .i64 (q : Int)] from Blk.below (by have hh := Blk.new w2 26 #[.int .i64 (p : Int), .int .i64 (q : Int)]; (try simp only [World.size_alloc] at hh); repeat (first | exact hh | refine Blk.drewN ?_ _ | refine Blk.drew ?_ | refine Blk.alloc ?_ _)) hb (by first | omega | (simp; done) | (simp; omega)))
  clear hb HB2 bs2 cs
  cases c
  ·
    have cs := bs3.out.cell
    have ct := bt3.out.cell
    go_wp2
    (try (go_quiet (fail); go_wp2))
    go_ret
    exact ⟨rfl, by repeat (first | with_reducible exact HB3.out | refine bl_drewN ?_ _ | refine Below.drew ?_ | refine bl_alloc ?_ _ | refine bl_set ?_ (by dsimp only; omega) _)⟩
  ·
    have cs := bs3.out.cell
    have ct := bt3.out.cell
    go_wp2
    (try (go_quiet (fail); go_wp2))
    go_ret
    exact ⟨rfl, by repeat (first | with_reducible exact HB3.out | refine bl_drewN ?_ _ | refine Below.drew ?_ | refine bl_alloc ?_ _ | refine bl_set ?_ (by dsimp only; omega) _)⟩

set_option maxHeartbeats 1000000 in
theorem fnExactShareValid_walk (w : World) (n d : Int) (e0 : Addr) (he : EG w e0) :
    Calls Tryd.prog 12 #[.agg #[.int .i64 n, .int .i64 d]] w fun e w' => e = .returned (.bool true) ∧ Below w.heap.size w w' := by
  have HE := Lib.hid he
  have HB0 := Lib.hid (Below.refl w.heap.size w)
  clear he
  go_enter Tryd.func12, Tryd.ntmps12
  obtain ⟨c, hc⟩ : ∃ c, shB n d = c := ⟨_, rfl⟩
  have HM := Lib.hid hc
  clear hc
  go_wp2_with fail
  (try (go_quiet (fail); go_wp2_with fail))
  refine (toShare_any _ n d).mono ?_
  rintro e w1 ⟨rfl, hb⟩
  have hs1 := hb.size
  have HB1 := Lib.hid (show Below w.heap.size w w1 from bl_trans (by repeat (first | with_reducible exact HB0.out | refine bl_drewN ?_ _ | refine Below.drew ?_ | refine bl_alloc ?_ _)) hb)
  have ba1 := Lib.hid (show Blk w1 (w.heap.size) 38 #[.int .i64 n, .int .i64 d] from Blk.below (by have hh := Blk.new w 38 #[.int .i64 n, .int .i64 d]; (try simp only [World.size_alloc] at hh); repeat (first | exact hh | refine Blk.drewN ?_ _ | refine Blk.drew ?_ | refine Blk.alloc ?_ _)) hb (by first | omega | (simp; done) | (simp; omega)))
  clear hb HB0
  have ca := ba1.out.cell
  go_wp2_with fail
  (try (go_quiet (fail); go_wp2_with fail))
  refine (sShare_is _ n d c HM.out).mono ?_
  rintro e w2 ⟨rfl, hb⟩
  have hs2 := hb.size
  have HB2 := Lib.hid (show Below w.heap.size w w2 from bl_trans (by repeat (first | with_reducible exact HB1.out | refine bl_drewN ?_ _ | refine Below.drew ?_ | refine bl_alloc ?_ _)) hb)
  have ba2 := Lib.hid (show Blk w2 (w.heap.size) 38 #[.int .i64 n, .int .i64 d] from Blk.below (by repeat (first | with_reducible exact ba1.out | refine Blk.drewN ?_ _ | refine Blk.drew ?_ | refine Blk.alloc ?_ _)) hb (by have := ba1.out.lt; first | omega | (simp; omega)))
  clear hb HB1 ba1 ca
  have ca := ba2.out.cell
  go_wp2_with fail
  (try (go_quiet (fail); go_wp2_with fail))
  refine (toShare_any _ n d).mono ?_
  rintro e w3 ⟨rfl, hb⟩
  have hs3 := hb.size
  have HB3 := Lib.hid (show Below w.heap.size w w3 from bl_trans (by repeat (first | with_reducible exact HB2.out | refine bl_drewN ?_ _ | refine Below.drew ?_ | refine bl_alloc ?_ _)) hb)
  have ba3 := Lib.hid (show Blk w3 (w.heap.size) 38 #[.int .i64 n, .int .i64 d] from Blk.below (by repeat (first | with_reducible exact ba2.out | refine Blk.drewN ?_ _ | refine Blk.drew ?_ | refine Blk.alloc ?_ _)) hb (by have := ba2.out.lt; first | omega | (simp; omega)))
  clear hb HB2 ba2 ca
  have ca := ba3.out.cell
  go_wp2_with fail
  (try (go_quiet (fail); go_wp2_with fail))
  refine (iShare_is _ n d c HM.out).mono ?_
  rintro e w4 ⟨rfl, hb⟩
  have hs4 := hb.size
  have HB4 := Lib.hid (show Below w.heap.size w w4 from bl_trans (by repeat (first | with_reducible exact HB3.out | refine bl_drewN ?_ _ | refine Below.drew ?_ | refine bl_alloc ?_ _)) hb)
  have ba4 := Lib.hid (show Blk w4 (w.heap.size) 38 #[.int .i64 n, .int .i64 d] from Blk.below (by repeat (first | with_reducible exact ba3.out | refine Blk.drewN ?_ _ | refine Blk.drew ?_ | refine Blk.alloc ?_ _)) hb (by have := ba3.out.lt; first | omega | (simp; omega)))
  clear hb HB3 ba3 ca
  cases c
  ·
    have ca := ba4.out.cell
    go_wp2
    (try (go_quiet (fail); go_wp2))
    go_ret
    exact ⟨rfl, by repeat (first | with_reducible exact HB4.out | refine bl_drewN ?_ _ | refine Below.drew ?_ | refine bl_alloc ?_ _ | refine bl_set ?_ (by dsimp only; omega) _)⟩
  ·
    have ca := ba4.out.cell
    go_wp2
    (try (go_quiet (fail); go_wp2))
    go_ret
    exact ⟨rfl, by repeat (first | with_reducible exact HB4.out | refine bl_drewN ?_ _ | refine Below.drew ?_ | refine bl_alloc ?_ _ | refine bl_set ?_ (by dsimp only; omega) _)⟩

end Go.Proofs.YtbaecbibkmdbiabDoor
