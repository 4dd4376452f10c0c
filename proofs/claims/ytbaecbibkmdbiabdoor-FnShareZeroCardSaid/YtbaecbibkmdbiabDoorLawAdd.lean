/- The walks of the laws on adding shares. -/
import Derived.Test.YtbaecbibkmdbiabDoorDrawsSh
import Derived.Test.YtbaecbibkmdbiabDoorSAdd
namespace Go.Proofs.YtbaecbibkmdbiabDoor
open Go.RowKit
set_option linter.unusedVariables false

set_option maxHeartbeats 2000000 in
theorem fnAddShares_walk (w : World) (A : Option Addr) (n c : Nat) (f : Nat → Int) (h : Code w w.heap.size A n c f) (e0 : Addr) (he : EG w e0) :
    Calls Tryd.prog 4 #[.slice A n c] w fun e w' => e = .returned (.bool true) ∧ Below w.heap.size w w' := by
  have H := Lib.hid h
  have HE := Lib.hid he
  have hle := h.le
  have hmax := h.max
  unfold maxLen at hmax
  clear h he
  by_cases hn : 1048576 < n
  · go_enter Tryd.func4, Tryd.ntmps4
    go_wp2
    go_ret
    exact ⟨rfl, Below.refl _ _⟩
  go_enter Tryd.func4, Tryd.ntmps4
  go_wp2_with fail
  refine (dDrawAddShares_any _ A n c f H.out).mono ?_
  rintro e w1 ⟨n1, d1, n2, d2, rfl, ⟨⟨x1, x2⟩, ⟨y1, y2⟩⟩, ⟨⟨u1, u2⟩, ⟨v1, v2⟩⟩, hb⟩
  have HB1 := Lib.hid hb
  clear hb H
  obtain ⟨p, q, hpq⟩ : ∃ p q, plusS n1 d1 n2 d2 = (p, q) := ⟨_, _, rfl⟩
  cases hm : plusB n1 d1 n2 d2
  · obtain ⟨rfl, rfl⟩ := Prod.mk.inj ((plus_no hm).symm.trans hpq)
    have HM := Lib.hid (And.intro hpq hm)
    clear hpq hm
    go_wp2_with fail
    (try (go_quiet (fail); go_wp2_with fail))
    refine (iAdd_is _ e0 (by repeat (first | exact HE.out.below HB1.out | refine EG.drewN ?_ _ | refine EG.drew ?_ | refine EG.alloc ?_ _)) n1 d1 n2 d2 0 0 false HM.out.1 HM.out.2).mono ?_
    rintro e w2 ⟨rfl, hb⟩
    have hs2 := hb.size
    have HB2 := Lib.hid (show Below w.heap.size w w2 from bl_trans (by repeat (first | with_reducible exact HB1.out | refine bl_drewN ?_ _ | refine Below.drew ?_ | refine bl_alloc ?_ _)) hb)
    have ba2 := Lib.hid (show Blk w2 (w1.heap.size) 26 #[.int .i64 n1, .int .i64 d1] from Blk.below (by have hh := Blk.new w1 26 #[.int .i64 n1, .int .i64 d1]; (try simp only [World.size_alloc] at hh); repeat (first | exact hh | refine Blk.drewN ?_ _ | refine Blk.drew ?_ | refine Blk.alloc ?_ _)) hb (by first | omega | (simp; done) | (simp; omega)))
    have bb2 := Lib.hid (show Blk w2 (w1.heap.size + 1) 26 #[.int .i64 n2, .int .i64 d2] from Blk.below (by have hh := Blk.new (w1.alloc (.cells #[.int .i64 n1, .int .i64 d1] 26)) 26 #[.int .i64 n2, .int .i64 d2]; (try simp only [World.size_alloc] at hh); repeat (first | exact hh | refine Blk.drewN ?_ _ | refine Blk.drew ?_ | refine Blk.alloc ?_ _)) hb (by first | omega | (simp; done) | (simp; omega)))
    clear hb HB1
    have ca := fun o0 => (ba2.out.alloc o0).cell
    have cb := fun o0 => (bb2.out.alloc o0).cell
    go_wp2_with fail
    (try (go_quiet (fail); go_wp2_with fail))
    refine (sAdd_is _ n1 d1 n2 d2 0 0 false HM.out.1 HM.out.2).mono ?_
    rintro e w3 ⟨rfl, hb⟩
    have hs3 := hb.size
    have HB3 := Lib.hid (show Below w.heap.size w w3 from bl_trans (by repeat (first | with_reducible exact HB2.out | refine bl_drewN ?_ _ | refine Below.drew ?_ | refine bl_alloc ?_ _)) hb)
    have ba3 := Lib.hid (show Blk w3 (w1.heap.size) 26 #[.int .i64 n1, .int .i64 d1] from Blk.below (by repeat (first | with_reducible exact ba2.out | refine Blk.drewN ?_ _ | refine Blk.drew ?_ | refine Blk.alloc ?_ _)) hb (by have := ba2.out.lt; first | omega | (simp; omega)))
    have bb3 := Lib.hid (show Blk w3 (w1.heap.size + 1) 26 #[.int .i64 n2, .int .i64 d2] from Blk.below (by repeat (first | with_reducible exact bb2.out | refine Blk.drewN ?_ _ | refine Blk.drew ?_ | refine Blk.alloc ?_ _)) hb (by have := bb2.out.lt; first | omega | (simp; omega)))
    have bs3 := Lib.hid (show Blk w3 (w2.heap.size) 26 #[.int .i64 0, .int .i64 0] from Blk.below (by have hh := Blk.new w2 26 #[.int .i64 0, .int .i64 0]; (try simp only [World.size_alloc] at hh); repeat (first | exact hh | refine Blk.drewN ?_ _ | refine Blk.drew ?_ | refine Blk.alloc ?_ _)) hb (by first | omega | (simp; done) | (simp; omega)))
    clear hb HB2 ba2 bb2 ca cb
    have ca := fun o0 => (ba3.out.alloc o0).cell
    have cb := fun o0 => (bb3.out.alloc o0).cell
    have cs := fun o0 => (bs3.out.alloc o0).cell
    go_wp2
    (try (go_quiet (fail); go_wp2))
    go_ret
    exact ⟨rfl, by repeat (first | with_reducible exact HB3.out | refine bl_drewN ?_ _ | refine Below.drew ?_ | refine bl_alloc ?_ _ | refine bl_set ?_ (by dsimp only; omega) _)⟩
  · obtain ⟨a, b, x, y, rfl, rfl, rfl, rfl, hA, hX, hs, hsh⟩ := plus_out hm
    rw [hpq] at hs
    have HA := Lib.hid hA
    have HX := Lib.hid hX
    have e1 : addN (a, b) (x, y) = (p, q) := hs.symm
    rw [e1] at hsh
    have HS := Lib.hid (show Sh p q from hsh)
    have HC := Lib.hid (show cmpS a b p q ≤ 0 ∧ cmpS x y p q ≤ 0 from by have := cmp_plus hA hX (by rw [e1]; exact hsh); rw [e1] at this; exact this)
    have HM := Lib.hid (And.intro hpq hm)
    clear hpq hm hs hsh e1 hA hX x1 x2 y1 y2 u1 u2 v1 v2
    go_wp2_with fail
    (try (go_quiet (fail); go_wp2_with fail))
    refine (iAdd_is _ e0 (by repeat (first | exact HE.out.below HB1.out | refine EG.drewN ?_ _ | refine EG.drew ?_ | refine EG.alloc ?_ _)) a b x y p q true HM.out.1 HM.out.2).mono ?_
    rintro e w2 ⟨rfl, hb⟩
    have hs2 := hb.size
    have HB2 := Lib.hid (show Below w.heap.size w w2 from bl_trans (by repeat (first | with_reducible exact HB1.out | refine bl_drewN ?_ _ | refine Below.drew ?_ | refine bl_alloc ?_ _)) hb)
    have ba2 := Lib.hid (show Blk w2 (w1.heap.size) 26 #[.int .i64 (a : Int), .int .i64 (b : Int)] from Blk.below (by have hh := Blk.new w1 26 #[.int .i64 (a : Int), .int .i64 (b : Int)]; (try simp only [World.size_alloc] at hh); repeat (first | exact hh | refine Blk.drewN ?_ _ | refine Blk.drew ?_ | refine Blk.alloc ?_ _)) hb (by first | omega | (simp; done) | (simp; omega)))
    have bb2 := Lib.hid (show Blk w2 (w1.heap.size + 1) 26 #[.int .i64 (x : Int), .int .i64 (y : Int)] from Blk.below (by have hh := Blk.new (w1.alloc (.cells #[.int .i64 (a : Int), .int .i64 (b : Int)] 26)) 26 #[.int .i64 (x : Int), .int .i64 (y : Int)]; (try simp only [World.size_alloc] at hh); repeat (first | exact hh | refine Blk.drewN ?_ _ | refine Blk.drew ?_ | refine Blk.alloc ?_ _)) hb (by first | omega | (simp; done) | (simp; omega)))
    clear hb HB1
    have ca := fun o0 => (ba2.out.alloc o0).cell
    have cb := fun o0 => (bb2.out.alloc o0).cell
    go_wp2_with fail
    (try (go_quiet (fail); go_wp2_with fail))
    refine (sAdd_is _ a b x y p q true HM.out.1 HM.out.2).mono ?_
    rintro e w3 ⟨rfl, hb⟩
    have hs3 := hb.size
    have HB3 := Lib.hid (show Below w.heap.size w w3 from bl_trans (by repeat (first | with_reducible exact HB2.out | refine bl_drewN ?_ _ | refine Below.drew ?_ | refine bl_alloc ?_ _)) hb)
    have ba3 := Lib.hid (show Blk w3 (w1.heap.size) 26 #[.int .i64 (a : Int), .int .i64 (b : Int)] from Blk.below (by repeat (first | with_reducible exact ba2.out | refine Blk.drewN ?_ _ | refine Blk.drew ?_ | refine Blk.alloc ?_ _)) hb (by have := ba2.out.lt; first | omega | (simp; omega)))
    have bb3 := Lib.hid (show Blk w3 (w1.heap.size + 1) 26 #[.int .i64 (x : Int), .int .i64 (y : Int)] from Blk.below (by repeat (first | with_reducible exact bb2.out | refine Blk.drewN ?_ _ | refine Blk.drew ?_ | refine Blk.alloc ?_ _)) hb (by have := bb2.out.lt; first | omega | (simp; omega)))
    have bs3 := Lib.hid (show Blk w3 (w2.heap.size) 26 #[.int .i64 (p : Int), .int .i64 (q : Int)] from Blk.below (by have hh := Blk.new w2 26 #[.int .i64 (p : Int), .int .i64 (q : Int)]; (try simp only [World.size_alloc] at hh); repeat (first | exact hh | refine Blk.drewN ?_ _ | refine Blk.drew ?_ | refine Blk.alloc ?_ _)) hb (by first | omega | (simp; done) | (simp; omega)))
    clear hb HB2 ba2 bb2 ca cb
    have HM2 := Lib.hid (And.intro ((plus_comm x y a b).2.trans HM.out.1) ((plus_comm x y a b).1.trans HM.out.2))
    have HV := Lib.hid (of_sh HS.out)
    obtain ⟨z1, hz1⟩ : ∃ z, cmpS a b p q = z := ⟨_, rfl⟩
    obtain ⟨z2, hz2⟩ : ∃ z, cmpS x y p q = z := ⟨_, rfl⟩
    have k1 : z1 ≤ 0 := by rw [← hz1]; exact HC.out.1
    have k2 : z2 ≤ 0 := by rw [← hz2]; exact HC.out.2
    have HZ1 := Lib.hid hz1
    have HZ2 := Lib.hid hz2
    clear hz1 hz2
    have ca := fun o0 => (ba3.out.alloc o0).cell
    have cb := fun o0 => (bb3.out.alloc o0).cell
    have cs := fun o0 => (bs3.out.alloc o0).cell
    go_wp2_with fail
    (try (go_quiet (fail); go_wp2_with fail))
    refine (iAdd_is _ e0 (by repeat (first | exact HE.out.below HB3.out | refine EG.drewN ?_ _ | refine EG.drew ?_ | refine EG.alloc ?_ _)) x y a b p q true HM2.out.1 HM2.out.2).mono ?_
    rintro e w4 ⟨rfl, hb⟩
    have hs4 := hb.size
    have HB4 := Lib.hid (show Below w.heap.size w w4 from bl_trans (by repeat (first | with_reducible exact HB3.out | refine bl_drewN ?_ _ | refine Below.drew ?_ | refine bl_alloc ?_ _)) hb)
    have ba4 := Lib.hid (show Blk w4 (w1.heap.size) 26 #[.int .i64 (a : Int), .int .i64 (b : Int)] from Blk.below (by repeat (first | with_reducible exact ba3.out | refine Blk.drewN ?_ _ | refine Blk.drew ?_ | refine Blk.alloc ?_ _)) hb (by have := ba3.out.lt; first | omega | (simp; omega)))
    have bb4 := Lib.hid (show Blk w4 (w1.heap.size + 1) 26 #[.int .i64 (x : Int), .int .i64 (y : Int)] from Blk.below (by repeat (first | with_reducible exact bb3.out | refine Blk.drewN ?_ _ | refine Blk.drew ?_ | refine Blk.alloc ?_ _)) hb (by have := bb3.out.lt; first | omega | (simp; omega)))
    have bs4 := Lib.hid (show Blk w4 (w2.heap.size) 26 #[.int .i64 (p : Int), .int .i64 (q : Int)] from Blk.below (by repeat (first | with_reducible exact bs3.out | refine Blk.drewN ?_ _ | refine Blk.drew ?_ | refine Blk.alloc ?_ _)) hb (by have := bs3.out.lt; first | omega | (simp; omega)))
    have bt4 := Lib.hid (show Blk w4 (w3.heap.size) 26 #[.int .i64 (p : Int), .int .i64 (q : Int)] from Blk.below (by have hh := Blk.new w3 26 #[.int .i64 (p : Int), .int .i64 (q : Int)]; (try simp only [World.size_alloc] at hh); repeat (first | exact hh | refine Blk.drewN ?_ _ | refine Blk.drew ?_ | refine Blk.alloc ?_ _)) hb (by first | omega | (simp; done) | (simp; omega)))
    clear hb HB3 ba3 bb3 bs3 ca cb cs
    have ca := fun o0 => (ba4.out.alloc o0).cell
    have cb := fun o0 => (bb4.out.alloc o0).cell
    have cs := fun o0 => (bs4.out.alloc o0).cell
    have ct := fun o0 => (bt4.out.alloc o0).cell
    go_wp2_with fail
    (try (go_quiet (fail); go_wp2_with fail))
    refine (iShare_is _ p q true HV.out).mono ?_
    rintro e w5 ⟨rfl, hb⟩
    have hs5 := hb.size
    have HB5 := Lib.hid (show Below w.heap.size w w5 from bl_trans (by repeat (first | with_reducible exact HB4.out | refine bl_drewN ?_ _ | refine Below.drew ?_ | refine bl_alloc ?_ _)) hb)
    have ba5 := Lib.hid (show Blk w5 (w1.heap.size) 26 #[.int .i64 (a : Int), .int .i64 (b : Int)] from Blk.below (by repeat (first | with_reducible exact ba4.out | refine Blk.drewN ?_ _ | refine Blk.drew ?_ | refine Blk.alloc ?_ _)) hb (by have := ba4.out.lt; first | omega | (simp; omega)))
    have bb5 := Lib.hid (show Blk w5 (w1.heap.size + 1) 26 #[.int .i64 (x : Int), .int .i64 (y : Int)] from Blk.below (by repeat (first | with_reducible exact bb4.out | refine Blk.drewN ?_ _ | refine Blk.drew ?_ | refine Blk.alloc ?_ _)) hb (by have := bb4.out.lt; first | omega | (simp; omega)))
    have bs5 := Lib.hid (show Blk w5 (w2.heap.size) 26 #[.int .i64 (p : Int), .int .i64 (q : Int)] from Blk.below (by repeat (first | with_reducible exact bs4.out | refine Blk.drewN ?_ _ | refine Blk.drew ?_ | refine Blk.alloc ?_ _)) hb (by have := bs4.out.lt; first | omega | (simp; omega)))
    have bt5 := Lib.hid (show Blk w5 (w3.heap.size) 26 #[.int .i64 (p : Int), .int .i64 (q : Int)] from Blk.below (by repeat (first | with_reducible exact bt4.out | refine Blk.drewN ?_ _ | refine Blk.drew ?_ | refine Blk.alloc ?_ _)) hb (by have := bt4.out.lt; first | omega | (simp; omega)))
    have br5 := Lib.hid (show Blk w5 (w4.heap.size) 26 #[.int .i64 (p : Int), .int .i64 (q : Int)] from Blk.below (by have hh := Blk.new w4 26 #[.int .i64 (p : Int), .int .i64 (q : Int)]; (try simp only [World.size_alloc] at hh); repeat (first | exact hh | refine Blk.drewN ?_ _ | refine Blk.drew ?_ | refine Blk.alloc ?_ _)) hb (by first | omega | (simp; done) | (simp; omega)))
    clear hb HB4 ba4 bb4 bs4 bt4 ca cb cs ct
    have ca := ba5.out.cell
    have cb := bb5.out.cell
    have cs := bs5.out.cell
    have ct := bt5.out.cell
    have cr := br5.out.cell
    go_wp2_with fail
    (try (go_quiet (fail); go_wp2_with fail))
    refine (iCmp_is _ a b p q z1 HZ1.out).mono ?_
    rintro e w6 ⟨rfl, hb⟩
    have hs6 := hb.size
    have HB6 := Lib.hid (show Below w.heap.size w w6 from bl_trans (by repeat (first | with_reducible exact HB5.out | refine bl_drewN ?_ _ | refine Below.drew ?_ | refine bl_alloc ?_ _)) hb)
    have ba6 := Lib.hid (show Blk w6 (w1.heap.size) 26 #[.int .i64 (a : Int), .int .i64 (b : Int)] from Blk.below (by repeat (first | with_reducible exact ba5.out | refine Blk.drewN ?_ _ | refine Blk.drew ?_ | refine Blk.alloc ?_ _)) hb (by have := ba5.out.lt; first | omega | (simp; omega)))
    have bb6 := Lib.hid (show Blk w6 (w1.heap.size + 1) 26 #[.int .i64 (x : Int), .int .i64 (y : Int)] from Blk.below (by repeat (first | with_reducible exact bb5.out | refine Blk.drewN ?_ _ | refine Blk.drew ?_ | refine Blk.alloc ?_ _)) hb (by have := bb5.out.lt; first | omega | (simp; omega)))
    have bs6 := Lib.hid (show Blk w6 (w2.heap.size) 26 #[.int .i64 (p : Int), .int .i64 (q : Int)] from Blk.below (by repeat (first | with_reducible exact bs5.out | refine Blk.drewN ?_ _ | refine Blk.drew ?_ | refine Blk.alloc ?_ _)) hb (by have := bs5.out.lt; first | omega | (simp; omega)))
    have bt6 := Lib.hid (show Blk w6 (w3.heap.size) 26 #[.int .i64 (p : Int), .int .i64 (q : Int)] from Blk.below (by repeat (first | with_reducible exact bt5.out | refine Blk.drewN ?_ _ | refine Blk.drew ?_ | refine Blk.alloc ?_ _)) hb (by have := bt5.out.lt; first | omega | (simp; omega)))
    have br6 := Lib.hid (show Blk w6 (w4.heap.size) 26 #[.int .i64 (p : Int), .int .i64 (q : Int)] from Blk.below (by repeat (first | with_reducible exact br5.out | refine Blk.drewN ?_ _ | refine Blk.drew ?_ | refine Blk.alloc ?_ _)) hb (by have := br5.out.lt; first | omega | (simp; omega)))
    clear hb HB5 ba5 bb5 bs5 bt5 br5 ca cb cs ct cr
    have ca := ba6.out.cell
    have cb := bb6.out.cell
    have cs := bs6.out.cell
    have ct := bt6.out.cell
    have cr := br6.out.cell
    go_wp2_with fail
    (try (go_quiet (fail); go_wp2_with fail))
    refine (iCmp_is _ x y p q z2 HZ2.out).mono ?_
    rintro e w7 ⟨rfl, hb⟩
    have hs7 := hb.size
    have HB7 := Lib.hid (show Below w.heap.size w w7 from bl_trans (by repeat (first | with_reducible exact HB6.out | refine bl_drewN ?_ _ | refine Below.drew ?_ | refine bl_alloc ?_ _)) hb)
    have ba7 := Lib.hid (show Blk w7 (w1.heap.size) 26 #[.int .i64 (a : Int), .int .i64 (b : Int)] from Blk.below (by repeat (first | with_reducible exact ba6.out | refine Blk.drewN ?_ _ | refine Blk.drew ?_ | refine Blk.alloc ?_ _)) hb (by have := ba6.out.lt; first | omega | (simp; omega)))
    have bb7 := Lib.hid (show Blk w7 (w1.heap.size + 1) 26 #[.int .i64 (x : Int), .int .i64 (y : Int)] from Blk.below (by repeat (first | with_reducible exact bb6.out | refine Blk.drewN ?_ _ | refine Blk.drew ?_ | refine Blk.alloc ?_ _)) hb (by have := bb6.out.lt; first | omega | (simp; omega)))
    have bs7 := Lib.hid (show Blk w7 (w2.heap.size) 26 #[.int .i64 (p : Int), .int .i64 (q : Int)] from Blk.below (by repeat (first | with_reducible exact bs6.out | refine Blk.drewN ?_ _ | refine Blk.drew ?_ | refine Blk.alloc ?_ _)) hb (by have := bs6.out.lt; first | omega | (simp; omega)))
    have bt7 := Lib.hid (show Blk w7 (w3.heap.size) 26 #[.int .i64 (p : Int), .int .i64 (q : Int)] from Blk.below (by repeat (first | with_reducible exact bt6.out | refine Blk.drewN ?_ _ | refine Blk.drew ?_ | refine Blk.alloc ?_ _)) hb (by have := bt6.out.lt; first | omega | (simp; omega)))
    have br7 := Lib.hid (show Blk w7 (w4.heap.size) 26 #[.int .i64 (p : Int), .int .i64 (q : Int)] from Blk.below (by repeat (first | with_reducible exact br6.out | refine Blk.drewN ?_ _ | refine Blk.drew ?_ | refine Blk.alloc ?_ _)) hb (by have := br6.out.lt; first | omega | (simp; omega)))
    clear hb HB6 ba6 bb6 bs6 bt6 br6 ca cb cs ct cr
    have ca := ba7.out.cell
    have cb := bb7.out.cell
    have cs := bs7.out.cell
    have ct := bt7.out.cell
    have cr := br7.out.cell
    go_wp2
    (try (go_quiet (fail); go_wp2))
    go_ret
    exact ⟨rfl, by repeat (first | with_reducible exact HB7.out | refine bl_drewN ?_ _ | refine Below.drew ?_ | refine bl_alloc ?_ _ | refine bl_set ?_ (by dsimp only; omega) _)⟩

set_option maxHeartbeats 2000000 in
theorem fnShareZero_walk (w : World) (A : Option Addr) (n c : Nat) (f : Nat → Int) (h : Code w w.heap.size A n c f) (e0 : Addr) (he : EG w e0) :
    Calls Tryd.prog 6 #[.slice A n c] w fun e w' => e = .returned (.bool true) ∧ Below w.heap.size w w' := by
  have H := Lib.hid h
  have HE := Lib.hid he
  have hle := h.le
  have hmax := h.max
  unfold maxLen at hmax
  clear h he
  by_cases hn : 1048576 < n
  · go_enter Tryd.func6, Tryd.ntmps6
    go_wp2
    go_ret
    exact ⟨rfl, Below.refl _ _⟩
  go_enter Tryd.func6, Tryd.ntmps6
  go_wp2_with fail
  refine (dDrawAddShares_any _ A n c f H.out).mono ?_
  rintro e w1 ⟨n1, d1, n2, d2, rfl, ⟨⟨x1, x2⟩, ⟨y1, y2⟩⟩, ⟨⟨u1, u2⟩, ⟨v1, v2⟩⟩, hb⟩
  have HB1 := Lib.hid hb
  clear hb H
  obtain ⟨p, q, hpq⟩ : ∃ p q, plusS n1 d1 n2 d2 = (p, q) := ⟨_, _, rfl⟩
  cases hm : plusB n1 d1 n2 d2
  · obtain ⟨rfl, rfl⟩ := Prod.mk.inj ((plus_no hm).symm.trans hpq)
    have HM := Lib.hid (And.intro hpq hm)
    clear hpq hm
    go_wp2_with fail
    (try (go_quiet (fail); go_wp2_with fail))
    refine (iAdd_is _ e0 (by repeat (first | exact HE.out.below HB1.out | refine EG.drewN ?_ _ | refine EG.drew ?_ | refine EG.alloc ?_ _)) n1 d1 n2 d2 0 0 false HM.out.1 HM.out.2).mono ?_
    rintro e w2 ⟨rfl, hb⟩
    have hs2 := hb.size
    have HB2 := Lib.hid (show Below w.heap.size w w2 from bl_trans (by repeat (first | with_reducible exact HB1.out | refine bl_drewN ?_ _ | refine Below.drew ?_ | refine bl_alloc ?_ _)) hb)
    have ba2 := Lib.hid (show Blk w2 (w1.heap.size) 26 #[.int .i64 n1, .int .i64 d1] from Blk.below (by have hh := Blk.new w1 26 #[.int .i64 n1, .int .i64 d1]; (try simp only [World.size_alloc] at hh); repeat (first | exact hh | refine Blk.drewN ?_ _ | refine Blk.drew ?_ | refine Blk.alloc ?_ _)) hb (by first | omega | (simp; done) | (simp; omega)))
    have bb2 := Lib.hid (show Blk w2 (w1.heap.size + 1) 26 #[.int .i64 n2, .int .i64 d2] from Blk.below (by have hh := Blk.new (w1.alloc (.cells #[.int .i64 n1, .int .i64 d1] 26)) 26 #[.int .i64 n2, .int .i64 d2]; (try simp only [World.size_alloc] at hh); repeat (first | exact hh | refine Blk.drewN ?_ _ | refine Blk.drew ?_ | refine Blk.alloc ?_ _)) hb (by first | omega | (simp; done) | (simp; omega)))
    clear hb HB1
    have ca := fun o0 => (ba2.out.alloc o0).cell
    have cb := fun o0 => (bb2.out.alloc o0).cell
    go_wp2_with fail
    (try (go_quiet (fail); go_wp2_with fail))
    refine (sAdd_is _ n1 d1 n2 d2 0 0 false HM.out.1 HM.out.2).mono ?_
    rintro e w3 ⟨rfl, hb⟩
    have hs3 := hb.size
    have HB3 := Lib.hid (show Below w.heap.size w w3 from bl_trans (by repeat (first | with_reducible exact HB2.out | refine bl_drewN ?_ _ | refine Below.drew ?_ | refine bl_alloc ?_ _)) hb)
    have ba3 := Lib.hid (show Blk w3 (w1.heap.size) 26 #[.int .i64 n1, .int .i64 d1] from Blk.below (by repeat (first | with_reducible exact ba2.out | refine Blk.drewN ?_ _ | refine Blk.drew ?_ | refine Blk.alloc ?_ _)) hb (by have := ba2.out.lt; first | omega | (simp; omega)))
    have bb3 := Lib.hid (show Blk w3 (w1.heap.size + 1) 26 #[.int .i64 n2, .int .i64 d2] from Blk.below (by repeat (first | with_reducible exact bb2.out | refine Blk.drewN ?_ _ | refine Blk.drew ?_ | refine Blk.alloc ?_ _)) hb (by have := bb2.out.lt; first | omega | (simp; omega)))
    have bs3 := Lib.hid (show Blk w3 (w2.heap.size) 26 #[.int .i64 0, .int .i64 0] from Blk.below (by have hh := Blk.new w2 26 #[.int .i64 0, .int .i64 0]; (try simp only [World.size_alloc] at hh); repeat (first | exact hh | refine Blk.drewN ?_ _ | refine Blk.drew ?_ | refine Blk.alloc ?_ _)) hb (by first | omega | (simp; done) | (simp; omega)))
    clear hb HB2 ba2 bb2 ca cb
    have ca := fun o0 => (ba3.out.alloc o0).cell
    have cb := fun o0 => (bb3.out.alloc o0).cell
    have cs := fun o0 => (bs3.out.alloc o0).cell
    go_wp2
    (try (go_quiet (fail); go_wp2))
    go_ret
    exact ⟨rfl, by repeat (first | with_reducible exact HB3.out | refine bl_drewN ?_ _ | refine Below.drew ?_ | refine bl_alloc ?_ _ | refine bl_set ?_ (by dsimp only; omega) _)⟩
  · obtain ⟨a, b, x, y, rfl, rfl, rfl, rfl, hA, hX, hs, hsh⟩ := plus_out hm
    rw [hpq] at hs
    have HA := Lib.hid hA
    have HX := Lib.hid hX
    have e1 : addN (a, b) (x, y) = (p, q) := hs.symm
    rw [e1] at hsh
    have HS := Lib.hid (show Sh p q from hsh)
    have HC := Lib.hid (show cmpS a b p q ≤ 0 ∧ cmpS x y p q ≤ 0 from by have := cmp_plus hA hX (by rw [e1]; exact hsh); rw [e1] at this; exact this)
    have HM := Lib.hid (And.intro hpq hm)
    clear hpq hm hs hsh e1 hA hX x1 x2 y1 y2 u1 u2 v1 v2
    go_wp2_with fail
    (try (go_quiet (fail); go_wp2_with fail))
    refine (iAdd_is _ e0 (by repeat (first | exact HE.out.below HB1.out | refine EG.drewN ?_ _ | refine EG.drew ?_ | refine EG.alloc ?_ _)) a b x y p q true HM.out.1 HM.out.2).mono ?_
    rintro e w2 ⟨rfl, hb⟩
    have hs2 := hb.size
    have HB2 := Lib.hid (show Below w.heap.size w w2 from bl_trans (by repeat (first | with_reducible exact HB1.out | refine bl_drewN ?_ _ | refine Below.drew ?_ | refine bl_alloc ?_ _)) hb)
    have ba2 := Lib.hid (show Blk w2 (w1.heap.size) 26 #[.int .i64 (a : Int), .int .i64 (b : Int)] from Blk.below (by have hh := Blk.new w1 26 #[.int .i64 (a : Int), .int .i64 (b : Int)]; (try simp only [World.size_alloc] at hh); repeat (first | exact hh | refine Blk.drewN ?_ _ | refine Blk.drew ?_ | refine Blk.alloc ?_ _)) hb (by first | omega | (simp; done) | (simp; omega)))
    have bb2 := Lib.hid (show Blk w2 (w1.heap.size + 1) 26 #[.int .i64 (x : Int), .int .i64 (y : Int)] from Blk.below (by have hh := Blk.new (w1.alloc (.cells #[.int .i64 (a : Int), .int .i64 (b : Int)] 26)) 26 #[.int .i64 (x : Int), .int .i64 (y : Int)]; (try simp only [World.size_alloc] at hh); repeat (first | exact hh | refine Blk.drewN ?_ _ | refine Blk.drew ?_ | refine Blk.alloc ?_ _)) hb (by first | omega | (simp; done) | (simp; omega)))
    clear hb HB1
    have ca := fun o0 => (ba2.out.alloc o0).cell
    have cb := fun o0 => (bb2.out.alloc o0).cell
    go_wp2_with fail
    (try (go_quiet (fail); go_wp2_with fail))
    refine (sAdd_is _ a b x y p q true HM.out.1 HM.out.2).mono ?_
    rintro e w3 ⟨rfl, hb⟩
    have hs3 := hb.size
    have HB3 := Lib.hid (show Below w.heap.size w w3 from bl_trans (by repeat (first | with_reducible exact HB2.out | refine bl_drewN ?_ _ | refine Below.drew ?_ | refine bl_alloc ?_ _)) hb)
    have ba3 := Lib.hid (show Blk w3 (w1.heap.size) 26 #[.int .i64 (a : Int), .int .i64 (b : Int)] from Blk.below (by repeat (first | with_reducible exact ba2.out | refine Blk.drewN ?_ _ | refine Blk.drew ?_ | refine Blk.alloc ?_ _)) hb (by have := ba2.out.lt; first | omega | (simp; omega)))
    have bb3 := Lib.hid (show Blk w3 (w1.heap.size + 1) 26 #[.int .i64 (x : Int), .int .i64 (y : Int)] from Blk.below (by repeat (first | with_reducible exact bb2.out | refine Blk.drewN ?_ _ | refine Blk.drew ?_ | refine Blk.alloc ?_ _)) hb (by have := bb2.out.lt; first | omega | (simp; omega)))
    have bs3 := Lib.hid (show Blk w3 (w2.heap.size) 26 #[.int .i64 (p : Int), .int .i64 (q : Int)] from Blk.below (by have hh := Blk.new w2 26 #[.int .i64 (p : Int), .int .i64 (q : Int)]; (try simp only [World.size_alloc] at hh); repeat (first | exact hh | refine Blk.drewN ?_ _ | refine Blk.drew ?_ | refine Blk.alloc ?_ _)) hb (by first | omega | (simp; done) | (simp; omega)))
    clear hb HB2 ba2 bb2 ca cb
    have HM0 := Lib.hid (show mkS 0 7 = (0, 1) ∧ mkB 0 7 = true from ⟨by decide, by decide⟩)
    have HM3 := Lib.hid (plus_zero HA.out)
    have ca := fun o0 => (ba3.out.alloc o0).cell
    have cb := fun o0 => (bb3.out.alloc o0).cell
    have cs := fun o0 => (bs3.out.alloc o0).cell
    go_wp2_with fail
    (try (go_quiet (fail); go_wp2_with fail))
    refine (iMake_is _ 0 7 0 1 true HM0.out.1 HM0.out.2).mono ?_
    rintro e w4 ⟨rfl, hb⟩
    have hs4 := hb.size
    have HB4 := Lib.hid (show Below w.heap.size w w4 from bl_trans (by repeat (first | with_reducible exact HB3.out | refine bl_drewN ?_ _ | refine Below.drew ?_ | refine bl_alloc ?_ _)) hb)
    have ba4 := Lib.hid (show Blk w4 (w1.heap.size) 26 #[.int .i64 (a : Int), .int .i64 (b : Int)] from Blk.below (by repeat (first | with_reducible exact ba3.out | refine Blk.drewN ?_ _ | refine Blk.drew ?_ | refine Blk.alloc ?_ _)) hb (by have := ba3.out.lt; first | omega | (simp; omega)))
    have bb4 := Lib.hid (show Blk w4 (w1.heap.size + 1) 26 #[.int .i64 (x : Int), .int .i64 (y : Int)] from Blk.below (by repeat (first | with_reducible exact bb3.out | refine Blk.drewN ?_ _ | refine Blk.drew ?_ | refine Blk.alloc ?_ _)) hb (by have := bb3.out.lt; first | omega | (simp; omega)))
    have bs4 := Lib.hid (show Blk w4 (w2.heap.size) 26 #[.int .i64 (p : Int), .int .i64 (q : Int)] from Blk.below (by repeat (first | with_reducible exact bs3.out | refine Blk.drewN ?_ _ | refine Blk.drew ?_ | refine Blk.alloc ?_ _)) hb (by have := bs3.out.lt; first | omega | (simp; omega)))
    have bt4 := Lib.hid (show Blk w4 (w3.heap.size) 26 #[.int .i64 (p : Int), .int .i64 (q : Int)] from Blk.below (by have hh := Blk.new w3 26 #[.int .i64 (p : Int), .int .i64 (q : Int)]; (try simp only [World.size_alloc] at hh); repeat (first | exact hh | refine Blk.drewN ?_ _ | refine Blk.drew ?_ | refine Blk.alloc ?_ _)) hb (by first | omega | (simp; done) | (simp; omega)))
    clear hb HB3 ba3 bb3 bs3 ca cb cs
    have ca := fun o0 => (ba4.out.alloc o0).cell
    have cb := fun o0 => (bb4.out.alloc o0).cell
    have cs := fun o0 => (bs4.out.alloc o0).cell
    have ct := fun o0 => (bt4.out.alloc o0).cell
    go_wp2_with fail
    (try (go_quiet (fail); go_wp2_with fail))
    refine (iAdd_is _ e0 (by repeat (first | exact HE.out.below HB4.out | refine EG.drewN ?_ _ | refine EG.drew ?_ | refine EG.alloc ?_ _)) a b 0 1 a b true HM3.out.2 HM3.out.1).mono ?_
    rintro e w5 ⟨rfl, hb⟩
    have hs5 := hb.size
    have HB5 := Lib.hid (show Below w.heap.size w w5 from bl_trans (by repeat (first | with_reducible exact HB4.out | refine bl_drewN ?_ _ | refine Below.drew ?_ | refine bl_alloc ?_ _)) hb)
    have ba5 := Lib.hid (show Blk w5 (w1.heap.size) 26 #[.int .i64 (a : Int), .int .i64 (b : Int)] from Blk.below (by repeat (first | with_reducible exact ba4.out | refine Blk.drewN ?_ _ | refine Blk.drew ?_ | refine Blk.alloc ?_ _)) hb (by have := ba4.out.lt; first | omega | (simp; omega)))
    have bb5 := Lib.hid (show Blk w5 (w1.heap.size + 1) 26 #[.int .i64 (x : Int), .int .i64 (y : Int)] from Blk.below (by repeat (first | with_reducible exact bb4.out | refine Blk.drewN ?_ _ | refine Blk.drew ?_ | refine Blk.alloc ?_ _)) hb (by have := bb4.out.lt; first | omega | (simp; omega)))
    have bs5 := Lib.hid (show Blk w5 (w2.heap.size) 26 #[.int .i64 (p : Int), .int .i64 (q : Int)] from Blk.below (by repeat (first | with_reducible exact bs4.out | refine Blk.drewN ?_ _ | refine Blk.drew ?_ | refine Blk.alloc ?_ _)) hb (by have := bs4.out.lt; first | omega | (simp; omega)))
    have bt5 := Lib.hid (show Blk w5 (w3.heap.size) 26 #[.int .i64 (p : Int), .int .i64 (q : Int)] from Blk.below (by repeat (first | with_reducible exact bt4.out | refine Blk.drewN ?_ _ | refine Blk.drew ?_ | refine Blk.alloc ?_ _)) hb (by have := bt4.out.lt; first | omega | (simp; omega)))
    have bz5 := Lib.hid (show Blk w5 (w4.heap.size) 26 #[.int .i64 0, .int .i64 1] from Blk.below (by have hh := Blk.new w4 26 #[.int .i64 0, .int .i64 1]; (try simp only [World.size_alloc] at hh); repeat (first | exact hh | refine Blk.drewN ?_ _ | refine Blk.drew ?_ | refine Blk.alloc ?_ _)) hb (by first | omega | (simp; done) | (simp; omega)))
    clear hb HB4 ba4 bb4 bs4 bt4 ca cb cs ct
    have ca := fun o0 => (ba5.out.alloc o0).cell
    have cb := fun o0 => (bb5.out.alloc o0).cell
    have cs := fun o0 => (bs5.out.alloc o0).cell
    have ct := fun o0 => (bt5.out.alloc o0).cell
    have cz := fun o0 => (bz5.out.alloc o0).cell
    go_wp2
    (try (go_quiet (fail); go_wp2))
    go_ret
    exact ⟨rfl, by repeat (first | with_reducible exact HB5.out | refine bl_drewN ?_ _ | refine Below.drew ?_ | refine bl_alloc ?_ _ | refine bl_set ?_ (by dsimp only; omega) _)⟩

end Go.Proofs.YtbaecbibkmdbiabDoor
