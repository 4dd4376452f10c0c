/- The walks of the laws on making shares. -/
import Derived.Test.YtbaecbibkmdbiabDoorDrawsSh
import Derived.Test.YtbaecbibkmdbiabDoorAdd
namespace Go.Proofs.YtbaecbibkmdbiabDoor
open Go.RowKit
set_option linter.unusedVariables false

set_option maxHeartbeats 2000000 in
theorem fnShareTwice_walk (w : World) (A : Option Addr) (n c : Nat) (f : Nat → Int) (h : Code w w.heap.size A n c f) (e0 : Addr) (he : EG w e0) :
    Calls Tryd.prog 7 #[.slice A n c] w fun e w' => e = .returned (.bool true) ∧ Below w.heap.size w w' := by
  have H := Lib.hid h
  have HE := Lib.hid he
  have hle := h.le
  have hmax := h.max
  unfold maxLen at hmax
  clear h he
  by_cases hn : 1048576 < n
  · go_enter Tryd.func7, Tryd.ntmps7
    go_wp2
    go_ret
    exact ⟨rfl, Below.refl _ _⟩
  go_enter Tryd.func7, Tryd.ntmps7
  go_wp2_with fail
  refine (dDrawMakeShare_any _ A n c f H.out).mono ?_
  rintro e w1 ⟨x, y, rfl, ⟨x1, x2⟩, ⟨y1, y2⟩, hb⟩
  have HB1 := Lib.hid hb
  clear hb H
  obtain ⟨p, q, hpq⟩ : ∃ p q, mkS x y = (p, q) := ⟨_, _, rfl⟩
  cases hm : mkB x y
  · obtain ⟨rfl, rfl⟩ := Prod.mk.inj ((mkS_no hm).symm.trans hpq)
    have HM := Lib.hid (And.intro hpq hm)
    clear hpq hm
    go_wp2_with fail
    (try (go_quiet (fail); go_wp2_with fail))
    refine (iMake_is _ x y 0 0 false HM.out.1 HM.out.2).mono ?_
    rintro e w2 ⟨rfl, hb⟩
    have hs2 := hb.size
    have HB2 := Lib.hid (show Below w.heap.size w w2 from bl_trans (by repeat (first | with_reducible exact HB1.out | refine bl_drewN ?_ _ | refine Below.drew ?_ | refine bl_alloc ?_ _)) hb)
    clear hb HB1
    go_wp2_with fail
    (try (go_quiet (fail); go_wp2_with fail))
    refine (sMake_is _ x y 0 0 false HM.out.1 HM.out.2).mono ?_
    rintro e w3 ⟨rfl, hb⟩
    have hs3 := hb.size
    have HB3 := Lib.hid (show Below w.heap.size w w3 from bl_trans (by repeat (first | with_reducible exact HB2.out | refine bl_drewN ?_ _ | refine Below.drew ?_ | refine bl_alloc ?_ _)) hb)
    have bs3 := Lib.hid (show Blk w3 (w2.heap.size) 26 #[.int .i64 0, .int .i64 0] from Blk.below (by have hh := Blk.new w2 26 #[.int .i64 0, .int .i64 0]; (try simp only [World.size_alloc] at hh); repeat (first | exact hh | refine Blk.drewN ?_ _ | refine Blk.drew ?_ | refine Blk.alloc ?_ _)) hb (by first | omega | (simp; done) | (simp; omega)))
    clear hb HB2
    have cs := fun o0 => (bs3.out.alloc o0).cell
    go_wp2
    (try (go_quiet (fail); go_wp2))
    go_ret
    exact ⟨rfl, by repeat (first | with_reducible exact HB3.out | refine bl_drewN ?_ _ | refine Below.drew ?_ | refine bl_alloc ?_ _ | refine bl_set ?_ (by dsimp only; omega) _)⟩
  · obtain ⟨a, b, rfl, rfl, h1, h2, h3⟩ := mk_nat hm
    have hr := (mkS_nat h1 h2 h3).symm.trans hpq
    have hsh := sh_red h1 h2 h3
    rw [hr] at hsh
    have HS := Lib.hid (show Sh p q from hsh)
    obtain ⟨q0, p1, q1, hcop⟩ := HS.out
    have HM := Lib.hid (And.intro hpq hm)
    have HR := Lib.hid hr
    clear hpq hm hr hsh hcop x1 x2 y1 y2
    go_wp2_with fail
    (try (go_quiet (fail); go_wp2_with fail))
    refine (iMake_is _ a b p q true HM.out.1 HM.out.2).mono ?_
    rintro e w2 ⟨rfl, hb⟩
    have hs2 := hb.size
    have HB2 := Lib.hid (show Below w.heap.size w w2 from bl_trans (by repeat (first | with_reducible exact HB1.out | refine bl_drewN ?_ _ | refine Below.drew ?_ | refine bl_alloc ?_ _)) hb)
    clear hb HB1
    go_wp2_with fail
    (try (go_quiet (fail); go_wp2_with fail))
    refine (sMake_is _ a b p q true HM.out.1 HM.out.2).mono ?_
    rintro e w3 ⟨rfl, hb⟩
    have hs3 := hb.size
    have HB3 := Lib.hid (show Below w.heap.size w w3 from bl_trans (by repeat (first | with_reducible exact HB2.out | refine bl_drewN ?_ _ | refine Below.drew ?_ | refine bl_alloc ?_ _)) hb)
    have bs3 := Lib.hid (show Blk w3 (w2.heap.size) 26 #[.int .i64 (p : Int), .int .i64 (q : Int)] from Blk.below (by have hh := Blk.new w2 26 #[.int .i64 (p : Int), .int .i64 (q : Int)]; (try simp only [World.size_alloc] at hh); repeat (first | exact hh | refine Blk.drewN ?_ _ | refine Blk.drew ?_ | refine Blk.alloc ?_ _)) hb (by first | omega | (simp; done) | (simp; omega)))
    clear hb HB2
    have HM2 := Lib.hid (And.intro ((mkS_nat p1 q0 q1).trans (sh_redN HS.out)) (nat_mk p1 q0 q1))
    have cs := fun o0 => (bs3.out.alloc o0).cell
    go_wp2_with fail
    (try (go_quiet (fail); go_wp2_with fail))
    refine (iMake_is _ p q p q true HM2.out.1 HM2.out.2).mono ?_
    rintro e w4 ⟨rfl, hb⟩
    have hs4 := hb.size
    have HB4 := Lib.hid (show Below w.heap.size w w4 from bl_trans (by repeat (first | with_reducible exact HB3.out | refine bl_drewN ?_ _ | refine Below.drew ?_ | refine bl_alloc ?_ _)) hb)
    have bs4 := Lib.hid (show Blk w4 (w2.heap.size) 26 #[.int .i64 (p : Int), .int .i64 (q : Int)] from Blk.below (by repeat (first | with_reducible exact bs3.out | refine Blk.drewN ?_ _ | refine Blk.drew ?_ | refine Blk.alloc ?_ _)) hb (by have := bs3.out.lt; first | omega | (simp; omega)))
    have bt4 := Lib.hid (show Blk w4 (w3.heap.size) 26 #[.int .i64 (p : Int), .int .i64 (q : Int)] from Blk.below (by have hh := Blk.new w3 26 #[.int .i64 (p : Int), .int .i64 (q : Int)]; (try simp only [World.size_alloc] at hh); repeat (first | exact hh | refine Blk.drewN ?_ _ | refine Blk.drew ?_ | refine Blk.alloc ?_ _)) hb (by first | omega | (simp; done) | (simp; omega)))
    clear hb HB3 bs3 cs
    have cs := fun o0 => (bs4.out.alloc o0).cell
    have ct := fun o0 => (bt4.out.alloc o0).cell
    go_wp2
    (try (go_quiet (fail); go_wp2))
    go_ret
    exact ⟨rfl, by repeat (first | with_reducible exact HB4.out | refine bl_drewN ?_ _ | refine Below.drew ?_ | refine bl_alloc ?_ _ | refine bl_set ?_ (by dsimp only; omega) _)⟩

set_option maxHeartbeats 2000000 in
theorem fnMakeShare_walk (w : World) (A : Option Addr) (n c : Nat) (f : Nat → Int) (h : Code w w.heap.size A n c f) (e0 : Addr) (he : EG w e0) :
    Calls Tryd.prog 3 #[.slice A n c] w fun e w' => e = .returned (.bool true) ∧ Below w.heap.size w w' := by
  have H := Lib.hid h
  have HE := Lib.hid he
  have hle := h.le
  have hmax := h.max
  unfold maxLen at hmax
  clear h he
  by_cases hn : 1048576 < n
  · go_enter Tryd.func3, Tryd.ntmps3
    go_wp2
    go_ret
    exact ⟨rfl, Below.refl _ _⟩
  go_enter Tryd.func3, Tryd.ntmps3
  go_wp2_with fail
  refine (dDrawMakeShare_any _ A n c f H.out).mono ?_
  rintro e w1 ⟨x, y, rfl, ⟨x1, x2⟩, ⟨y1, y2⟩, hb⟩
  have HB1 := Lib.hid hb
  clear hb H
  obtain ⟨p, q, hpq⟩ : ∃ p q, mkS x y = (p, q) := ⟨_, _, rfl⟩
  cases hm : mkB x y
  · obtain ⟨rfl, rfl⟩ := Prod.mk.inj ((mkS_no hm).symm.trans hpq)
    have HM := Lib.hid (And.intro hpq hm)
    clear hpq hm
    go_wp2_with fail
    (try (go_quiet (fail); go_wp2_with fail))
    refine (iMake_is _ x y 0 0 false HM.out.1 HM.out.2).mono ?_
    rintro e w2 ⟨rfl, hb⟩
    have hs2 := hb.size
    have HB2 := Lib.hid (show Below w.heap.size w w2 from bl_trans (by repeat (first | with_reducible exact HB1.out | refine bl_drewN ?_ _ | refine Below.drew ?_ | refine bl_alloc ?_ _)) hb)
    clear hb HB1
    go_wp2_with fail
    (try (go_quiet (fail); go_wp2_with fail))
    refine (sMake_is _ x y 0 0 false HM.out.1 HM.out.2).mono ?_
    rintro e w3 ⟨rfl, hb⟩
    have hs3 := hb.size
    have HB3 := Lib.hid (show Below w.heap.size w w3 from bl_trans (by repeat (first | with_reducible exact HB2.out | refine bl_drewN ?_ _ | refine Below.drew ?_ | refine bl_alloc ?_ _)) hb)
    have bs3 := Lib.hid (show Blk w3 (w2.heap.size) 26 #[.int .i64 0, .int .i64 0] from Blk.below (by have hh := Blk.new w2 26 #[.int .i64 0, .int .i64 0]; (try simp only [World.size_alloc] at hh); repeat (first | exact hh | refine Blk.drewN ?_ _ | refine Blk.drew ?_ | refine Blk.alloc ?_ _)) hb (by first | omega | (simp; done) | (simp; omega)))
    clear hb HB2
    have cs := fun o0 => (bs3.out.alloc o0).cell
    go_wp2
    (try (go_quiet (fail); go_wp2))
    go_ret
    exact ⟨rfl, by repeat (first | with_reducible exact HB3.out | refine bl_drewN ?_ _ | refine Below.drew ?_ | refine bl_alloc ?_ _ | refine bl_set ?_ (by dsimp only; omega) _)⟩
  · obtain ⟨a, b, rfl, rfl, h1, h2, h3⟩ := mk_nat hm
    have hr := (mkS_nat h1 h2 h3).symm.trans hpq
    have hsh := sh_red h1 h2 h3
    rw [hr] at hsh
    have HS := Lib.hid (show Sh p q from hsh)
    obtain ⟨q0, p1, q1, hcop⟩ := HS.out
    have HM := Lib.hid (And.intro hpq hm)
    have HR := Lib.hid hr
    clear hpq hm hr hsh hcop x1 x2 y1 y2
    go_wp2_with fail
    (try (go_quiet (fail); go_wp2_with fail))
    refine (iMake_is _ a b p q true HM.out.1 HM.out.2).mono ?_
    rintro e w2 ⟨rfl, hb⟩
    have hs2 := hb.size
    have HB2 := Lib.hid (show Below w.heap.size w w2 from bl_trans (by repeat (first | with_reducible exact HB1.out | refine bl_drewN ?_ _ | refine Below.drew ?_ | refine bl_alloc ?_ _)) hb)
    clear hb HB1
    go_wp2_with fail
    (try (go_quiet (fail); go_wp2_with fail))
    refine (sMake_is _ a b p q true HM.out.1 HM.out.2).mono ?_
    rintro e w3 ⟨rfl, hb⟩
    have hs3 := hb.size
    have HB3 := Lib.hid (show Below w.heap.size w w3 from bl_trans (by repeat (first | with_reducible exact HB2.out | refine bl_drewN ?_ _ | refine Below.drew ?_ | refine bl_alloc ?_ _)) hb)
    have bs3 := Lib.hid (show Blk w3 (w2.heap.size) 26 #[.int .i64 (p : Int), .int .i64 (q : Int)] from Blk.below (by have hh := Blk.new w2 26 #[.int .i64 (p : Int), .int .i64 (q : Int)]; (try simp only [World.size_alloc] at hh); repeat (first | exact hh | refine Blk.drewN ?_ _ | refine Blk.drew ?_ | refine Blk.alloc ?_ _)) hb (by first | omega | (simp; done) | (simp; omega)))
    clear hb HB2
    have HV := Lib.hid (of_sh HS.out)
    have hsame := red_same a b
    rw [HR.out] at hsame
    have hle1 : p ≤ a := by have := red_le_num a b; rw [HR.out] at this; exact this
    have hle2 : q ≤ b := by have := red_le_den a b; rw [HR.out] at this; exact this
    obtain ⟨l, hl⟩ : ∃ l, p * b = l := ⟨_, rfl⟩
    have hl2 : a * q = l := by rw [← hl]; exact hsame.symm
    have l1 := mul_le9 hl p1 h3
    have ql := mul_cast p b l hl
    have qr := mul_cast a q l hl2
    clear hl hl2 hsame
    have cs := fun o0 => (bs3.out.alloc o0).cell
    go_wp2_with fail
    (try (go_quiet (fail); go_wp2_with fail))
    refine (iShare_is _ p q true HV.out).mono ?_
    rintro e w4 ⟨rfl, hb⟩
    have hs4 := hb.size
    have HB4 := Lib.hid (show Below w.heap.size w w4 from bl_trans (by repeat (first | with_reducible exact HB3.out | refine bl_drewN ?_ _ | refine Below.drew ?_ | refine bl_alloc ?_ _)) hb)
    have bs4 := Lib.hid (show Blk w4 (w2.heap.size) 26 #[.int .i64 (p : Int), .int .i64 (q : Int)] from Blk.below (by repeat (first | with_reducible exact bs3.out | refine Blk.drewN ?_ _ | refine Blk.drew ?_ | refine Blk.alloc ?_ _)) hb (by have := bs3.out.lt; first | omega | (simp; omega)))
    have bt4 := Lib.hid (show Blk w4 (w3.heap.size) 26 #[.int .i64 (p : Int), .int .i64 (q : Int)] from Blk.below (by have hh := Blk.new w3 26 #[.int .i64 (p : Int), .int .i64 (q : Int)]; (try simp only [World.size_alloc] at hh); repeat (first | exact hh | refine Blk.drewN ?_ _ | refine Blk.drew ?_ | refine Blk.alloc ?_ _)) hb (by first | omega | (simp; done) | (simp; omega)))
    clear hb HB3 bs3 cs
    have cs := bs4.out.cell
    have ct := bt4.out.cell
    go_wp2
    (try (go_quiet (fail); go_wp2))
    go_ret
    exact ⟨rfl, by repeat (first | with_reducible exact HB4.out | refine bl_drewN ?_ _ | refine Below.drew ?_ | refine bl_alloc ?_ _ | refine bl_set ?_ (by dsimp only; omega) _)⟩

end Go.Proofs.YtbaecbibkmdbiabDoor
