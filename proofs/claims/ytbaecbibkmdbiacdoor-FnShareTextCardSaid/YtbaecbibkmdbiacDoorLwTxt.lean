/- The walk of the law that texts tell shares apart. -/
import Derived.Test.YtbaecbibkmdbiacDoorTxtF
import Derived.Test.YtbaecbibkmdbiacDoorAdd
import Derived.Deep.RegionWith
import Derived.Deep.RegionHeld3
namespace Go.Proofs.YtbaecbibkmdbiacDoor
open Go.RowKit
set_option linter.unusedVariables false

set_option maxRecDepth 100000 in
set_option maxHeartbeats 2000000 in
theorem fnShareText_walk (w : World) (A : Option Addr) (n c : Nat) (f : Nat → Int) (h : Code w w.heap.size A n c f) (e0 : Addr) (he : EG w e0) (ht : TG w) :
    Calls Tryd.prog 4 #[.slice A n c] w fun e w' => e = .returned (.bool true) ∧ Below w.heap.size w w' := by
  have H := Lib.hid h
  have HT := Lib.hid ht
  have HE := Lib.hid he
  have hle := h.le
  have hmax := h.max
  unfold maxLen at hmax
  clear h ht he
  by_cases hn : 1048576 < n
  · go_enter Tryd.func4, Tryd.ntmps4
    go_wp2
    go_ret
    exact ⟨rfl, Below.refl _ _⟩
  go_enter Tryd.func4, Tryd.ntmps4
  go_wp2_with fail
  refine (dDrawFormatShare_any _ A n c f H.out).mono ?_
  rintro e w1 ⟨x, y, rfl, hsm, hb⟩
  have HB1 := Lib.hid hb
  clear hb H
  cases hv : shB x y
  ·
    have HM := Lib.hid (fmt_no hv)
    clear hv
    go_wp2_with fail
    (try (go_quiet (fail); go_wp2_with fail))
    refine (iFmt_is _ x y [] HM.out (TG.below HT.out (by repeat (first | with_reducible exact HB1.out | refine bl_drewN ?_ _ | refine Below.drew ?_ | refine bl_alloc ?_ _)))).mono ?_
    rintro e w2 ⟨rfl, hb⟩
    have hs2 := hb.size
    have HB2 := Lib.hid (show Below w.heap.size w w2 from bl_trans (by repeat (first | with_reducible exact HB1.out | with_reducible refine bl_drewN ?_ _ | with_reducible refine Below.drew ?_ | with_reducible refine bl_alloc ?_ _)) hb)
    have bs2 := Lib.hid (show Blk w2 (w1.heap.size) 24 #[.int .i64 x, .int .i64 y] from Blk.below (by have hh := Blk.new w1 24 #[.int .i64 x, .int .i64 y]; (try simp only [World.size_alloc] at hh); repeat (first | exact hh | with_reducible refine Blk.drewN ?_ _ | with_reducible refine Blk.drew ?_ | with_reducible refine Blk.alloc ?_ _)) hb (by first | omega | (simp; done) | (simp; omega)))
    clear hb HB1
    have cs := bs2.out.cell
    go_wp2_with fail
    (try (go_quiet (fail); go_wp2_with fail))
    refine (sFmt_is _ x y [] HM.out).mono ?_
    rintro e w3 ⟨rfl, hb⟩
    have hs3 := hb.size
    have HB3 := Lib.hid (show Below w.heap.size w w3 from bl_trans (by repeat (first | with_reducible exact HB2.out | with_reducible refine bl_drewN ?_ _ | with_reducible refine Below.drew ?_ | with_reducible refine bl_alloc ?_ _)) hb)
    have bs3 := Lib.hid (show Blk w3 (w1.heap.size) 24 #[.int .i64 x, .int .i64 y] from Blk.below (by repeat (first | with_reducible exact bs2.out | with_reducible refine Blk.drewN ?_ _ | with_reducible refine Blk.drew ?_ | with_reducible refine Blk.alloc ?_ _)) hb (by have := bs2.out.lt; first | omega | (simp; omega)))
    clear hb HB2 bs2 cs
    have cs := bs3.out.cell
    go_wp2_with fail
    (try (go_quiet (fail); go_wp2_with fail))
    refine (sFmt_is _ x y [] HM.out).mono ?_
    rintro e w4 ⟨rfl, hb⟩
    have hs4 := hb.size
    have HB4 := Lib.hid (show Below w.heap.size w w4 from bl_trans (by repeat (first | with_reducible exact HB3.out | with_reducible refine bl_drewN ?_ _ | with_reducible refine Below.drew ?_ | with_reducible refine bl_alloc ?_ _)) hb)
    have bs4 := Lib.hid (show Blk w4 (w1.heap.size) 24 #[.int .i64 x, .int .i64 y] from Blk.below (by repeat (first | with_reducible exact bs3.out | with_reducible refine Blk.drewN ?_ _ | with_reducible refine Blk.drew ?_ | with_reducible refine Blk.alloc ?_ _)) hb (by have := bs3.out.lt; first | omega | (simp; omega)))
    clear hb HB3 bs3 cs
    have cs := bs4.out.cell
    go_wp2
    (try (go_quiet (fail); go_wp2))
    go_ret
    exact ⟨rfl, by repeat (first | with_reducible exact HB4.out | refine bl_drewN ?_ _ | refine Below.drew ?_ | refine bl_alloc ?_ _ | refine bl_set ?_ (by dsimp only; omega) _)⟩
  ·
    obtain ⟨p, q, rfl, rfl, hS⟩ := sh_of hv
    obtain ⟨m, r, hmr⟩ : ∃ m r, plusS p q 1 3 = (m, r) := ⟨_, _, rfl⟩
    obtain ⟨c, hc⟩ : ∃ c, plusB p q 1 3 = c := ⟨_, rfl⟩
    obtain ⟨l, hl⟩ : ∃ l, txtS p q = l := ⟨_, rfl⟩
    have HM := Lib.hid ((fmt_sh hS).trans hl)
    have z : l.isEmpty = false := by have := txt_ne p q; rw [hl] at this; simpa using this
    have hlen : l.length ≤ 21 := by rw [← hl]; exact txt_len hS.num hS.den
    obtain ⟨l0, f0⟩ := txt_first p q
    obtain ⟨l1, f1⟩ := txt_last p q
    have hq := hS.pos
    have HP := Lib.hid (And.intro hmr hc)
    have hT : c = true → txtS m r ≠ l ∧ fmtS m r = txtS m r := by
      rintro rfl
      rw [← hl]
      have h1 : Sh m r ∧ addN (p, q) (1, 3) = (m, r) := by
        obtain ⟨a, b, x, y, ea, eb, ex, ey, _, _, hs, hsh⟩ := plus_out hc
        obtain rfl : p = a := by omega
        obtain rfl : q = b := by omega
        obtain rfl : x = 1 := by omega
        obtain rfl : y = 3 := by omega
        rw [hmr] at hs
        rw [← hs] at hsh
        exact ⟨hsh, hs.symm⟩
      exact ⟨txt_more hq h1.1.pos h1.2, fmt_sh h1.1⟩
    simp only [hl] at l0 f0 l1 f1
    have N0 : ¬ ((((⟨l.toArray⟩ : ByteArray)[0]'l0).toNat : Int) = 47) := beq_eq_false_iff_ne.1 (byte_ne f0)
    have N1 : ¬ ((((⟨l.toArray⟩ : ByteArray)[l.length - 1]'l1).toNat : Int) = 47) := beq_eq_false_iff_ne.1 (byte_ne f1)
    have NN := Lib.hid (show ((((⟨l.toArray⟩ : ByteArray)[0]'l0).toNat : Int) != 47 && (((⟨l.toArray⟩ : ByteArray)[l.length - 1]'l1).toNat : Int) != 47) = true by rw [Bool.and_eq_true, bne_iff_ne, bne_iff_ne]; exact ⟨N0, N1⟩)
    clear hv hl hS hsm hmr hc f0 f1
    go_wp2_with fail
    (try (go_quiet (fail); go_wp2_with fail))
    refine (iFmt_is _ (p : Int) (q : Int) l HM.out (TG.below HT.out (by repeat (first | with_reducible exact HB1.out | refine bl_drewN ?_ _ | refine Below.drew ?_ | refine bl_alloc ?_ _)))).mono ?_
    rintro e w2 ⟨rfl, hb⟩
    have hs2 := hb.size
    have HB2 := Lib.hid (show Below w.heap.size w w2 from bl_trans (by repeat (first | with_reducible exact HB1.out | with_reducible refine bl_drewN ?_ _ | with_reducible refine Below.drew ?_ | with_reducible refine bl_alloc ?_ _)) hb)
    have bs2 := Lib.hid (show Blk w2 (w1.heap.size) 24 #[.int .i64 (p : Int), .int .i64 (q : Int)] from Blk.below (by have hh := Blk.new w1 24 #[.int .i64 (p : Int), .int .i64 (q : Int)]; (try simp only [World.size_alloc] at hh); repeat (first | exact hh | with_reducible refine Blk.drewN ?_ _ | with_reducible refine Blk.drew ?_ | with_reducible refine Blk.alloc ?_ _)) hb (by first | omega | (simp; done) | (simp; omega)))
    clear hb HB1
    have cs := bs2.out.cell
    go_wp2_with fail
    (try (go_quiet (fail); go_wp2_with fail))
    refine (sFmt_is _ (p : Int) (q : Int) l HM.out).mono ?_
    rintro e w3 ⟨rfl, hb⟩
    have hs3 := hb.size
    have HB3 := Lib.hid (show Below w.heap.size w w3 from bl_trans (by repeat (first | with_reducible exact HB2.out | with_reducible refine bl_drewN ?_ _ | with_reducible refine Below.drew ?_ | with_reducible refine bl_alloc ?_ _)) hb)
    have bs3 := Lib.hid (show Blk w3 (w1.heap.size) 24 #[.int .i64 (p : Int), .int .i64 (q : Int)] from Blk.below (by repeat (first | with_reducible exact bs2.out | with_reducible refine Blk.drewN ?_ _ | with_reducible refine Blk.drew ?_ | with_reducible refine Blk.alloc ?_ _)) hb (by have := bs2.out.lt; first | omega | (simp; omega)))
    clear hb HB2 bs2 cs
    have cs := bs3.out.cell
    go_wp2_with fail
    (try (go_quiet (fail); go_wp2_with fail))
    refine (iAdd_is _ e0 (by repeat (first | exact HE.out.below HB3.out | refine EG.drewN ?_ _ | refine EG.drew ?_ | refine EG.alloc ?_ _)) (p : Int) (q : Int) 1 3 m r c HP.out.1 HP.out.2).mono ?_
    rintro e w4 ⟨rfl, hb⟩
    have hs4 := hb.size
    have HB4 := Lib.hid (show Below w.heap.size w w4 from bl_trans (by repeat (first | with_reducible exact HB3.out | with_reducible refine bl_drewN ?_ _ | with_reducible refine Below.drew ?_ | with_reducible refine bl_alloc ?_ _)) hb)
    have bs4 := Lib.hid (show Blk w4 (w1.heap.size) 24 #[.int .i64 (p : Int), .int .i64 (q : Int)] from Blk.below (by repeat (first | with_reducible exact bs3.out | with_reducible refine Blk.drewN ?_ _ | with_reducible refine Blk.drew ?_ | with_reducible refine Blk.alloc ?_ _)) hb (by have := bs3.out.lt; first | omega | (simp; omega)))
    clear hb HB3 bs3 cs
    cases c
    · clear hT
      have cs := fun o0 => (bs4.out.alloc o0).cell
      go_wp2
      all_goals first | exact (N0 (by assumption)).elim | exact (N1 (by assumption)).elim | skip
      all_goals go_ret
      exact ⟨congrArg (fun b => Ending.returned (.bool b)) NN.out, by repeat (first | with_reducible exact HB4.out | refine bl_drewN ?_ _ | refine Below.drew ?_ | refine bl_alloc ?_ _ | refine bl_set ?_ (by dsimp only; omega) _)⟩
    · obtain ⟨ht1, ht2⟩ := hT rfl
      obtain ⟨l2, hl2⟩ : ∃ l2, txtS m r = l2 := ⟨_, rfl⟩
      rw [hl2] at ht1 ht2
      have HM2 := Lib.hid ht2
      have zz : (l2 == l) = false := by rw [beq_eq_false_iff_ne]; exact ht1
      clear hT ht1 ht2 hl2
      have cs := fun o0 => (bs4.out.alloc o0).cell
      go_wp2_with fail
      (try (go_quiet (fail); go_wp2_with fail))
      all_goals first | exact (N0 (by assumption)).elim | exact (N1 (by assumption)).elim | skip
      refine (iFmt_is _ (m : Int) (r : Int) l2 HM2.out (TG.below HT.out (by repeat (first | with_reducible exact HB4.out | refine bl_drewN ?_ _ | refine Below.drew ?_ | refine bl_alloc ?_ _)))).mono ?_
      rintro e w5 ⟨rfl, hb⟩
      have hs5 := hb.size
      have HB5 := Lib.hid (show Below w.heap.size w w5 from bl_trans (by repeat (first | with_reducible exact HB4.out | with_reducible refine bl_drewN ?_ _ | with_reducible refine Below.drew ?_ | with_reducible refine bl_alloc ?_ _)) hb)
      have bs5 := Lib.hid (show Blk w5 (w1.heap.size) 24 #[.int .i64 (p : Int), .int .i64 (q : Int)] from Blk.below (by repeat (first | with_reducible exact bs4.out | with_reducible refine Blk.drewN ?_ _ | with_reducible refine Blk.drew ?_ | with_reducible refine Blk.alloc ?_ _)) hb (by have := bs4.out.lt; first | omega | (simp; omega)))
      have bt5 := Lib.hid (show Blk w5 (w4.heap.size) 24 #[.int .i64 (m : Int), .int .i64 (r : Int)] from Blk.below (by have hh := Blk.new w4 24 #[.int .i64 (m : Int), .int .i64 (r : Int)]; (try simp only [World.size_alloc] at hh); repeat (first | exact hh | with_reducible refine Blk.drewN ?_ _ | with_reducible refine Blk.drew ?_ | with_reducible refine Blk.alloc ?_ _)) hb (by first | omega | (simp; done) | (simp; omega)))
      clear hb HB4 bs4 cs
      have cs := bs5.out.cell
      have ct := bt5.out.cell
      go_wp2
      go_ret
      exact ⟨congrArg (fun b => Ending.returned (.bool b)) NN.out, by repeat (first | with_reducible exact HB5.out | refine bl_drewN ?_ _ | refine Below.drew ?_ | refine bl_alloc ?_ _ | refine bl_set ?_ (by dsimp only; omega) _)⟩

end Go.Proofs.YtbaecbibkmdbiacDoor
