/- Texts of this seat in one file: PVirB, PVirC, PHas, PVir. -/
import Derived.Test.YtpngfonnoepmfaaDoorM7
import Derived.Deep.RegionWith
import Derived.Deep.RegionHeld3
import Derived.Test.YtpngfonnoepmfaaDoorM1
import Derived.RegionTactic
import Derived.ChangeAlike
import Derived.Test.YtpngfonnoepmfaaDoorM3
namespace Go.Proofs.YtpngfonnoepmfaaDoor

section
/- Contracts of the program's FactorOf. Nothing that was there is written. -/
open Go.RowKit
set_option linter.unusedVariables false

set_option maxRecDepth 100000 in
set_option maxHeartbeats 6000000 in
/-- FactorOf, in the program. -/
theorem iFac_is (w0 : World) (A : Option Addr) (n c : Nat) (ts : List Tk) (h : Tks w0 w0.heap.size A n ts) (hn : n ≤ 1048576) (e0 : Addr) (he : EG w0 e0) (X Y : Nat) (b : Bool) (hX : facV ts = (X, Y)) (hb : facB ts = b) :
    Calls Tryd.prog 23 #[.slice A n c] w0 (MkRes X Y b w0) := by
  have HTt := Lib.hid h
  have HL := Lib.hid h.len
  have HE := Lib.hid he
  have HB0 := Lib.hid (Below.refl w0.heap.size w0)
  have HDt0 := Lib.hid (Below.refl w0.heap.size w0)
  clear h he
  cases hp : plainV ts
  · cases hi : impB ts
    · have hfn : facB ts = false := by unfold facB; rw [hi]; rfl
      rw [facV_no hfn] at hX
      obtain ⟨rfl, rfl⟩ := Prod.mk.inj hX
      obtain rfl : b = false := by rw [← hb]; exact hfn
      clear hb hX hfn
      go_enter Tryd.func23, Tryd.ntmps23
      go_wp2_with fail
      (try (go_quiet (fail); go_wp2_with fail))
      refine (iPlain_is _ A n c ts ((HTt.out.below (by repeat (first | with_reducible exact HDt0.out | with_reducible refine Below.drew ?_ | with_reducible refine bl_drewN ?_ _ | with_reducible refine bl_alloc ?_ _) : Below w0.heap.size w0 _)).more (Below.size (by repeat (first | with_reducible exact HDt0.out | with_reducible refine Below.drew ?_ | with_reducible refine bl_drewN ?_ _ | with_reducible refine bl_alloc ?_ _) : Below w0.heap.size w0 _))) hn e0 (by repeat (first | exact HE.out.below HB0.out | refine EG.drewN ?_ _ | refine EG.drew ?_ | refine EG.alloc ?_ _)) false hp).mono ?_
      rintro e w1 ⟨rfl, hb⟩
      have hs1 := hb.size
      have HB1 := Lib.hid (show Below w0.heap.size w0 w1 from bl_trans (by repeat (first | with_reducible exact HB0.out | with_reducible refine bl_drewN ?_ _ | with_reducible refine Below.drew ?_ | with_reducible refine bl_alloc ?_ _)) hb)
      have br1 := Lib.hid (show Blk w1 (w0.heap.size) 27 #[.int .i64 0, .int .i64 0] from Blk.below (by have hh := Blk.new w0 27 #[.int .i64 0, .int .i64 0]; (try simp only [World.size_alloc] at hh); repeat (first | exact hh | with_reducible refine Blk.drewN ?_ _ | with_reducible refine Blk.drew ?_ | with_reducible refine Blk.alloc ?_ _)) hb (by first | omega | (simp; done) | (simp; omega)))
      have HDt1 := Lib.hid (show Below w0.heap.size w0 w1 from bl_trans (by repeat (first | with_reducible exact HDt0.out | with_reducible refine Below.drew ?_ | with_reducible refine bl_drewN ?_ _ | with_reducible refine bl_alloc ?_ _)) hb)
      clear hb HB0 HDt0
      have cr := br1.out.cell
      go_wp2_with fail
      (try (go_quiet (fail); go_wp2_with fail))
      refine (iImp_is _ A n c ts ((HTt.out.below (by repeat (first | with_reducible exact HDt1.out | with_reducible refine Below.drew ?_ | with_reducible refine bl_drewN ?_ _ | with_reducible refine bl_alloc ?_ _) : Below w0.heap.size w0 _)).more (Below.size (by repeat (first | with_reducible exact HDt1.out | with_reducible refine Below.drew ?_ | with_reducible refine bl_drewN ?_ _ | with_reducible refine bl_alloc ?_ _) : Below w0.heap.size w0 _))) hn false hi).mono ?_
      rintro e w2 ⟨rfl, hb⟩
      have hs2 := hb.size
      have HB2 := Lib.hid (show Below w0.heap.size w0 w2 from bl_trans (by repeat (first | with_reducible exact HB1.out | with_reducible refine bl_drewN ?_ _ | with_reducible refine Below.drew ?_ | with_reducible refine bl_alloc ?_ _)) hb)
      have br2 := Lib.hid (show Blk w2 (w0.heap.size) 27 #[.int .i64 0, .int .i64 0] from Blk.below (by repeat (first | with_reducible exact br1.out | with_reducible refine Blk.drewN ?_ _ | with_reducible refine Blk.drew ?_ | with_reducible refine Blk.alloc ?_ _)) hb (by have := br1.out.lt; first | omega | (simp; omega)))
      have HDt2 := Lib.hid (show Below w0.heap.size w0 w2 from bl_trans (by repeat (first | with_reducible exact HDt1.out | with_reducible refine Below.drew ?_ | with_reducible refine bl_drewN ?_ _ | with_reducible refine bl_alloc ?_ _)) hb)
      clear hb HB1 br1 cr HDt1
      have cr := br2.out.cell
      have fR := br2.out.frozen
      have cR := br2.out.cell
      have cF := fun (s t : Value) => ((br2.out.set_ 0 s).set_ 1 t).cell
      go_wp2
      (try (go_quiet (fail); go_wp2))
      refine bodyPost_ret (v := .tuple #[.agg #[.int .i64 0, .int .i64 0], .bool false]) (by simp [results, Tryd.results23, go_sem, cF]) rfl ⟨rfl, (by repeat (first | with_reducible exact HB2.out | refine bl_drewN ?_ _ | refine Below.drew ?_ | refine bl_alloc ?_ _ | refine bl_set ?_ (by dsimp only; omega) _))⟩
    have hs := imp_set hi
    obtain ⟨p, q, hpq⟩ : ∃ p q, lowOf ts false = (p, q) := ⟨_, _, rfl⟩
    obtain ⟨u, v, huv⟩ : ∃ p q, lowOf ts true = (p, q) := ⟨_, _, rfl⟩
    obtain ⟨x, y, z, s1, s2, s3, ea, e1, e2, e3, e4⟩ := low_pack hs hpq huv
    have hfit := fits_cmp s3 e3
    rw [← e4] at hfit
    have HI := Lib.hid hi
    have HPL := Lib.hid hp
    have HP := Lib.hid hpq
    have HU := Lib.hid huv
    have HA := Lib.hid (And.intro e1 e2)
    by_cases hl : leB (addN (lowOf ts false) (lowOf ts true)) (1, 1) = true
    · have hft : facB ts = true := by unfold facB; rw [hi, hp, hl]; simp; exact rest_some hi hp (leB_iff.1 hl)
      obtain rfl : b = true := by rw [← hb]; exact hft
      obtain ⟨N, D, gg, X0, Y0, hN, hD, hlt, hg, g1, hX1, hY1, N1, D0, D1, m1, m2, hf, hsh, x1, y1⟩ := fac_pack hft hp hpq huv
      rw [hf] at hX
      obtain ⟨rfl, rfl⟩ := Prod.mk.inj hX
      rw [hl] at hfit
      have HF := Lib.hid hfit
      have hr : redN N D = (X0, Y0) := by unfold redN; rw [Nat.gcd_comm, hg, hX1, hY1]
      have HM := Lib.hid (fun (W : World) => rest_is W u v p q N D X0 Y0 (Nat.le_of_lt hlt) hN hD hr D0 (by omega) (by omega) s2.num s2.den s1.num s1.den)
      clear hb hX hi hp hs hpq huv s1 s2 s3 ea e1 e2 e3 e4 hfit hl hft hN hD hlt hg g1 hX1 hY1 N1 D0 D1 m1 m2 hf hsh x1 y1 hr
      go_enter Tryd.func23, Tryd.ntmps23
      go_wp2_with fail
      (try (go_quiet (fail); go_wp2_with fail))
      refine (iPlain_is _ A n c ts ((HTt.out.below (by repeat (first | with_reducible exact HDt0.out | with_reducible refine Below.drew ?_ | with_reducible refine bl_drewN ?_ _ | with_reducible refine bl_alloc ?_ _) : Below w0.heap.size w0 _)).more (Below.size (by repeat (first | with_reducible exact HDt0.out | with_reducible refine Below.drew ?_ | with_reducible refine bl_drewN ?_ _ | with_reducible refine bl_alloc ?_ _) : Below w0.heap.size w0 _))) hn e0 (by repeat (first | exact HE.out.below HB0.out | refine EG.drewN ?_ _ | refine EG.drew ?_ | refine EG.alloc ?_ _)) false HPL.out).mono ?_
      rintro e w1 ⟨rfl, hb⟩
      have hs1 := hb.size
      have HB1 := Lib.hid (show Below w0.heap.size w0 w1 from bl_trans (by repeat (first | with_reducible exact HB0.out | with_reducible refine bl_drewN ?_ _ | with_reducible refine Below.drew ?_ | with_reducible refine bl_alloc ?_ _)) hb)
      have br1 := Lib.hid (show Blk w1 (w0.heap.size) 27 #[.int .i64 0, .int .i64 0] from Blk.below (by have hh := Blk.new w0 27 #[.int .i64 0, .int .i64 0]; (try simp only [World.size_alloc] at hh); repeat (first | exact hh | with_reducible refine Blk.drewN ?_ _ | with_reducible refine Blk.drew ?_ | with_reducible refine Blk.alloc ?_ _)) hb (by first | omega | (simp; done) | (simp; omega)))
      have HDt1 := Lib.hid (show Below w0.heap.size w0 w1 from bl_trans (by repeat (first | with_reducible exact HDt0.out | with_reducible refine Below.drew ?_ | with_reducible refine bl_drewN ?_ _ | with_reducible refine bl_alloc ?_ _)) hb)
      clear hb HB0 HDt0
      have cr := br1.out.cell
      go_wp2_with fail
      (try (go_quiet (fail); go_wp2_with fail))
      refine (iImp_is _ A n c ts ((HTt.out.below (by repeat (first | with_reducible exact HDt1.out | with_reducible refine Below.drew ?_ | with_reducible refine bl_drewN ?_ _ | with_reducible refine bl_alloc ?_ _) : Below w0.heap.size w0 _)).more (Below.size (by repeat (first | with_reducible exact HDt1.out | with_reducible refine Below.drew ?_ | with_reducible refine bl_drewN ?_ _ | with_reducible refine bl_alloc ?_ _) : Below w0.heap.size w0 _))) hn true HI.out).mono ?_
      rintro e w2 ⟨rfl, hb⟩
      have hs2 := hb.size
      have HB2 := Lib.hid (show Below w0.heap.size w0 w2 from bl_trans (by repeat (first | with_reducible exact HB1.out | with_reducible refine bl_drewN ?_ _ | with_reducible refine Below.drew ?_ | with_reducible refine bl_alloc ?_ _)) hb)
      have br2 := Lib.hid (show Blk w2 (w0.heap.size) 27 #[.int .i64 0, .int .i64 0] from Blk.below (by repeat (first | with_reducible exact br1.out | with_reducible refine Blk.drewN ?_ _ | with_reducible refine Blk.drew ?_ | with_reducible refine Blk.alloc ?_ _)) hb (by have := br1.out.lt; first | omega | (simp; omega)))
      have HDt2 := Lib.hid (show Below w0.heap.size w0 w2 from bl_trans (by repeat (first | with_reducible exact HDt1.out | with_reducible refine Below.drew ?_ | with_reducible refine bl_drewN ?_ _ | with_reducible refine bl_alloc ?_ _)) hb)
      clear hb HB1 br1 cr HDt1
      have cr := br2.out.cell
      go_wp2_with fail
      (try (go_quiet (fail); go_wp2_with fail))
      refine (ofLow_is _ A n c ts ((HTt.out.below (by repeat (first | with_reducible exact HDt2.out | with_reducible refine Below.drew ?_ | with_reducible refine bl_drewN ?_ _ | with_reducible refine bl_alloc ?_ _) : Below w0.heap.size w0 _)).more (Below.size (by repeat (first | with_reducible exact HDt2.out | with_reducible refine Below.drew ?_ | with_reducible refine bl_drewN ?_ _ | with_reducible refine bl_alloc ?_ _) : Below w0.heap.size w0 _))) hn e0 (by repeat (first | exact HE.out.below HB2.out | refine EG.drewN ?_ _ | refine EG.drew ?_ | refine EG.alloc ?_ _)) p q u v x y HP.out HU.out HA.out.1 HA.out.2).mono ?_
      rintro e w3 ⟨rfl, hb⟩
      have hs3 := hb.size
      have HB3 := Lib.hid (show Below w0.heap.size w0 w3 from bl_trans (by repeat (first | with_reducible exact HB2.out | with_reducible refine bl_drewN ?_ _ | with_reducible refine Below.drew ?_ | with_reducible refine bl_alloc ?_ _)) hb)
      have br3 := Lib.hid (show Blk w3 (w0.heap.size) 27 #[.int .i64 0, .int .i64 0] from Blk.below (by repeat (first | with_reducible exact br2.out | with_reducible refine Blk.drewN ?_ _ | with_reducible refine Blk.drew ?_ | with_reducible refine Blk.alloc ?_ _)) hb (by have := br2.out.lt; first | omega | (simp; omega)))
      have HDt3 := Lib.hid (show Below w0.heap.size w0 w3 from bl_trans (by repeat (first | with_reducible exact HDt2.out | with_reducible refine Below.drew ?_ | with_reducible refine bl_drewN ?_ _ | with_reducible refine bl_alloc ?_ _)) hb)
      clear hb HB2 br2 cr HDt2
      have cr := br3.out.cell
      go_wp2_with fail
      (try (go_quiet (fail); go_wp2_with fail))
      refine (fits_is _ x y true HF.out).mono ?_
      rintro e w4 ⟨rfl, hb⟩
      have hs4 := hb.size
      have HB4 := Lib.hid (show Below w0.heap.size w0 w4 from bl_trans (by repeat (first | with_reducible exact HB3.out | with_reducible refine bl_drewN ?_ _ | with_reducible refine Below.drew ?_ | with_reducible refine bl_alloc ?_ _)) hb)
      have br4 := Lib.hid (show Blk w4 (w0.heap.size) 27 #[.int .i64 0, .int .i64 0] from Blk.below (by repeat (first | with_reducible exact br3.out | with_reducible refine Blk.drewN ?_ _ | with_reducible refine Blk.drew ?_ | with_reducible refine Blk.alloc ?_ _)) hb (by have := br3.out.lt; first | omega | (simp; omega)))
      have HDt4 := Lib.hid (show Below w0.heap.size w0 w4 from bl_trans (by repeat (first | with_reducible exact HDt3.out | with_reducible refine Below.drew ?_ | with_reducible refine bl_drewN ?_ _ | with_reducible refine bl_alloc ?_ _)) hb)
      clear hb HB3 br3 cr HDt3
      have cr := br4.out.cell
      go_wp2_with fail
      (try (go_quiet (fail); go_wp2_with fail))
      refine (iLow_is _ A n c ts true ((HTt.out.below (by repeat (first | with_reducible exact HDt4.out | with_reducible refine Below.drew ?_ | with_reducible refine bl_drewN ?_ _ | with_reducible refine bl_alloc ?_ _) : Below w0.heap.size w0 _)).more (Below.size (by repeat (first | with_reducible exact HDt4.out | with_reducible refine Below.drew ?_ | with_reducible refine bl_drewN ?_ _ | with_reducible refine bl_alloc ?_ _) : Below w0.heap.size w0 _))) (by omega) e0 (by repeat (first | exact HE.out.below HB4.out | refine EG.drewN ?_ _ | refine EG.drew ?_ | refine EG.alloc ?_ _)) u v HU.out).mono ?_
      rintro e w5 ⟨rfl, hb⟩
      have hs5 := hb.size
      have HB5 := Lib.hid (show Below w0.heap.size w0 w5 from bl_trans (by repeat (first | with_reducible exact HB4.out | with_reducible refine bl_drewN ?_ _ | with_reducible refine Below.drew ?_ | with_reducible refine bl_alloc ?_ _)) hb)
      have br5 := Lib.hid (show Blk w5 (w0.heap.size) 27 #[.int .i64 0, .int .i64 0] from Blk.below (by repeat (first | with_reducible exact br4.out | with_reducible refine Blk.drewN ?_ _ | with_reducible refine Blk.drew ?_ | with_reducible refine Blk.alloc ?_ _)) hb (by have := br4.out.lt; first | omega | (simp; omega)))
      have HDt5 := Lib.hid (show Below w0.heap.size w0 w5 from bl_trans (by repeat (first | with_reducible exact HDt4.out | with_reducible refine Below.drew ?_ | with_reducible refine bl_drewN ?_ _ | with_reducible refine bl_alloc ?_ _)) hb)
      clear hb HB4 br4 cr HDt4
      have cr := br5.out.cell
      go_wp2_with fail
      (try (go_quiet (fail); go_wp2_with fail))
      refine (iLow_is _ A n c ts false ((HTt.out.below (by repeat (first | with_reducible exact HDt5.out | with_reducible refine Below.drew ?_ | with_reducible refine bl_drewN ?_ _ | with_reducible refine bl_alloc ?_ _) : Below w0.heap.size w0 _)).more (Below.size (by repeat (first | with_reducible exact HDt5.out | with_reducible refine Below.drew ?_ | with_reducible refine bl_drewN ?_ _ | with_reducible refine bl_alloc ?_ _) : Below w0.heap.size w0 _))) (by omega) e0 (by repeat (first | exact HE.out.below HB5.out | refine EG.drewN ?_ _ | refine EG.drew ?_ | refine EG.alloc ?_ _)) p q HP.out).mono ?_
      rintro e w6 ⟨rfl, hb⟩
      have hs6 := hb.size
      have HB6 := Lib.hid (show Below w0.heap.size w0 w6 from bl_trans (by repeat (first | with_reducible exact HB5.out | with_reducible refine bl_drewN ?_ _ | with_reducible refine Below.drew ?_ | with_reducible refine bl_alloc ?_ _)) hb)
      have br6 := Lib.hid (show Blk w6 (w0.heap.size) 27 #[.int .i64 0, .int .i64 0] from Blk.below (by repeat (first | with_reducible exact br5.out | with_reducible refine Blk.drewN ?_ _ | with_reducible refine Blk.drew ?_ | with_reducible refine Blk.alloc ?_ _)) hb (by have := br5.out.lt; first | omega | (simp; omega)))
      have HDt6 := Lib.hid (show Below w0.heap.size w0 w6 from bl_trans (by repeat (first | with_reducible exact HDt5.out | with_reducible refine Below.drew ?_ | with_reducible refine bl_drewN ?_ _ | with_reducible refine bl_alloc ?_ _)) hb)
      clear hb HB5 br5 cr HDt5
      have cr := br6.out.cell
      go_wp2_with fail
      (try (go_quiet (fail); go_wp2_with fail))
      refine (HM.out _).mono ?_
      rintro e w7 ⟨rfl, hb⟩
      have hs7 := hb.size
      have HB7 := Lib.hid (show Below w0.heap.size w0 w7 from bl_trans (by repeat (first | with_reducible exact HB6.out | with_reducible refine bl_drewN ?_ _ | with_reducible refine Below.drew ?_ | with_reducible refine bl_alloc ?_ _)) hb)
      have br7 := Lib.hid (show Blk w7 (w0.heap.size) 27 #[.int .i64 0, .int .i64 0] from Blk.below (by repeat (first | with_reducible exact br6.out | with_reducible refine Blk.drewN ?_ _ | with_reducible refine Blk.drew ?_ | with_reducible refine Blk.alloc ?_ _)) hb (by have := br6.out.lt; first | omega | (simp; omega)))
      have HDt7 := Lib.hid (show Below w0.heap.size w0 w7 from bl_trans (by repeat (first | with_reducible exact HDt6.out | with_reducible refine Below.drew ?_ | with_reducible refine bl_drewN ?_ _ | with_reducible refine bl_alloc ?_ _)) hb)
      clear hb HB6 br6 cr HDt6
      have cr := br7.out.cell
      have fR := br7.out.frozen
      have cR := br7.out.cell
      have cF := fun (s t : Value) => ((br7.out.set_ 0 s).set_ 1 t).cell
      go_wp2
      (try (go_quiet (fail); go_wp2))
      refine bodyPost_ret (v := .tuple #[.agg #[.int .i64 (X0 : Int), .int .i64 (Y0 : Int)], .bool true]) (by simp [results, Tryd.results23, go_sem, cF]) rfl ⟨rfl, (by repeat (first | with_reducible exact HB7.out | refine bl_drewN ?_ _ | refine Below.drew ?_ | refine bl_alloc ?_ _ | refine bl_set ?_ (by dsimp only; omega) _))⟩
    have hl : leB (addN (lowOf ts false) (lowOf ts true)) (1, 1) = false := by simpa using hl
    have hfn : facB ts = false := by unfold facB; rw [hi, hp, hl]; rfl
    rw [facV_no hfn] at hX
    obtain ⟨rfl, rfl⟩ := Prod.mk.inj hX
    obtain rfl : b = false := by rw [← hb]; exact hfn
    rw [hl] at hfit
    have HF := Lib.hid hfit
    clear hb hX hi hp hs hpq huv s1 s2 s3 ea e1 e2 e3 e4 hfit hl hfn
    go_enter Tryd.func23, Tryd.ntmps23
    go_wp2_with fail
    (try (go_quiet (fail); go_wp2_with fail))
    refine (iPlain_is _ A n c ts ((HTt.out.below (by repeat (first | with_reducible exact HDt0.out | with_reducible refine Below.drew ?_ | with_reducible refine bl_drewN ?_ _ | with_reducible refine bl_alloc ?_ _) : Below w0.heap.size w0 _)).more (Below.size (by repeat (first | with_reducible exact HDt0.out | with_reducible refine Below.drew ?_ | with_reducible refine bl_drewN ?_ _ | with_reducible refine bl_alloc ?_ _) : Below w0.heap.size w0 _))) hn e0 (by repeat (first | exact HE.out.below HB0.out | refine EG.drewN ?_ _ | refine EG.drew ?_ | refine EG.alloc ?_ _)) false HPL.out).mono ?_
    rintro e w1 ⟨rfl, hb⟩
    have hs1 := hb.size
    have HB1 := Lib.hid (show Below w0.heap.size w0 w1 from bl_trans (by repeat (first | with_reducible exact HB0.out | with_reducible refine bl_drewN ?_ _ | with_reducible refine Below.drew ?_ | with_reducible refine bl_alloc ?_ _)) hb)
    have br1 := Lib.hid (show Blk w1 (w0.heap.size) 27 #[.int .i64 0, .int .i64 0] from Blk.below (by have hh := Blk.new w0 27 #[.int .i64 0, .int .i64 0]; (try simp only [World.size_alloc] at hh); repeat (first | exact hh | with_reducible refine Blk.drewN ?_ _ | with_reducible refine Blk.drew ?_ | with_reducible refine Blk.alloc ?_ _)) hb (by first | omega | (simp; done) | (simp; omega)))
    have HDt1 := Lib.hid (show Below w0.heap.size w0 w1 from bl_trans (by repeat (first | with_reducible exact HDt0.out | with_reducible refine Below.drew ?_ | with_reducible refine bl_drewN ?_ _ | with_reducible refine bl_alloc ?_ _)) hb)
    clear hb HB0 HDt0
    have cr := br1.out.cell
    go_wp2_with fail
    (try (go_quiet (fail); go_wp2_with fail))
    refine (iImp_is _ A n c ts ((HTt.out.below (by repeat (first | with_reducible exact HDt1.out | with_reducible refine Below.drew ?_ | with_reducible refine bl_drewN ?_ _ | with_reducible refine bl_alloc ?_ _) : Below w0.heap.size w0 _)).more (Below.size (by repeat (first | with_reducible exact HDt1.out | with_reducible refine Below.drew ?_ | with_reducible refine bl_drewN ?_ _ | with_reducible refine bl_alloc ?_ _) : Below w0.heap.size w0 _))) hn true HI.out).mono ?_
    rintro e w2 ⟨rfl, hb⟩
    have hs2 := hb.size
    have HB2 := Lib.hid (show Below w0.heap.size w0 w2 from bl_trans (by repeat (first | with_reducible exact HB1.out | with_reducible refine bl_drewN ?_ _ | with_reducible refine Below.drew ?_ | with_reducible refine bl_alloc ?_ _)) hb)
    have br2 := Lib.hid (show Blk w2 (w0.heap.size) 27 #[.int .i64 0, .int .i64 0] from Blk.below (by repeat (first | with_reducible exact br1.out | with_reducible refine Blk.drewN ?_ _ | with_reducible refine Blk.drew ?_ | with_reducible refine Blk.alloc ?_ _)) hb (by have := br1.out.lt; first | omega | (simp; omega)))
    have HDt2 := Lib.hid (show Below w0.heap.size w0 w2 from bl_trans (by repeat (first | with_reducible exact HDt1.out | with_reducible refine Below.drew ?_ | with_reducible refine bl_drewN ?_ _ | with_reducible refine bl_alloc ?_ _)) hb)
    clear hb HB1 br1 cr HDt1
    have cr := br2.out.cell
    go_wp2_with fail
    (try (go_quiet (fail); go_wp2_with fail))
    refine (ofLow_is _ A n c ts ((HTt.out.below (by repeat (first | with_reducible exact HDt2.out | with_reducible refine Below.drew ?_ | with_reducible refine bl_drewN ?_ _ | with_reducible refine bl_alloc ?_ _) : Below w0.heap.size w0 _)).more (Below.size (by repeat (first | with_reducible exact HDt2.out | with_reducible refine Below.drew ?_ | with_reducible refine bl_drewN ?_ _ | with_reducible refine bl_alloc ?_ _) : Below w0.heap.size w0 _))) hn e0 (by repeat (first | exact HE.out.below HB2.out | refine EG.drewN ?_ _ | refine EG.drew ?_ | refine EG.alloc ?_ _)) p q u v x y HP.out HU.out HA.out.1 HA.out.2).mono ?_
    rintro e w3 ⟨rfl, hb⟩
    have hs3 := hb.size
    have HB3 := Lib.hid (show Below w0.heap.size w0 w3 from bl_trans (by repeat (first | with_reducible exact HB2.out | with_reducible refine bl_drewN ?_ _ | with_reducible refine Below.drew ?_ | with_reducible refine bl_alloc ?_ _)) hb)
    have br3 := Lib.hid (show Blk w3 (w0.heap.size) 27 #[.int .i64 0, .int .i64 0] from Blk.below (by repeat (first | with_reducible exact br2.out | with_reducible refine Blk.drewN ?_ _ | with_reducible refine Blk.drew ?_ | with_reducible refine Blk.alloc ?_ _)) hb (by have := br2.out.lt; first | omega | (simp; omega)))
    have HDt3 := Lib.hid (show Below w0.heap.size w0 w3 from bl_trans (by repeat (first | with_reducible exact HDt2.out | with_reducible refine Below.drew ?_ | with_reducible refine bl_drewN ?_ _ | with_reducible refine bl_alloc ?_ _)) hb)
    clear hb HB2 br2 cr HDt2
    have cr := br3.out.cell
    go_wp2_with fail
    (try (go_quiet (fail); go_wp2_with fail))
    refine (fits_is _ x y false HF.out).mono ?_
    rintro e w4 ⟨rfl, hb⟩
    have hs4 := hb.size
    have HB4 := Lib.hid (show Below w0.heap.size w0 w4 from bl_trans (by repeat (first | with_reducible exact HB3.out | with_reducible refine bl_drewN ?_ _ | with_reducible refine Below.drew ?_ | with_reducible refine bl_alloc ?_ _)) hb)
    have br4 := Lib.hid (show Blk w4 (w0.heap.size) 27 #[.int .i64 0, .int .i64 0] from Blk.below (by repeat (first | with_reducible exact br3.out | with_reducible refine Blk.drewN ?_ _ | with_reducible refine Blk.drew ?_ | with_reducible refine Blk.alloc ?_ _)) hb (by have := br3.out.lt; first | omega | (simp; omega)))
    have HDt4 := Lib.hid (show Below w0.heap.size w0 w4 from bl_trans (by repeat (first | with_reducible exact HDt3.out | with_reducible refine Below.drew ?_ | with_reducible refine bl_drewN ?_ _ | with_reducible refine bl_alloc ?_ _)) hb)
    clear hb HB3 br3 cr HDt3
    have cr := br4.out.cell
    have fR := br4.out.frozen
    have cR := br4.out.cell
    have cF := fun (s t : Value) => ((br4.out.set_ 0 s).set_ 1 t).cell
    go_wp2
    (try (go_quiet (fail); go_wp2))
    refine bodyPost_ret (v := .tuple #[.agg #[.int .i64 0, .int .i64 0], .bool false]) (by simp [results, Tryd.results23, go_sem, cF]) rfl ⟨rfl, (by repeat (first | with_reducible exact HB4.out | refine bl_drewN ?_ _ | refine Below.drew ?_ | refine bl_alloc ?_ _ | refine bl_set ?_ (by dsimp only; omega) _))⟩
  · rw [facV_plain hp] at hX
    obtain ⟨rfl, rfl⟩ := Prod.mk.inj hX
    obtain rfl : b = true := by rw [← hb]; exact fac_plain hp
    have HPL := Lib.hid hp
    clear hb hX hp
    go_enter Tryd.func23, Tryd.ntmps23
    go_wp2_with fail
    (try (go_quiet (fail); go_wp2_with fail))
    refine (iPlain_is _ A n c ts ((HTt.out.below (by repeat (first | with_reducible exact HDt0.out | with_reducible refine Below.drew ?_ | with_reducible refine bl_drewN ?_ _ | with_reducible refine bl_alloc ?_ _) : Below w0.heap.size w0 _)).more (Below.size (by repeat (first | with_reducible exact HDt0.out | with_reducible refine Below.drew ?_ | with_reducible refine bl_drewN ?_ _ | with_reducible refine bl_alloc ?_ _) : Below w0.heap.size w0 _))) hn e0 (by repeat (first | exact HE.out.below HB0.out | refine EG.drewN ?_ _ | refine EG.drew ?_ | refine EG.alloc ?_ _)) true HPL.out).mono ?_
    rintro e w1 ⟨rfl, hb⟩
    have hs1 := hb.size
    have HB1 := Lib.hid (show Below w0.heap.size w0 w1 from bl_trans (by repeat (first | with_reducible exact HB0.out | with_reducible refine bl_drewN ?_ _ | with_reducible refine Below.drew ?_ | with_reducible refine bl_alloc ?_ _)) hb)
    have br1 := Lib.hid (show Blk w1 (w0.heap.size) 27 #[.int .i64 0, .int .i64 0] from Blk.below (by have hh := Blk.new w0 27 #[.int .i64 0, .int .i64 0]; (try simp only [World.size_alloc] at hh); repeat (first | exact hh | with_reducible refine Blk.drewN ?_ _ | with_reducible refine Blk.drew ?_ | with_reducible refine Blk.alloc ?_ _)) hb (by first | omega | (simp; done) | (simp; omega)))
    have HDt1 := Lib.hid (show Below w0.heap.size w0 w1 from bl_trans (by repeat (first | with_reducible exact HDt0.out | with_reducible refine Below.drew ?_ | with_reducible refine bl_drewN ?_ _ | with_reducible refine bl_alloc ?_ _)) hb)
    clear hb HB0 HDt0
    have cr := br1.out.cell
    have fR := br1.out.frozen
    have cR := br1.out.cell
    have cF := fun (s t : Value) => ((br1.out.set_ 0 s).set_ 1 t).cell
    go_wp2
    (try (go_quiet (fail); go_wp2))
    refine bodyPost_ret (v := .tuple #[.agg #[.int .i64 1, .int .i64 1], .bool true]) (by simp [results, Tryd.results23, go_sem, cF]) rfl ⟨rfl, (by repeat (first | with_reducible exact HB1.out | refine bl_drewN ?_ _ | refine Below.drew ?_ | refine bl_alloc ?_ _ | refine bl_set ?_ (by dsimp only; omega) _))⟩
end

section
/- Contracts of the program's HoldsVirtual. Nothing that was there is written. -/
open Go.RowKit
set_option linter.unusedVariables false

/-- What HoldsVirtual adds up, whether tasks hold plainly or not. -/
theorem virt5_pack {ts : List Tk} (h : facB ts = true) {p q X Y s t : Nat} (ha : lowOf ts false = (p, q)) (hf : facV ts = (X, Y)) (hh : highOf ts = (s, t)) :
    ∃ (N D P Q x y : Nat), X * p = N ∧ Y * q = D ∧ redN N D = (P, Q) ∧ 1 ≤ D ∧ P ≤ 1000000000 ∧ Q ≤ 1000000000 ∧ plusS P Q s t = (x, y) ∧ plusB P Q s t = true ∧ decide ((x : Int) ≤ (y : Int)) = virtV ts := by
  have hs := imp_set (fac_imp h)
  have sl := (lowOf_sh false hs).1
  rw [ha] at sl
  cases hp : plainV ts
  · obtain ⟨N, D, g, P, Q, x, y, z, hN, hD, hg, g1, hP1, hQ1, N1, D0, D1, m1, m2, sP, sh, p1, q1, e1, e2, sx, ez, ev, _, _⟩ := virt_pack h hp ha hf hh
    exact ⟨N, D, P, Q, x, y, hN, hD, by unfold redN; rw [Nat.gcd_comm, hg, hP1, hQ1], D0, by omega, by omega, e1, e2, by rw [fits_cmp sx ez, ev]⟩
  · obtain ⟨x, y, z, s1, s2, s3, _, e1, e2, e3, e4⟩ := plain_pack hs ha hh
    rw [facV_plain hp] at hf
    obtain ⟨rfl, rfl⟩ := Prod.mk.inj hf
    refine ⟨p, q, p, q, x, y, Nat.one_mul _, Nat.one_mul _, sh_redN s1, s1.pos, s1.num, s1.den, e1, e2, ?_⟩
    rw [fits_cmp s3 e3, ← e4]
    have hv : virtV ts = true := by unfold virtV; rw [h, hp]; rfl
    have hp2 := hp
    unfold plainV at hp2
    rw [hv]
    simp at hp2
    rw [hp2.2]

set_option maxRecDepth 100000 in
set_option maxHeartbeats 6000000 in
/-- HoldsVirtual, in the program. -/
theorem iVirt_is (w0 : World) (A : Option Addr) (n c : Nat) (ts : List Tk) (h : Tks w0 w0.heap.size A n ts) (hn : n ≤ 1048576) (e0 : Addr) (he : EG w0 e0) (b : Bool) (hb : virtV ts = b) :
    Calls Tryd.prog 16 #[.slice A n c] w0 (BoolRes b w0) := by
  have HTt := Lib.hid h
  have HL := Lib.hid h.len
  have HE := Lib.hid he
  have HB0 := Lib.hid (Below.refl w0.heap.size w0)
  have HDt0 := Lib.hid (Below.refl w0.heap.size w0)
  clear h he
  cases hft : facB ts
  · obtain rfl : b = false := by rw [← hb]; unfold virtV; rw [hft]; rfl
    have HF := Lib.hid (And.intro (facV_no hft) hft)
    clear hb hft
    go_enter Tryd.func16, Tryd.ntmps16
    go_wp2_with fail
    (try (go_quiet (fail); go_wp2_with fail))
    refine (iFac_is _ A n c ts ((HTt.out.below (by repeat (first | with_reducible exact HDt0.out | with_reducible refine Below.drew ?_ | with_reducible refine bl_drewN ?_ _ | with_reducible refine bl_alloc ?_ _) : Below w0.heap.size w0 _)).more (Below.size (by repeat (first | with_reducible exact HDt0.out | with_reducible refine Below.drew ?_ | with_reducible refine bl_drewN ?_ _ | with_reducible refine bl_alloc ?_ _) : Below w0.heap.size w0 _))) hn e0 (by repeat (first | exact HE.out.below HB0.out | refine EG.drewN ?_ _ | refine EG.drew ?_ | refine EG.alloc ?_ _)) 0 0 false HF.out.1 HF.out.2).mono ?_
    rintro e w1 ⟨rfl, hb⟩
    have hs1 := hb.size
    have HB1 := Lib.hid (show Below w0.heap.size w0 w1 from bl_trans (by repeat (first | with_reducible exact HB0.out | with_reducible refine bl_drewN ?_ _ | with_reducible refine Below.drew ?_ | with_reducible refine bl_alloc ?_ _)) hb)
    have HDt1 := Lib.hid (show Below w0.heap.size w0 w1 from bl_trans (by repeat (first | with_reducible exact HDt0.out | with_reducible refine Below.drew ?_ | with_reducible refine bl_drewN ?_ _ | with_reducible refine bl_alloc ?_ _)) hb)
    clear hb HB0 HDt0
    go_wp2_with fail
    (try go_region_with (fail))
    all_goals
      (skip
       go_wp2
       (try (go_quiet (fail); go_wp2))
       refine bodyPost_ret (v := .bool false) (by simp [results, Tryd.results16, go_sem]) rfl ⟨rfl, (by repeat (first | with_reducible exact HB1.out | refine bl_drewN ?_ _ | refine Below.drew ?_ | refine bl_alloc ?_ _ | refine bl_set ?_ (by dsimp only; omega) _))⟩)
  obtain ⟨p, q, hpq⟩ : ∃ p q, lowOf ts false = (p, q) := ⟨_, _, rfl⟩
  obtain ⟨X, Y, hXY⟩ : ∃ p q, facV ts = (p, q) := ⟨_, _, rfl⟩
  obtain ⟨s, t, hst⟩ : ∃ p q, highOf ts = (p, q) := ⟨_, _, rfl⟩
  obtain ⟨N, D, P, Q, x, y, hN, hD, hr, D0, P9, Q9, e1, e2, e3⟩ := virt5_pack hft hpq hXY hst
  rw [hb] at e3
  have sf := (facV_sh hft).1
  rw [hXY] at sf
  have sl := (lowOf_sh false (imp_set (fac_imp hft))).1
  rw [hpq] at sl
  have HM := Lib.hid (fun (W : World) => times_is W X Y p q N D P Q hN hD hr D0 P9 Q9 sf.num sf.den sl.num sl.den)
  have HF := Lib.hid (And.intro hXY hft)
  have HP := Lib.hid hpq
  have HH := Lib.hid hst
  have HA := Lib.hid (And.intro e1 e2)
  have HZ := Lib.hid e3
  clear hb hft hpq hXY hst hN hD hr D0 P9 Q9 e1 e2 e3 sf sl
  go_enter Tryd.func16, Tryd.ntmps16
  go_wp2_with fail
  (try (go_quiet (fail); go_wp2_with fail))
  refine (iFac_is _ A n c ts ((HTt.out.below (by repeat (first | with_reducible exact HDt0.out | with_reducible refine Below.drew ?_ | with_reducible refine bl_drewN ?_ _ | with_reducible refine bl_alloc ?_ _) : Below w0.heap.size w0 _)).more (Below.size (by repeat (first | with_reducible exact HDt0.out | with_reducible refine Below.drew ?_ | with_reducible refine bl_drewN ?_ _ | with_reducible refine bl_alloc ?_ _) : Below w0.heap.size w0 _))) hn e0 (by repeat (first | exact HE.out.below HB0.out | refine EG.drewN ?_ _ | refine EG.drew ?_ | refine EG.alloc ?_ _)) X Y true HF.out.1 HF.out.2).mono ?_
  rintro e w1 ⟨rfl, hb⟩
  have hs1 := hb.size
  have HB1 := Lib.hid (show Below w0.heap.size w0 w1 from bl_trans (by repeat (first | with_reducible exact HB0.out | with_reducible refine bl_drewN ?_ _ | with_reducible refine Below.drew ?_ | with_reducible refine bl_alloc ?_ _)) hb)
  have HDt1 := Lib.hid (show Below w0.heap.size w0 w1 from bl_trans (by repeat (first | with_reducible exact HDt0.out | with_reducible refine Below.drew ?_ | with_reducible refine bl_drewN ?_ _ | with_reducible refine bl_alloc ?_ _)) hb)
  clear hb HB0 HDt0
  have hS1 := (Blk.two (show Blk (w1.alloc (.cells #[.int .i64 (X : Int), .int .i64 (Y : Int)] 27)) (w1.heap.size) 27 #[.int .i64 (X : Int), .int .i64 (Y : Int)] from by have hh := Blk.new w1 27 #[.int .i64 (X : Int), .int .i64 (Y : Int)]; (try simp only [World.size_alloc] at hh); repeat (first | exact hh | with_reducible refine Blk.alloc ?_ _)))
  go_wp2_with fail
  first
  | (go_region_held3 (fun W => (W.cell? ⟨w1.heap.size, 0, none⟩ = some (.int .i64 (X : Int)) ∧ W.cell? ⟨w1.heap.size, 1, none⟩ = some (.int .i64 (Y : Int)))) (first | exact hS1 | exact hS2 | exact hS3 | exact hS4 | exact hS5 | exact hS6)
    ((first
      | (have uu := HB1; clear uu; go_at_call 26; refine (iLow_is _ A n c ts false ((HTt.out.below (by repeat (first | with_reducible exact HDt1.out | with_reducible refine Below.drew ?_ | with_reducible refine bl_drewN ?_ _ | with_reducible refine bl_alloc ?_ _) : Below w0.heap.size w0 _)).more (Below.size (by repeat (first | with_reducible exact HDt1.out | with_reducible refine Below.drew ?_ | with_reducible refine bl_drewN ?_ _ | with_reducible refine bl_alloc ?_ _) : Below w0.heap.size w0 _))) hn e0 (by repeat (first | exact HE.out.below HB1.out | refine EG.drewN ?_ _ | refine EG.drew ?_ | refine EG.alloc ?_ _)) p q HP.out).mono ?_; rintro e w2 ⟨rfl, hb⟩; have hs2 := hb.size; have HB2 := Lib.hid (show Below w0.heap.size w0 w2 from bl_trans (by repeat (first | with_reducible exact HB1.out | with_reducible refine bl_drewN ?_ _ | with_reducible refine Below.drew ?_ | with_reducible refine bl_alloc ?_ _)) hb); have bx2 := Lib.hid (show Blk w2 (w1.heap.size) 27 #[.int .i64 (X : Int), .int .i64 (Y : Int)] from Blk.below (by have hh := Blk.new w1 27 #[.int .i64 (X : Int), .int .i64 (Y : Int)]; (try simp only [World.size_alloc] at hh); repeat (first | exact hh | with_reducible refine Blk.drewN ?_ _ | with_reducible refine Blk.drew ?_ | with_reducible refine Blk.alloc ?_ _)) hb (by first | omega | (simp; done) | (simp; omega))); have cx := bx2.out.cell; have HDt2 := Lib.hid (show Below w0.heap.size w0 w2 from bl_trans (by repeat (first | with_reducible exact HDt1.out | with_reducible refine Below.drew ?_ | with_reducible refine bl_drewN ?_ _ | with_reducible refine bl_alloc ?_ _)) hb); have hS2 := Blk.two bx2.out; clear hb HB1)
      | (have uu := HB2; clear uu; go_at_call 44; refine (HM.out _).mono ?_; rintro e w3 ⟨rfl, hb⟩; have hs3 := hb.size; have HB3 := Lib.hid (show Below w0.heap.size w0 w3 from bl_trans (by repeat (first | with_reducible exact HB2.out | with_reducible refine bl_drewN ?_ _ | with_reducible refine Below.drew ?_ | with_reducible refine bl_alloc ?_ _)) hb); have bx3 := Lib.hid (show Blk w3 (w1.heap.size) 27 #[.int .i64 (X : Int), .int .i64 (Y : Int)] from Blk.below (by repeat (first | with_reducible exact bx2.out | with_reducible refine Blk.drewN ?_ _ | with_reducible refine Blk.drew ?_ | with_reducible refine Blk.alloc ?_ _)) hb (by have := bx2.out.lt; first | exact this | omega | (simp; omega))); have cx := bx3.out.cell; have HDt3 := Lib.hid (show Below w0.heap.size w0 w3 from bl_trans (by repeat (first | with_reducible exact HDt2.out | with_reducible refine Below.drew ?_ | with_reducible refine bl_drewN ?_ _ | with_reducible refine bl_alloc ?_ _)) hb); have hS3 := Blk.two bx3.out; clear hb HB2)
      | (have uu := HB3; clear uu; go_at_call 38; refine (iHigh_is _ A n c ts ((HTt.out.below (by repeat (first | with_reducible exact HDt3.out | with_reducible refine Below.drew ?_ | with_reducible refine bl_drewN ?_ _ | with_reducible refine bl_alloc ?_ _) : Below w0.heap.size w0 _)).more (Below.size (by repeat (first | with_reducible exact HDt3.out | with_reducible refine Below.drew ?_ | with_reducible refine bl_drewN ?_ _ | with_reducible refine bl_alloc ?_ _) : Below w0.heap.size w0 _))) hn e0 (by repeat (first | exact HE.out.below HB3.out | refine EG.drewN ?_ _ | refine EG.drew ?_ | refine EG.alloc ?_ _)) s t HH.out).mono ?_; rintro e w4 ⟨rfl, hb⟩; have hs4 := hb.size; have HB4 := Lib.hid (show Below w0.heap.size w0 w4 from bl_trans (by repeat (first | with_reducible exact HB3.out | with_reducible refine bl_drewN ?_ _ | with_reducible refine Below.drew ?_ | with_reducible refine bl_alloc ?_ _)) hb); have bx4 := Lib.hid (show Blk w4 (w1.heap.size) 27 #[.int .i64 (X : Int), .int .i64 (Y : Int)] from Blk.below (by repeat (first | with_reducible exact bx3.out | with_reducible refine Blk.drewN ?_ _ | with_reducible refine Blk.drew ?_ | with_reducible refine Blk.alloc ?_ _)) hb (by have := bx3.out.lt; first | exact this | omega | (simp; omega))); have cx := bx4.out.cell; have HDt4 := Lib.hid (show Below w0.heap.size w0 w4 from bl_trans (by repeat (first | with_reducible exact HDt3.out | with_reducible refine Below.drew ?_ | with_reducible refine bl_drewN ?_ _ | with_reducible refine bl_alloc ?_ _)) hb); have hS4 := Blk.two bx4.out; clear hb HB3)
      | (have uu := HB4; clear uu; go_at_call 45; refine (plus2_is _ e0 (by repeat (first | exact HE.out.below HB4.out | refine EG.drewN ?_ _ | refine EG.drew ?_ | refine EG.alloc ?_ _)) P Q s t x y HA.out.1 HA.out.2).mono ?_; rintro e w5 ⟨rfl, hb⟩; have hs5 := hb.size; have HB5 := Lib.hid (show Below w0.heap.size w0 w5 from bl_trans (by repeat (first | with_reducible exact HB4.out | with_reducible refine bl_drewN ?_ _ | with_reducible refine Below.drew ?_ | with_reducible refine bl_alloc ?_ _)) hb); have bx5 := Lib.hid (show Blk w5 (w1.heap.size) 27 #[.int .i64 (X : Int), .int .i64 (Y : Int)] from Blk.below (by repeat (first | with_reducible exact bx4.out | with_reducible refine Blk.drewN ?_ _ | with_reducible refine Blk.drew ?_ | with_reducible refine Blk.alloc ?_ _)) hb (by have := bx4.out.lt; first | exact this | omega | (simp; omega))); have cx := bx5.out.cell; have HDt5 := Lib.hid (show Below w0.heap.size w0 w5 from bl_trans (by repeat (first | with_reducible exact HDt4.out | with_reducible refine Below.drew ?_ | with_reducible refine bl_drewN ?_ _ | with_reducible refine bl_alloc ?_ _)) hb); have hS5 := Blk.two bx5.out; clear hb HB4)
      | (have uu := HB5; clear uu; go_at_call 46; refine (fits_is _ x y b HZ.out).mono ?_; rintro e w6 ⟨rfl, hb⟩; have hs6 := hb.size; have HB6 := Lib.hid (show Below w0.heap.size w0 w6 from bl_trans (by repeat (first | with_reducible exact HB5.out | with_reducible refine bl_drewN ?_ _ | with_reducible refine Below.drew ?_ | with_reducible refine bl_alloc ?_ _)) hb); have bx6 := Lib.hid (show Blk w6 (w1.heap.size) 27 #[.int .i64 (X : Int), .int .i64 (Y : Int)] from Blk.below (by repeat (first | with_reducible exact bx5.out | with_reducible refine Blk.drewN ?_ _ | with_reducible refine Blk.drew ?_ | with_reducible refine Blk.alloc ?_ _)) hb (by have := bx5.out.lt; first | exact this | omega | (simp; omega))); have cx := bx6.out.cell; have HDt6 := Lib.hid (show Below w0.heap.size w0 w6 from bl_trans (by repeat (first | with_reducible exact HDt5.out | with_reducible refine Below.drew ?_ | with_reducible refine bl_drewN ?_ _ | with_reducible refine bl_alloc ?_ _)) hb); have hS6 := Blk.two bx6.out; clear hb HB5))))
  | fail "no region"
  have hkx6 := bx6.out.lt
  have cx := bx6.out.cell
  go_wp2
  (try (go_quiet (fail); go_wp2))
  refine bodyPost_ret (v := .bool b) (by simp [results, Tryd.results16, go_sem]) rfl ⟨rfl, (by repeat (first | with_reducible exact HB6.out | refine bl_drewN ?_ _ | refine Below.drew ?_ | refine bl_alloc ?_ _ | refine bl_set ?_ (by dsimp only; omega) _))⟩
end

section
/- Contract of the program's hasTask. Nothing that was there is written. -/
open Go.RowKit
set_option linter.unusedVariables false

set_option maxHeartbeats 1000000 in
theorem iHas5_is (w : World) (A : Option Addr) (n c : Nat) (ts : List Tk) (a : Int) (h : Tks w w.heap.size A n ts) (hn : n ≤ 1048576) (b : Bool) (hb : (setB ts && (decide (0 ≤ a) && decide (a < (n : Int)))) = b) :
    Calls Tryd.prog 62 #[.slice A n c, .int .i64 a] w fun e w' => e = .returned (.bool b) ∧ Below w.heap.size w w' := by
  have H := Lib.hid h
  clear h
  cases hs : setB ts
  · subst hb
    go_enter Tryd.func62, Tryd.ntmps62
    go_wp2_with (go_at_call 37; refine (iSetValid_any _ A n c ts H.out hn).mono ?_; rintro e w2 ⟨rfl, hb2⟩)
    go_ret
    exact ⟨by simp [hs], hb2⟩
  rw [hs, Bool.true_and] at hb
  by_cases h0 : 0 ≤ a
  · by_cases h1 : a < (n : Int)
    · rw [decide_eq_true h0, decide_eq_true h1] at hb
      subst hb
      go_enter Tryd.func62, Tryd.ntmps62
      go_wp2_with (go_at_call 37; refine (iSetValid_any _ A n c ts H.out hn).mono ?_; rintro e w2 ⟨rfl, hb2⟩)
      go_ret
      exact ⟨by simp [*], hb2⟩
    · rw [decide_eq_true h0, decide_eq_false h1] at hb
      subst hb
      go_enter Tryd.func62, Tryd.ntmps62
      go_wp2_with (go_at_call 37; refine (iSetValid_any _ A n c ts H.out hn).mono ?_; rintro e w2 ⟨rfl, hb2⟩)
      go_ret
      exact ⟨by simp [*], hb2⟩
  · rw [decide_eq_false h0] at hb
    subst hb
    go_enter Tryd.func62, Tryd.ntmps62
    go_wp2_with (go_at_call 37; refine (iSetValid_any _ A n c ts H.out hn).mono ?_; rintro e w2 ⟨rfl, hb2⟩)
    go_ret
    exact ⟨by simp [*], hb2⟩
end

section
/- Contracts of the program's VirtualDue. Nothing that was there is written. -/
open Go.RowKit
set_option linter.unusedVariables false

set_option maxRecDepth 100000 in
set_option maxHeartbeats 6000000 in
/-- VirtualDue, in the program. -/
theorem iDue_is (w0 : World) (A : Option Addr) (n c : Nat) (ts : List Tk) (h : Tks w0 w0.heap.size A n ts) (hn : n ≤ 1048576) (e0 : Addr) (he : EG w0 e0) (a : Int) (P Q : Nat) (b : Bool) (hX : dueV ts a = (P, Q)) (hb : dueB ts a = b) :
    Calls Tryd.prog 29 #[.slice A n c, .int .i64 a] w0 (MkRes P Q b w0) := by
  have HTt := Lib.hid h
  have HL := Lib.hid h.len
  have HE := Lib.hid he
  have HB0 := Lib.hid (Below.refl w0.heap.size w0)
  have HDt0 := Lib.hid (Below.refl w0.heap.size w0)
  clear h he
  cases hft : facB ts
  · have hd : dueB ts a = false := by unfold dueB; rw [hft]; rfl
    rw [dueV_no hd] at hX
    obtain ⟨rfl, rfl⟩ := Prod.mk.inj hX
    obtain rfl : b = false := by rw [← hb]; exact hd
    have hf0 := facV_no hft
    clear hb hX hd
    go_enter Tryd.func29, Tryd.ntmps29
    go_wp2_with fail
    (try (go_quiet (fail); go_wp2_with fail))
    refine (iFac_is _ A n c ts ((HTt.out.below (by repeat (first | with_reducible exact HDt0.out | with_reducible refine Below.drew ?_ | with_reducible refine bl_drewN ?_ _ | with_reducible refine bl_alloc ?_ _) : Below w0.heap.size w0 _)).more (Below.size (by repeat (first | with_reducible exact HDt0.out | with_reducible refine Below.drew ?_ | with_reducible refine bl_drewN ?_ _ | with_reducible refine bl_alloc ?_ _) : Below w0.heap.size w0 _))) hn e0 (by repeat (first | exact HE.out.below HB0.out | refine EG.drewN ?_ _ | refine EG.drew ?_ | refine EG.alloc ?_ _)) 0 0 false hf0 hft).mono ?_
    rintro e w1 ⟨rfl, hb⟩
    have hs1 := hb.size
    have HB1 := Lib.hid (show Below w0.heap.size w0 w1 from bl_trans (by repeat (first | with_reducible exact HB0.out | with_reducible refine bl_drewN ?_ _ | with_reducible refine Below.drew ?_ | with_reducible refine bl_alloc ?_ _)) hb)
    have br1 := Lib.hid (show Blk w1 (w0.heap.size) 27 #[.int .i64 0, .int .i64 0] from Blk.below (by have hh := Blk.new w0 27 #[.int .i64 0, .int .i64 0]; (try simp only [World.size_alloc] at hh); repeat (first | exact hh | with_reducible refine Blk.drewN ?_ _ | with_reducible refine Blk.drew ?_ | with_reducible refine Blk.alloc ?_ _)) hb (by first | omega | (simp; done) | (simp; omega)))
    have HDt1 := Lib.hid (show Below w0.heap.size w0 w1 from bl_trans (by repeat (first | with_reducible exact HDt0.out | with_reducible refine Below.drew ?_ | with_reducible refine bl_drewN ?_ _ | with_reducible refine bl_alloc ?_ _)) hb)
    clear hb HB0 HDt0
    have cr := fun o0 => (br1.out.alloc o0).cell
    have fR := fun (o0 : Obj) => (br1.out.alloc o0).frozen
    have cR := fun (o0 : Obj) => (br1.out.alloc o0).cell
    have cF := fun (o0 : Obj) (s t : Value) => (((br1.out.alloc o0).set_ 0 s).set_ 1 t).cell
    go_wp2
    (try (go_quiet (fail); go_wp2))
    refine bodyPost_ret (v := .tuple #[.agg #[.int .i64 0, .int .i64 0], .bool false]) (by simp [results, Tryd.results29, go_sem, cF]) rfl ⟨rfl, (by repeat (first | with_reducible exact HB1.out | refine bl_drewN ?_ _ | refine Below.drew ?_ | refine bl_alloc ?_ _ | refine bl_set ?_ (by dsimp only; omega) _))⟩
  obtain ⟨X, Y, hXY⟩ : ∃ p q, facV ts = (p, q) := ⟨_, _, rfl⟩
  have HF := Lib.hid (And.intro hXY hft)
  have hs := imp_set (fac_imp hft)
  cases ha : atB ts a
  · have hd : dueB ts a = false := by unfold dueB; rw [ha]; simp
    rw [dueV_no hd] at hX
    obtain ⟨rfl, rfl⟩ := Prod.mk.inj hX
    obtain rfl : b = false := by rw [← hb]; exact hd
    have hat : (setB ts && (decide (0 ≤ a) && decide (a < (n : Int)))) = false := by unfold atB at ha; rw [HL.out] at ha; rw [ha]; simp
    have HAT := Lib.hid hat
    clear hb hX hd ha hat hft hXY hs
    go_enter Tryd.func29, Tryd.ntmps29
    go_wp2_with fail
    (try (go_quiet (fail); go_wp2_with fail))
    refine (iFac_is _ A n c ts ((HTt.out.below (by repeat (first | with_reducible exact HDt0.out | with_reducible refine Below.drew ?_ | with_reducible refine bl_drewN ?_ _ | with_reducible refine bl_alloc ?_ _) : Below w0.heap.size w0 _)).more (Below.size (by repeat (first | with_reducible exact HDt0.out | with_reducible refine Below.drew ?_ | with_reducible refine bl_drewN ?_ _ | with_reducible refine bl_alloc ?_ _) : Below w0.heap.size w0 _))) hn e0 (by repeat (first | exact HE.out.below HB0.out | refine EG.drewN ?_ _ | refine EG.drew ?_ | refine EG.alloc ?_ _)) X Y true HF.out.1 HF.out.2).mono ?_
    rintro e w1 ⟨rfl, hb⟩
    have hs1 := hb.size
    have HB1 := Lib.hid (show Below w0.heap.size w0 w1 from bl_trans (by repeat (first | with_reducible exact HB0.out | with_reducible refine bl_drewN ?_ _ | with_reducible refine Below.drew ?_ | with_reducible refine bl_alloc ?_ _)) hb)
    have br1 := Lib.hid (show Blk w1 (w0.heap.size) 27 #[.int .i64 0, .int .i64 0] from Blk.below (by have hh := Blk.new w0 27 #[.int .i64 0, .int .i64 0]; (try simp only [World.size_alloc] at hh); repeat (first | exact hh | with_reducible refine Blk.drewN ?_ _ | with_reducible refine Blk.drew ?_ | with_reducible refine Blk.alloc ?_ _)) hb (by first | omega | (simp; done) | (simp; omega)))
    have HDt1 := Lib.hid (show Below w0.heap.size w0 w1 from bl_trans (by repeat (first | with_reducible exact HDt0.out | with_reducible refine Below.drew ?_ | with_reducible refine bl_drewN ?_ _ | with_reducible refine bl_alloc ?_ _)) hb)
    clear hb HB0 HDt0
    have cr := fun o0 => (br1.out.alloc o0).cell
    go_wp2_with fail
    (try (go_quiet (fail); go_wp2_with fail))
    refine (iHas5_is _ A n c ts a ((HTt.out.below (by repeat (first | with_reducible exact HDt1.out | with_reducible refine Below.drew ?_ | with_reducible refine bl_drewN ?_ _ | with_reducible refine bl_alloc ?_ _) : Below w0.heap.size w0 _)).more (Below.size (by repeat (first | with_reducible exact HDt1.out | with_reducible refine Below.drew ?_ | with_reducible refine bl_drewN ?_ _ | with_reducible refine bl_alloc ?_ _) : Below w0.heap.size w0 _))) hn false HAT.out).mono ?_
    rintro e w2 ⟨rfl, hb⟩
    have hs2 := hb.size
    have HB2 := Lib.hid (show Below w0.heap.size w0 w2 from bl_trans (by repeat (first | with_reducible exact HB1.out | with_reducible refine bl_drewN ?_ _ | with_reducible refine Below.drew ?_ | with_reducible refine bl_alloc ?_ _)) hb)
    have br2 := Lib.hid (show Blk w2 (w0.heap.size) 27 #[.int .i64 0, .int .i64 0] from Blk.below (by repeat (first | with_reducible exact br1.out | with_reducible refine Blk.drewN ?_ _ | with_reducible refine Blk.drew ?_ | with_reducible refine Blk.alloc ?_ _)) hb (by have := br1.out.lt; first | omega | (simp; omega)))
    have bx2 := Lib.hid (show Blk w2 (w1.heap.size) 27 #[.int .i64 (X : Int), .int .i64 (Y : Int)] from Blk.below (by have hh := Blk.new w1 27 #[.int .i64 (X : Int), .int .i64 (Y : Int)]; (try simp only [World.size_alloc] at hh); repeat (first | exact hh | with_reducible refine Blk.drewN ?_ _ | with_reducible refine Blk.drew ?_ | with_reducible refine Blk.alloc ?_ _)) hb (by first | omega | (simp; done) | (simp; omega)))
    have HDt2 := Lib.hid (show Below w0.heap.size w0 w2 from bl_trans (by repeat (first | with_reducible exact HDt1.out | with_reducible refine Below.drew ?_ | with_reducible refine bl_drewN ?_ _ | with_reducible refine bl_alloc ?_ _)) hb)
    clear hb HB1 br1 cr HDt1
    have cr := br2.out.cell
    have cx := bx2.out.cell
    have fR := br2.out.frozen
    have cR := br2.out.cell
    have cF := fun (s t : Value) => ((br2.out.set_ 0 s).set_ 1 t).cell
    go_wp2
    (try (go_quiet (fail); go_wp2))
    refine bodyPost_ret (v := .tuple #[.agg #[.int .i64 0, .int .i64 0], .bool false]) (by simp [results, Tryd.results29, go_sem, cF]) rfl ⟨rfl, (by repeat (first | with_reducible exact HB2.out | refine bl_drewN ?_ _ | refine Below.drew ?_ | refine bl_alloc ?_ _ | refine bl_set ?_ (by dsimp only; omega) _))⟩
  have hat : (setB ts && (decide (0 ≤ a) && decide (a < (n : Int)))) = true := by unfold atB at ha; rw [HL.out] at ha; rw [ha, hs]; rfl
  have HAT := Lib.hid hat
  have i1 : 0 ≤ a := by unfold atB at ha; simp at ha; exact ha.1
  have i2 : a < (n : Int) := by unfold atB at ha; rw [HL.out] at ha; simp at ha; exact ha.2
  obtain rfl : b = true := by rw [← hb]; unfold dueB; rw [hft, ha]; rfl
  obtain ⟨k, rfl⟩ : ∃ k : Nat, a = (k : Int) := ⟨a.toNat, by omega⟩
  have hlt : k < n := by omega
  obtain ⟨t, ht⟩ : ∃ t, ts[k]? = some t := ⟨ts[k]'(by rw [HL.out]; exact hlt), List.getElem?_eq_getElem _⟩
  rw [dueV_at hft ht] at hX
  obtain ⟨d1, d2, x1, y1, hno, hyes⟩ := due_pack hft (List.mem_of_getElem? ht) hXY
  have sf := (facV_sh hft).1
  rw [hXY] at sf
  have SF := Lib.hid sf
  have HTK := Lib.hid ht
  clear hb ha hat hft hXY hs ht sf
  cases hc : t.cr
  · rw [hno hc] at hX
    clear hno hyes
    go_enter Tryd.func29, Tryd.ntmps29
    go_wp2_with fail
    (try (go_quiet (fail); go_wp2_with fail))
    refine (iFac_is _ A n c ts ((HTt.out.below (by repeat (first | with_reducible exact HDt0.out | with_reducible refine Below.drew ?_ | with_reducible refine bl_drewN ?_ _ | with_reducible refine bl_alloc ?_ _) : Below w0.heap.size w0 _)).more (Below.size (by repeat (first | with_reducible exact HDt0.out | with_reducible refine Below.drew ?_ | with_reducible refine bl_drewN ?_ _ | with_reducible refine bl_alloc ?_ _) : Below w0.heap.size w0 _))) hn e0 (by repeat (first | exact HE.out.below HB0.out | refine EG.drewN ?_ _ | refine EG.drew ?_ | refine EG.alloc ?_ _)) X Y true HF.out.1 HF.out.2).mono ?_
    rintro e w1 ⟨rfl, hb⟩
    have hs1 := hb.size
    have HB1 := Lib.hid (show Below w0.heap.size w0 w1 from bl_trans (by repeat (first | with_reducible exact HB0.out | with_reducible refine bl_drewN ?_ _ | with_reducible refine Below.drew ?_ | with_reducible refine bl_alloc ?_ _)) hb)
    have br1 := Lib.hid (show Blk w1 (w0.heap.size) 27 #[.int .i64 0, .int .i64 0] from Blk.below (by have hh := Blk.new w0 27 #[.int .i64 0, .int .i64 0]; (try simp only [World.size_alloc] at hh); repeat (first | exact hh | with_reducible refine Blk.drewN ?_ _ | with_reducible refine Blk.drew ?_ | with_reducible refine Blk.alloc ?_ _)) hb (by first | omega | (simp; done) | (simp; omega)))
    have HDt1 := Lib.hid (show Below w0.heap.size w0 w1 from bl_trans (by repeat (first | with_reducible exact HDt0.out | with_reducible refine Below.drew ?_ | with_reducible refine bl_drewN ?_ _ | with_reducible refine bl_alloc ?_ _)) hb)
    clear hb HB0 HDt0
    have cr := fun o0 => (br1.out.alloc o0).cell
    go_wp2_with fail
    (try (go_quiet (fail); go_wp2_with fail))
    refine (iHas5_is _ A n c ts (k : Int) ((HTt.out.below (by repeat (first | with_reducible exact HDt1.out | with_reducible refine Below.drew ?_ | with_reducible refine bl_drewN ?_ _ | with_reducible refine bl_alloc ?_ _) : Below w0.heap.size w0 _)).more (Below.size (by repeat (first | with_reducible exact HDt1.out | with_reducible refine Below.drew ?_ | with_reducible refine bl_drewN ?_ _ | with_reducible refine bl_alloc ?_ _) : Below w0.heap.size w0 _))) hn true HAT.out).mono ?_
    rintro e w2 ⟨rfl, hb⟩
    have hs2 := hb.size
    have HB2 := Lib.hid (show Below w0.heap.size w0 w2 from bl_trans (by repeat (first | with_reducible exact HB1.out | with_reducible refine bl_drewN ?_ _ | with_reducible refine Below.drew ?_ | with_reducible refine bl_alloc ?_ _)) hb)
    have br2 := Lib.hid (show Blk w2 (w0.heap.size) 27 #[.int .i64 0, .int .i64 0] from Blk.below (by repeat (first | with_reducible exact br1.out | with_reducible refine Blk.drewN ?_ _ | with_reducible refine Blk.drew ?_ | with_reducible refine Blk.alloc ?_ _)) hb (by have := br1.out.lt; first | omega | (simp; omega)))
    have bx2 := Lib.hid (show Blk w2 (w1.heap.size) 27 #[.int .i64 (X : Int), .int .i64 (Y : Int)] from Blk.below (by have hh := Blk.new w1 27 #[.int .i64 (X : Int), .int .i64 (Y : Int)]; (try simp only [World.size_alloc] at hh); repeat (first | exact hh | with_reducible refine Blk.drewN ?_ _ | with_reducible refine Blk.drew ?_ | with_reducible refine Blk.alloc ?_ _)) hb (by first | omega | (simp; done) | (simp; omega)))
    have HDt2 := Lib.hid (show Below w0.heap.size w0 w2 from bl_trans (by repeat (first | with_reducible exact HDt1.out | with_reducible refine Below.drew ?_ | with_reducible refine bl_drewN ?_ _ | with_reducible refine bl_alloc ?_ _)) hb)
    clear hb HB1 br1 cr HDt1
    obtain ⟨bb, o, hA, hbl, c0, c1, c2, c3, c4⟩ := (HTt.out.below HDt2.out).at_ k t HTK.out
    obtain ⟨lo, hi, du, ev, cr⟩ := t
    dsimp only at hc c0 c1 c2 c3 c4 d1 d2 hX
    subst hc
    subst hA
    have hbk : bb < w2.heap.size := Nat.lt_of_lt_of_le hbl HDt2.out.size
    have c4a := fun o' => (World.cell?_alloc_lt w2 o' _ hbk).trans c4
    have hne : bb ≠ w0.heap.size := Nat.ne_of_lt hbl
    obtain ⟨hP, rfl⟩ := Prod.mk.inj hX
    have hdn : (P : Int) = du := by omega
    clear hX hP
    have cr := br2.out.cell
    have cx := bx2.out.cell
    have fR := fun o => (br2.out.alloc o).frozen
    have cR := fun o => (br2.out.alloc o).cell
    have cF := fun (s t : Value) o => (((br2.out.alloc o).set_ 0 s).set_ 1 t).cell
    go_wp2
    (try (go_quiet (fail); go_wp2))
    refine bodyPost_ret (v := .tuple #[.agg #[.int .i64 du, .int .i64 1], .bool true]) (by simp [results, Tryd.results29, go_sem, cF]) rfl ⟨by rw [hdn]; rfl, (by repeat (first | with_reducible exact HB2.out | refine bl_drewN ?_ _ | refine Below.drew ?_ | refine bl_alloc ?_ _ | refine bl_set ?_ (by dsimp only; omega) _))⟩
  · obtain ⟨M, P0, Q0, hM, m1, m2, m3, m4⟩ := hyes hc
    rw [m3] at hX
    obtain ⟨rfl, rfl⟩ := Prod.mk.inj hX
    obtain ⟨D9, hD9⟩ : ∃ D : Nat, t.du = (D : Int) := ⟨t.du.toNat, by omega⟩
    have hN : D9 * X = M := by rw [hD9] at hM; have h2 : ((X * D9 : Nat) : Int) = (M : Int) := by rw [← hM]; simp
                               rw [Nat.mul_comm]; exact_mod_cast h2
    have hr : redN M Y = (P0, Q0) := (mkS_nat (by omega) SF.out.pos SF.out.den).symm.trans m1
    have hsh := sh_red (a := M) (b := Y) (by omega) SF.out.pos SF.out.den
    rw [hr] at hsh
    have D90 : D9 ≤ 1000000000 := by omega
    have HM := Lib.hid (fun (W : World) => times_is W D9 1 X Y M Y P0 Q0 hN (Nat.one_mul _) hr SF.out.pos hsh.num hsh.den D90 (by omega) SF.out.num SF.out.den)
    clear hno hyes hX m1 m2 m3 m4 hN hr hsh D90
    go_enter Tryd.func29, Tryd.ntmps29
    go_wp2_with fail
    (try (go_quiet (fail); go_wp2_with fail))
    refine (iFac_is _ A n c ts ((HTt.out.below (by repeat (first | with_reducible exact HDt0.out | with_reducible refine Below.drew ?_ | with_reducible refine bl_drewN ?_ _ | with_reducible refine bl_alloc ?_ _) : Below w0.heap.size w0 _)).more (Below.size (by repeat (first | with_reducible exact HDt0.out | with_reducible refine Below.drew ?_ | with_reducible refine bl_drewN ?_ _ | with_reducible refine bl_alloc ?_ _) : Below w0.heap.size w0 _))) hn e0 (by repeat (first | exact HE.out.below HB0.out | refine EG.drewN ?_ _ | refine EG.drew ?_ | refine EG.alloc ?_ _)) X Y true HF.out.1 HF.out.2).mono ?_
    rintro e w1 ⟨rfl, hb⟩
    have hs1 := hb.size
    have HB1 := Lib.hid (show Below w0.heap.size w0 w1 from bl_trans (by repeat (first | with_reducible exact HB0.out | with_reducible refine bl_drewN ?_ _ | with_reducible refine Below.drew ?_ | with_reducible refine bl_alloc ?_ _)) hb)
    have br1 := Lib.hid (show Blk w1 (w0.heap.size) 27 #[.int .i64 0, .int .i64 0] from Blk.below (by have hh := Blk.new w0 27 #[.int .i64 0, .int .i64 0]; (try simp only [World.size_alloc] at hh); repeat (first | exact hh | with_reducible refine Blk.drewN ?_ _ | with_reducible refine Blk.drew ?_ | with_reducible refine Blk.alloc ?_ _)) hb (by first | omega | (simp; done) | (simp; omega)))
    have HDt1 := Lib.hid (show Below w0.heap.size w0 w1 from bl_trans (by repeat (first | with_reducible exact HDt0.out | with_reducible refine Below.drew ?_ | with_reducible refine bl_drewN ?_ _ | with_reducible refine bl_alloc ?_ _)) hb)
    clear hb HB0 HDt0
    have cr := fun o0 => (br1.out.alloc o0).cell
    go_wp2_with fail
    (try (go_quiet (fail); go_wp2_with fail))
    refine (iHas5_is _ A n c ts (k : Int) ((HTt.out.below (by repeat (first | with_reducible exact HDt1.out | with_reducible refine Below.drew ?_ | with_reducible refine bl_drewN ?_ _ | with_reducible refine bl_alloc ?_ _) : Below w0.heap.size w0 _)).more (Below.size (by repeat (first | with_reducible exact HDt1.out | with_reducible refine Below.drew ?_ | with_reducible refine bl_drewN ?_ _ | with_reducible refine bl_alloc ?_ _) : Below w0.heap.size w0 _))) hn true HAT.out).mono ?_
    rintro e w2 ⟨rfl, hb⟩
    have hs2 := hb.size
    have HB2 := Lib.hid (show Below w0.heap.size w0 w2 from bl_trans (by repeat (first | with_reducible exact HB1.out | with_reducible refine bl_drewN ?_ _ | with_reducible refine Below.drew ?_ | with_reducible refine bl_alloc ?_ _)) hb)
    have br2 := Lib.hid (show Blk w2 (w0.heap.size) 27 #[.int .i64 0, .int .i64 0] from Blk.below (by repeat (first | with_reducible exact br1.out | with_reducible refine Blk.drewN ?_ _ | with_reducible refine Blk.drew ?_ | with_reducible refine Blk.alloc ?_ _)) hb (by have := br1.out.lt; first | omega | (simp; omega)))
    have bx2 := Lib.hid (show Blk w2 (w1.heap.size) 27 #[.int .i64 (X : Int), .int .i64 (Y : Int)] from Blk.below (by have hh := Blk.new w1 27 #[.int .i64 (X : Int), .int .i64 (Y : Int)]; (try simp only [World.size_alloc] at hh); repeat (first | exact hh | with_reducible refine Blk.drewN ?_ _ | with_reducible refine Blk.drew ?_ | with_reducible refine Blk.alloc ?_ _)) hb (by first | omega | (simp; done) | (simp; omega)))
    have HDt2 := Lib.hid (show Below w0.heap.size w0 w2 from bl_trans (by repeat (first | with_reducible exact HDt1.out | with_reducible refine Below.drew ?_ | with_reducible refine bl_drewN ?_ _ | with_reducible refine bl_alloc ?_ _)) hb)
    clear hb HB1 br1 cr HDt1
    obtain ⟨bb, o, hA, hbl, c0, c1, c2, c3, c4⟩ := (HTt.out.below HDt2.out).at_ k t HTK.out
    obtain ⟨lo, hi, du, ev, cr⟩ := t
    dsimp only at hc c0 c1 c2 c3 c4 d1 d2 hM hD9
    subst hc
    subst hA
    have hbk : bb < w2.heap.size := Nat.lt_of_lt_of_le hbl HDt2.out.size
    have c4a := fun o' => (World.cell?_alloc_lt w2 o' _ hbk).trans c4
    have hne : bb ≠ w0.heap.size := Nat.ne_of_lt hbl
    subst hD9
    have cr := fun o0 => (br2.out.alloc o0).cell
    have cx := fun o0 => (bx2.out.alloc o0).cell
    go_wp2_with fail
    (try (go_quiet (fail); go_wp2_with fail))
    refine (HM.out _).mono ?_
    rintro e w3 ⟨rfl, hb⟩
    have hs3 := hb.size
    have HB3 := Lib.hid (show Below w0.heap.size w0 w3 from bl_trans (by repeat (first | with_reducible exact HB2.out | with_reducible refine bl_drewN ?_ _ | with_reducible refine Below.drew ?_ | with_reducible refine bl_alloc ?_ _)) hb)
    have br3 := Lib.hid (show Blk w3 (w0.heap.size) 27 #[.int .i64 0, .int .i64 0] from Blk.below (by repeat (first | with_reducible exact br2.out | with_reducible refine Blk.drewN ?_ _ | with_reducible refine Blk.drew ?_ | with_reducible refine Blk.alloc ?_ _)) hb (by have := br2.out.lt; first | omega | (simp; omega)))
    have bx3 := Lib.hid (show Blk w3 (w1.heap.size) 27 #[.int .i64 (X : Int), .int .i64 (Y : Int)] from Blk.below (by repeat (first | with_reducible exact bx2.out | with_reducible refine Blk.drewN ?_ _ | with_reducible refine Blk.drew ?_ | with_reducible refine Blk.alloc ?_ _)) hb (by have := bx2.out.lt; first | omega | (simp; omega)))
    have bd3 := Lib.hid (show Blk w3 (w2.heap.size) 27 #[.int .i64 (D9 : Int), .int .i64 1] from Blk.below (by have hh := Blk.new w2 27 #[.int .i64 (D9 : Int), .int .i64 1]; (try simp only [World.size_alloc] at hh); repeat (first | exact hh | with_reducible refine Blk.drewN ?_ _ | with_reducible refine Blk.drew ?_ | with_reducible refine Blk.alloc ?_ _)) hb (by first | omega | (simp; done) | (simp; omega)))
    have HDt3 := Lib.hid (show Below w0.heap.size w0 w3 from bl_trans (by repeat (first | with_reducible exact HDt2.out | with_reducible refine Below.drew ?_ | with_reducible refine bl_drewN ?_ _ | with_reducible refine bl_alloc ?_ _)) hb)
    clear hb HB2 br2 bx2 cr cx HDt2
    have hkr3 := br3.out.lt
    have hkd3 := bd3.out.lt
    have fD := bd3.out.frozen
    have cD := bd3.out.cell
    have hz2 : w0.heap.size ≤ w2.heap.size := by simp at hs1 hs2; omega
    have hnr : w0.heap.size ≠ w2.heap.size := by simp at hs1 hs2; omega
    have cD2 := ((bd3.out.set_ 0 (.int .i64 (P0 : Int))).set_ 1 (.int .i64 (Q0 : Int))).cell
    have bRR := (br3.out.far (p := ⟨w2.heap.size, 0, none⟩) hnr (.int .i64 (P0 : Int))).far (p := ⟨w2.heap.size, 1, none⟩) hnr (.int .i64 (Q0 : Int))
    have cR := bRR.cell
    have fR := bRR.frozen
    have cF := fun (s t : Value) => ((bRR.set_ 0 s).set_ 1 t).cell
    clear bRR
    go_wp2
    (try (go_quiet (fail); go_wp2))
    refine bodyPost_ret (v := .tuple #[.agg #[.int .i64 (P0 : Int), .int .i64 (Q0 : Int)], .bool true]) (by simp [results, Tryd.results29, go_sem, cF]) rfl ⟨rfl, (by repeat (first | with_reducible exact HB3.out | refine bl_drewN ?_ _ | refine Below.drew ?_ | refine bl_alloc ?_ _ | refine bl_set ?_ (by dsimp only; omega) _))⟩
end

end Go.Proofs.YtpngfonnoepmfaaDoor
