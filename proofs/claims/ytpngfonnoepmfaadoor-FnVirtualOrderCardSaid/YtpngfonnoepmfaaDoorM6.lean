/- Texts of this seat in one file: SDue, Dr5, Get5. -/
import Derived.Test.YtpngfonnoepmfaaDoorM4
import Derived.Test.YtpngfonnoepmfaaDoorM3
import Derived.Deep.RegionWith
import Derived.Deep.RegionHeld3
import Derived.Test.YtpngfonnoepmfaaDoorM1
namespace Go.Proofs.YtpngfonnoepmfaaDoor

section
/- Contract of the reference's VirtualDue. Nothing that was there is written. -/
open Go.RowKit
set_option linter.unusedVariables false

set_option maxRecDepth 100000 in
set_option maxHeartbeats 6000000 in
theorem sDue_is (w0 : World) (A : Option Addr) (n c : Nat) (ts : List Tk) (h : Tks w0 w0.heap.size A n ts) (hn : n ≤ 1048576) (a : Int) (P Q : Nat) (b : Bool) (hX : dueV ts a = (P, Q)) (hb : dueB ts a = b) :
    Calls Tryd.prog 30 #[.slice A n c, .int .i64 a] w0 (MkRes P Q b w0) := by
  have HTt := Lib.hid h
  have HL := Lib.hid h.len
  have HB0 := Lib.hid (Below.refl w0.heap.size w0)
  have HDt0 := Lib.hid (Below.refl w0.heap.size w0)
  clear h
  cases hft : facB ts
  · have hd : dueB ts a = false := by unfold dueB; rw [hft]; rfl
    rw [dueV_no hd] at hX
    obtain ⟨rfl, rfl⟩ := Prod.mk.inj hX
    obtain rfl : b = false := by rw [← hb]; exact hd
    have hf0 := facV_no hft
    clear hb hX hd
    go_enter Tryd.func30, Tryd.ntmps30
    go_wp2_with fail
    (try (go_quiet (fail); go_wp2_with fail))
    refine (sFac_is _ A n c ts ((HTt.out.below (by repeat (first | with_reducible exact HDt0.out | with_reducible refine Below.drew ?_ | with_reducible refine bl_drewN ?_ _ | with_reducible refine bl_alloc ?_ _) : Below w0.heap.size w0 _)).more (Below.size (by repeat (first | with_reducible exact HDt0.out | with_reducible refine Below.drew ?_ | with_reducible refine bl_drewN ?_ _ | with_reducible refine bl_alloc ?_ _) : Below w0.heap.size w0 _))) hn 0 0 false hf0 hft).mono ?_
    rintro e w1 ⟨rfl, hb⟩
    have hs1 := hb.size
    have HB1 := Lib.hid (show Below w0.heap.size w0 w1 from bl_trans (by repeat (first | with_reducible exact HB0.out | with_reducible refine bl_drewN ?_ _ | with_reducible refine Below.drew ?_ | with_reducible refine bl_alloc ?_ _)) hb)
    have br1 := Lib.hid (show Blk w1 (w0.heap.size) 27 #[.int .i64 0, .int .i64 0] from Blk.below (by have hh := Blk.new w0 27 #[.int .i64 0, .int .i64 0]; (try simp only [World.size_alloc] at hh); repeat (first | exact hh | with_reducible refine Blk.drewN ?_ _ | with_reducible refine Blk.drew ?_ | with_reducible refine Blk.alloc ?_ _)) hb (by first | omega | (simp; done) | (simp; omega)))
    have HDt1 := Lib.hid (show Below w0.heap.size w0 w1 from bl_trans (by repeat (first | with_reducible exact HDt0.out | with_reducible refine Below.drew ?_ | with_reducible refine bl_drewN ?_ _ | with_reducible refine bl_alloc ?_ _)) hb)
    clear hb HB0 HDt0
    have cr := fun o0 => (br1.out.alloc o0).cell
    have fR := fun (o0 : Obj) => (br1.out.alloc o0).frozen
    have cR := fun (o0 : Obj) => (br1.out.alloc o0).cell
    have cF := fun (o0 : Obj) (s t : Value) => (((br1.out.alloc o0).set_ 0 s).set_ 1 t).cell
    go_wp2
    (try (go_quiet (fail); go_wp2))
    refine bodyPost_ret (v := .tuple #[.agg #[.int .i64 0, .int .i64 0], .bool false]) (by simp [results, Tryd.results30, go_sem, cF]) rfl ⟨rfl, (by repeat (first | with_reducible exact HB1.out | refine bl_drewN ?_ _ | refine Below.drew ?_ | refine bl_alloc ?_ _ | refine bl_set ?_ (by dsimp only; omega) _))⟩
  obtain ⟨X, Y, hXY⟩ : ∃ p q, facV ts = (p, q) := ⟨_, _, rfl⟩
  have HF := Lib.hid (And.intro hXY hft)
  have hs := imp_set (fac_imp hft)
  cases ha : atB ts a
  · have hd : dueB ts a = false := by unfold dueB; rw [ha]; simp
    rw [dueV_no hd] at hX
    obtain ⟨rfl, rfl⟩ := Prod.mk.inj hX
    obtain rfl : b = false := by rw [← hb]; exact hd
    have hat : (setB ts && (decide (0 ≤ a) && decide (a < (n : Int)))) = false := by unfold atB at ha; rw [HL.out] at ha; rw [ha]; simp
    have HAT := Lib.hid hat
    clear hb hX hd ha hat hft hXY hs
    go_enter Tryd.func30, Tryd.ntmps30
    go_wp2_with fail
    (try (go_quiet (fail); go_wp2_with fail))
    refine (sFac_is _ A n c ts ((HTt.out.below (by repeat (first | with_reducible exact HDt0.out | with_reducible refine Below.drew ?_ | with_reducible refine bl_drewN ?_ _ | with_reducible refine bl_alloc ?_ _) : Below w0.heap.size w0 _)).more (Below.size (by repeat (first | with_reducible exact HDt0.out | with_reducible refine Below.drew ?_ | with_reducible refine bl_drewN ?_ _ | with_reducible refine bl_alloc ?_ _) : Below w0.heap.size w0 _))) hn X Y true HF.out.1 HF.out.2).mono ?_
    rintro e w1 ⟨rfl, hb⟩
    have hs1 := hb.size
    have HB1 := Lib.hid (show Below w0.heap.size w0 w1 from bl_trans (by repeat (first | with_reducible exact HB0.out | with_reducible refine bl_drewN ?_ _ | with_reducible refine Below.drew ?_ | with_reducible refine bl_alloc ?_ _)) hb)
    have br1 := Lib.hid (show Blk w1 (w0.heap.size) 27 #[.int .i64 0, .int .i64 0] from Blk.below (by have hh := Blk.new w0 27 #[.int .i64 0, .int .i64 0]; (try simp only [World.size_alloc] at hh); repeat (first | exact hh | with_reducible refine Blk.drewN ?_ _ | with_reducible refine Blk.drew ?_ | with_reducible refine Blk.alloc ?_ _)) hb (by first | omega | (simp; done) | (simp; omega)))
    have HDt1 := Lib.hid (show Below w0.heap.size w0 w1 from bl_trans (by repeat (first | with_reducible exact HDt0.out | with_reducible refine Below.drew ?_ | with_reducible refine bl_drewN ?_ _ | with_reducible refine bl_alloc ?_ _)) hb)
    clear hb HB0 HDt0
    have cr := fun o0 => (br1.out.alloc o0).cell
    go_wp2_with fail
    (try (go_quiet (fail); go_wp2_with fail))
    refine (sAt5_is _ A n c ts a ((HTt.out.below (by repeat (first | with_reducible exact HDt1.out | with_reducible refine Below.drew ?_ | with_reducible refine bl_drewN ?_ _ | with_reducible refine bl_alloc ?_ _) : Below w0.heap.size w0 _)).more (Below.size (by repeat (first | with_reducible exact HDt1.out | with_reducible refine Below.drew ?_ | with_reducible refine bl_drewN ?_ _ | with_reducible refine bl_alloc ?_ _) : Below w0.heap.size w0 _))) hn false HAT.out).mono ?_
    rintro e w2 ⟨rfl, hb⟩
    have hs2 := hb.size
    have HB2 := Lib.hid (show Below w0.heap.size w0 w2 from bl_trans (by repeat (first | with_reducible exact HB1.out | with_reducible refine bl_drewN ?_ _ | with_reducible refine Below.drew ?_ | with_reducible refine bl_alloc ?_ _)) hb)
    have br2 := Lib.hid (show Blk w2 (w0.heap.size) 27 #[.int .i64 0, .int .i64 0] from Blk.below (by repeat (first | with_reducible exact br1.out | with_reducible refine Blk.drewN ?_ _ | with_reducible refine Blk.drew ?_ | with_reducible refine Blk.alloc ?_ _)) hb (by have := br1.out.lt; first | omega | (simp; omega)))
    have bx2 := Lib.hid (show Blk w2 (w1.heap.size) 27 #[.int .i64 (X : Int), .int .i64 (Y : Int)] from Blk.below (by have hh := Blk.new w1 27 #[.int .i64 (X : Int), .int .i64 (Y : Int)]; (try simp only [World.size_alloc] at hh); repeat (first | exact hh | with_reducible refine Blk.drewN ?_ _ | with_reducible refine Blk.drew ?_ | with_reducible refine Blk.alloc ?_ _)) hb (by first | omega | (simp; done) | (simp; omega)))
    have HDt2 := Lib.hid (show Below w0.heap.size w0 w2 from bl_trans (by repeat (first | with_reducible exact HDt1.out | with_reducible refine Below.drew ?_ | with_reducible refine bl_drewN ?_ _ | with_reducible refine bl_alloc ?_ _)) hb)
    clear hb HB1 br1 cr HDt1
    have cr := br2.out.cell
    have cx := bx2.out.cell
    have fR := br2.out.frozen
    have cR := br2.out.cell
    have cF := fun (s t : Value) => ((br2.out.set_ 0 s).set_ 1 t).cell
    go_wp2
    (try (go_quiet (fail); go_wp2))
    refine bodyPost_ret (v := .tuple #[.agg #[.int .i64 0, .int .i64 0], .bool false]) (by simp [results, Tryd.results30, go_sem, cF]) rfl ⟨rfl, (by repeat (first | with_reducible exact HB2.out | refine bl_drewN ?_ _ | refine Below.drew ?_ | refine bl_alloc ?_ _ | refine bl_set ?_ (by dsimp only; omega) _))⟩
  have hat : (setB ts && (decide (0 ≤ a) && decide (a < (n : Int)))) = true := by unfold atB at ha; rw [HL.out] at ha; rw [ha, hs]; rfl
  have HAT := Lib.hid hat
  have i1 : 0 ≤ a := by unfold atB at ha; simp at ha; exact ha.1
  have i2 : a < (n : Int) := by unfold atB at ha; rw [HL.out] at ha; simp at ha; exact ha.2
  obtain rfl : b = true := by rw [← hb]; unfold dueB; rw [hft, ha]; rfl
  obtain ⟨k, rfl⟩ : ∃ k : Nat, a = (k : Int) := ⟨a.toNat, by omega⟩
  have hlt : k < n := by omega
  obtain ⟨t, ht⟩ : ∃ t, ts[k]? = some t := ⟨ts[k]'(by rw [HL.out]; exact hlt), List.getElem?_eq_getElem _⟩
  rw [dueV_at hft ht] at hX
  obtain ⟨d1, d2, x1, y1, hno, hyes⟩ := due_pack hft (List.mem_of_getElem? ht) hXY
  have HTK := Lib.hid ht
  clear hb ha hat hft hXY hs ht
  cases hc : t.cr
  · rw [hno hc] at hX
    clear hno hyes
    go_enter Tryd.func30, Tryd.ntmps30
    go_wp2_with fail
    (try (go_quiet (fail); go_wp2_with fail))
    refine (sFac_is _ A n c ts ((HTt.out.below (by repeat (first | with_reducible exact HDt0.out | with_reducible refine Below.drew ?_ | with_reducible refine bl_drewN ?_ _ | with_reducible refine bl_alloc ?_ _) : Below w0.heap.size w0 _)).more (Below.size (by repeat (first | with_reducible exact HDt0.out | with_reducible refine Below.drew ?_ | with_reducible refine bl_drewN ?_ _ | with_reducible refine bl_alloc ?_ _) : Below w0.heap.size w0 _))) hn X Y true HF.out.1 HF.out.2).mono ?_
    rintro e w1 ⟨rfl, hb⟩
    have hs1 := hb.size
    have HB1 := Lib.hid (show Below w0.heap.size w0 w1 from bl_trans (by repeat (first | with_reducible exact HB0.out | with_reducible refine bl_drewN ?_ _ | with_reducible refine Below.drew ?_ | with_reducible refine bl_alloc ?_ _)) hb)
    have br1 := Lib.hid (show Blk w1 (w0.heap.size) 27 #[.int .i64 0, .int .i64 0] from Blk.below (by have hh := Blk.new w0 27 #[.int .i64 0, .int .i64 0]; (try simp only [World.size_alloc] at hh); repeat (first | exact hh | with_reducible refine Blk.drewN ?_ _ | with_reducible refine Blk.drew ?_ | with_reducible refine Blk.alloc ?_ _)) hb (by first | omega | (simp; done) | (simp; omega)))
    have HDt1 := Lib.hid (show Below w0.heap.size w0 w1 from bl_trans (by repeat (first | with_reducible exact HDt0.out | with_reducible refine Below.drew ?_ | with_reducible refine bl_drewN ?_ _ | with_reducible refine bl_alloc ?_ _)) hb)
    clear hb HB0 HDt0
    have cr := fun o0 => (br1.out.alloc o0).cell
    go_wp2_with fail
    (try (go_quiet (fail); go_wp2_with fail))
    refine (sAt5_is _ A n c ts (k : Int) ((HTt.out.below (by repeat (first | with_reducible exact HDt1.out | with_reducible refine Below.drew ?_ | with_reducible refine bl_drewN ?_ _ | with_reducible refine bl_alloc ?_ _) : Below w0.heap.size w0 _)).more (Below.size (by repeat (first | with_reducible exact HDt1.out | with_reducible refine Below.drew ?_ | with_reducible refine bl_drewN ?_ _ | with_reducible refine bl_alloc ?_ _) : Below w0.heap.size w0 _))) hn true HAT.out).mono ?_
    rintro e w2 ⟨rfl, hb⟩
    have hs2 := hb.size
    have HB2 := Lib.hid (show Below w0.heap.size w0 w2 from bl_trans (by repeat (first | with_reducible exact HB1.out | with_reducible refine bl_drewN ?_ _ | with_reducible refine Below.drew ?_ | with_reducible refine bl_alloc ?_ _)) hb)
    have br2 := Lib.hid (show Blk w2 (w0.heap.size) 27 #[.int .i64 0, .int .i64 0] from Blk.below (by repeat (first | with_reducible exact br1.out | with_reducible refine Blk.drewN ?_ _ | with_reducible refine Blk.drew ?_ | with_reducible refine Blk.alloc ?_ _)) hb (by have := br1.out.lt; first | omega | (simp; omega)))
    have bx2 := Lib.hid (show Blk w2 (w1.heap.size) 27 #[.int .i64 (X : Int), .int .i64 (Y : Int)] from Blk.below (by have hh := Blk.new w1 27 #[.int .i64 (X : Int), .int .i64 (Y : Int)]; (try simp only [World.size_alloc] at hh); repeat (first | exact hh | with_reducible refine Blk.drewN ?_ _ | with_reducible refine Blk.drew ?_ | with_reducible refine Blk.alloc ?_ _)) hb (by first | omega | (simp; done) | (simp; omega)))
    have HDt2 := Lib.hid (show Below w0.heap.size w0 w2 from bl_trans (by repeat (first | with_reducible exact HDt1.out | with_reducible refine Below.drew ?_ | with_reducible refine bl_drewN ?_ _ | with_reducible refine bl_alloc ?_ _)) hb)
    clear hb HB1 br1 cr HDt1
    obtain ⟨bb, o, hA, hbl, c0, c1, c2, c3, c4⟩ := (HTt.out.below HDt2.out).at_ k t HTK.out
    obtain ⟨lo, hi, du, ev, cr⟩ := t
    dsimp only at hc c0 c1 c2 c3 c4 d1 d2 hX 
    subst hc
    subst hA
    have hbk : bb < w2.heap.size := Nat.lt_of_lt_of_le hbl HDt2.out.size
    have hne : bb ≠ w0.heap.size := Nat.ne_of_lt hbl
    obtain ⟨hP, rfl⟩ := Prod.mk.inj hX
    have hdn : (P : Int) = du := by omega
    clear hX hP
    have cr := br2.out.cell
    have cx := bx2.out.cell
    have fR := br2.out.frozen
    have cR := br2.out.cell
    have cF := fun (s t : Value) => ((br2.out.set_ 0 s).set_ 1 t).cell
    go_wp2
    (try (go_quiet (fail); go_wp2))
    refine bodyPost_ret (v := .tuple #[.agg #[.int .i64 du, .int .i64 1], .bool true]) (by simp [results, Tryd.results30, go_sem, cF]) rfl ⟨by rw [hdn]; rfl, (by repeat (first | with_reducible exact HB2.out | refine bl_drewN ?_ _ | refine Below.drew ?_ | refine bl_alloc ?_ _ | refine bl_set ?_ (by dsimp only; omega) _))⟩
  · obtain ⟨M, P0, Q0, hM, m1, m2, m3, m4⟩ := hyes hc
    rw [m3] at hX
    obtain ⟨rfl, rfl⟩ := Prod.mk.inj hX
    have HM := Lib.hid (And.intro m1 m2)
    have kM : IntKind.i64.wrap (M : Int) = (M : Int) := IntWalk.i64_in _ (by omega)
    clear hno hyes hX m1 m2 m3
    go_enter Tryd.func30, Tryd.ntmps30
    go_wp2_with fail
    (try (go_quiet (fail); go_wp2_with fail))
    refine (sFac_is _ A n c ts ((HTt.out.below (by repeat (first | with_reducible exact HDt0.out | with_reducible refine Below.drew ?_ | with_reducible refine bl_drewN ?_ _ | with_reducible refine bl_alloc ?_ _) : Below w0.heap.size w0 _)).more (Below.size (by repeat (first | with_reducible exact HDt0.out | with_reducible refine Below.drew ?_ | with_reducible refine bl_drewN ?_ _ | with_reducible refine bl_alloc ?_ _) : Below w0.heap.size w0 _))) hn X Y true HF.out.1 HF.out.2).mono ?_
    rintro e w1 ⟨rfl, hb⟩
    have hs1 := hb.size
    have HB1 := Lib.hid (show Below w0.heap.size w0 w1 from bl_trans (by repeat (first | with_reducible exact HB0.out | with_reducible refine bl_drewN ?_ _ | with_reducible refine Below.drew ?_ | with_reducible refine bl_alloc ?_ _)) hb)
    have br1 := Lib.hid (show Blk w1 (w0.heap.size) 27 #[.int .i64 0, .int .i64 0] from Blk.below (by have hh := Blk.new w0 27 #[.int .i64 0, .int .i64 0]; (try simp only [World.size_alloc] at hh); repeat (first | exact hh | with_reducible refine Blk.drewN ?_ _ | with_reducible refine Blk.drew ?_ | with_reducible refine Blk.alloc ?_ _)) hb (by first | omega | (simp; done) | (simp; omega)))
    have HDt1 := Lib.hid (show Below w0.heap.size w0 w1 from bl_trans (by repeat (first | with_reducible exact HDt0.out | with_reducible refine Below.drew ?_ | with_reducible refine bl_drewN ?_ _ | with_reducible refine bl_alloc ?_ _)) hb)
    clear hb HB0 HDt0
    have cr := fun o0 => (br1.out.alloc o0).cell
    go_wp2_with fail
    (try (go_quiet (fail); go_wp2_with fail))
    refine (sAt5_is _ A n c ts (k : Int) ((HTt.out.below (by repeat (first | with_reducible exact HDt1.out | with_reducible refine Below.drew ?_ | with_reducible refine bl_drewN ?_ _ | with_reducible refine bl_alloc ?_ _) : Below w0.heap.size w0 _)).more (Below.size (by repeat (first | with_reducible exact HDt1.out | with_reducible refine Below.drew ?_ | with_reducible refine bl_drewN ?_ _ | with_reducible refine bl_alloc ?_ _) : Below w0.heap.size w0 _))) hn true HAT.out).mono ?_
    rintro e w2 ⟨rfl, hb⟩
    have hs2 := hb.size
    have HB2 := Lib.hid (show Below w0.heap.size w0 w2 from bl_trans (by repeat (first | with_reducible exact HB1.out | with_reducible refine bl_drewN ?_ _ | with_reducible refine Below.drew ?_ | with_reducible refine bl_alloc ?_ _)) hb)
    have br2 := Lib.hid (show Blk w2 (w0.heap.size) 27 #[.int .i64 0, .int .i64 0] from Blk.below (by repeat (first | with_reducible exact br1.out | with_reducible refine Blk.drewN ?_ _ | with_reducible refine Blk.drew ?_ | with_reducible refine Blk.alloc ?_ _)) hb (by have := br1.out.lt; first | omega | (simp; omega)))
    have bx2 := Lib.hid (show Blk w2 (w1.heap.size) 27 #[.int .i64 (X : Int), .int .i64 (Y : Int)] from Blk.below (by have hh := Blk.new w1 27 #[.int .i64 (X : Int), .int .i64 (Y : Int)]; (try simp only [World.size_alloc] at hh); repeat (first | exact hh | with_reducible refine Blk.drewN ?_ _ | with_reducible refine Blk.drew ?_ | with_reducible refine Blk.alloc ?_ _)) hb (by first | omega | (simp; done) | (simp; omega)))
    have HDt2 := Lib.hid (show Below w0.heap.size w0 w2 from bl_trans (by repeat (first | with_reducible exact HDt1.out | with_reducible refine Below.drew ?_ | with_reducible refine bl_drewN ?_ _ | with_reducible refine bl_alloc ?_ _)) hb)
    clear hb HB1 br1 cr HDt1
    obtain ⟨bb, o, hA, hbl, c0, c1, c2, c3, c4⟩ := (HTt.out.below HDt2.out).at_ k t HTK.out
    obtain ⟨lo, hi, du, ev, cr⟩ := t
    dsimp only at hc c0 c1 c2 c3 c4 d1 d2 hM
    subst hc
    subst hA
    have hbk : bb < w2.heap.size := Nat.lt_of_lt_of_le hbl HDt2.out.size
    have hne : bb ≠ w0.heap.size := Nat.ne_of_lt hbl
    have cr := br2.out.cell
    have cx := bx2.out.cell
    go_wp2
    go_region_with (have uu := HB2; clear uu; go_at_call 49; refine (sMake_is _ M Y P0 Q0 true HM.out.1 HM.out.2).mono ?_; rintro e w3 ⟨rfl, hb⟩; have HB3 := Lib.hid (show Below w0.heap.size w0 w3 from bl_trans (by repeat (first | with_reducible exact HB2.out | with_reducible refine bl_drewN ?_ _ | with_reducible refine Below.drew ?_)) hb); have br3 := Lib.hid (show Blk w3 (w0.heap.size) 27 #[.int .i64 0, .int .i64 0] from Blk.below (by repeat (first | with_reducible exact br2.out | with_reducible refine Blk.drewN ?_ _ | with_reducible refine Blk.drew ?_)) hb (by have := br2.out.lt; first | exact this | (simp; omega))); have fR := br3.out.frozen; have cR := br3.out.cell; have cF := fun (s t : Value) => ((br3.out.set_ 0 s).set_ 1 t).cell; clear hb HB2)
    all_goals go_wp2
    all_goals refine bodyPost_ret (v := .tuple #[.agg #[.int .i64 (P0 : Int), .int .i64 (Q0 : Int)], .bool true]) (by simp [results, Tryd.results30, go_sem, cF]) rfl ⟨rfl, (by repeat (first | with_reducible exact HB3.out | refine bl_drewN ?_ _ | refine Below.drew ?_ | refine bl_alloc ?_ _ | refine bl_set ?_ (by dsimp only; omega) _))⟩
end

section
/- Draws of the arguments of chapter 5's functions. -/
open Go.RowKit

theorem set_due (ts : List Tk) : ∀ (k : Nat) (t : Tk) (z : Int), ts[k]? = some t →
    (ts.flatMap Tk.cells).set (k * 5 + 2) (.int .i64 z) = (ts.set k { t with du := z }).flatMap Tk.cells := by
  induction ts with
  | nil => intro k t z h; simp at h
  | cons a ts ih =>
    intro k t z h
    cases k with
    | zero =>
      simp at h
      subst h
      simp [List.flatMap_cons, Tk.cells]
    | succ k =>
      have e0 : (k + 1) * 5 + 2 = k * 5 + 2 + 5 := by omega
      simp only [List.flatMap_cons, Tk.cells, List.set_cons_succ, e0, List.cons_append, List.nil_append]
      rw [← ih k t z (by simpa using h)]
theorem Own.due {w : World} {B h n c : Nat} {ts : List Tk} (ho : Own w B (.slice (some ⟨h, 0, none⟩) n c) ts) (k : Nat) (t : Tk) (z : Int) (ht : ts[k]? = some t) :
    Own (w.setCell ⟨h, k * 5 + 2, none⟩ (.int .i64 z)) B (.slice (some ⟨h, 0, none⟩) n c) (ts.set k { t with du := z }) := by
  have hn := ho.reads.1
  subst hn
  have h5 := (World.ownsRow.stored ho (k * 5 + 2) (.int .i64 z)).1
  unfold Own
  rw [List.length_set, ← set_due ts k t z ht]
  exact h5

set_option maxRecDepth 100000 in
set_option maxHeartbeats 2000000 in
theorem l5Set_any (w : World) (B g : Nat) (A : Option Addr) (n c : Nat) (f : Nat → Int) (p : Nat) (hr : Rd w B g A n c f p) (hp : p ≤ 1000) :
    Calls Tryd.prog 42 #[.pointer (some ⟨g, 0, none⟩)] w (LsOut B g A n c f p 101 6 (fun _ => True) w) := by
  have HR0 := Lib.hid hr
  have hgl := hr.lt
  have hBg := hr.ge
  clear hr
  go_enter Tryd.func42, Tryd.ntmps42
  go_wp2_with fail
  refine (some_any _ _ _ _ _ _ _ _ HR0.out hp).mono ?_
  rintro e w2 ⟨v, ts, p', rfl, hl, _, hp', hr, hgb, ho⟩
  obtain ⟨A2, c2, rfl⟩ := ho.form
  have HR := Lib.hid hr
  have HG := Lib.hid hgb
  have HO := Lib.hid ho
  clear hr hgb ho
  go_wp2_with fail
  refine (pick_any _ B g A n c f p' 5 HR.out (by omega) (by omega)).mono ?_
  rintro e w3 ⟨y, rfl, y0, _, _, hr, hgb⟩
  have HR3 := Lib.hid hr
  have HG3 := Lib.hid (gb_trans HG.out hgb (fun x e => .inl (by injection e with e; exact e.symm)))
  have HO3 := Lib.hid (HO.out.kept hgb (fun k e => by injection e with e; omega))
  clear hr hgb HR HG HO
  by_cases hy : 0 < y
  · have hyd : decide (y > 0) = true := by simp; exact hy
    rcases HO3.out.2 with ⟨e, h0⟩ | ⟨gg, cap, cur, e, hgg, _⟩
    · injection e with e1 e2 e3
      subst e1 e3
      have h0i : (ts.length : Int) = 0 := by omega
      have HO0 := Lib.hid (show Own w3 w.heap.size (.slice none 0 0) ts by have h := HO3.out; rw [h0] at h; exact h)
      go_wp2
      go_loopw [4] (fun i wr => i = .int .i64 0 ∧ wr = w3) (fun i _ => 0)
      case atStart => exact ⟨rfl, rfl⟩
      case round =>
        obtain ⟨rfl, rfl⟩ := hrel
        go_wp2
        go_ret
        exact ⟨_, ts, p' + 1, rfl, hl, fun _ _ => trivial, by omega, HR3.out, HG3.out, HO0.out⟩
    · injection e with e1 e2 e3
      subst e1 e3
      go_wp2
      go_loopw [4] (fun i wr => ∃ (j : Nat) (us : List Tk), j ≤ ts.length ∧ i = .int .i64 j ∧ us.length = ts.length ∧ Own wr w.heap.size (.slice (some ⟨gg, 0, none⟩) ts.length c2) us ∧ Rd wr B g A n c f (p' + 1) ∧ w.grownBy wr (some g)) (fun i _ => ts.length - (intOf i).toNat)
      case atStart => exact ⟨0, ts, Nat.zero_le _, rfl, rfl, HO3.out, HR3.out, HG3.out⟩
      case round =>
        obtain ⟨j, us, hj, rfl, hus, ho, hr, hg⟩ := hrel
        have HOR := Lib.hid ho
        have HRR := Lib.hid hr
        have HGR := Lib.hid hg
        have HUS := Lib.hid hus
        clear ho hr hg hus
        by_cases hlt : j < ts.length
        · obtain ⟨t, ht⟩ : ∃ t, us[j]? = some t := ⟨us[j]'(by rw [HUS.out]; exact hlt), List.getElem?_eq_getElem _⟩
          obtain ⟨b, o, eA, hbl, c0, c1, c2', c3, c4⟩ := HOR.out.reads.2.at_ j t ht
          injection eA with eA
          injection eA with eA1 eA2
          subst eA1 eA2
          simp only [Nat.zero_add] at c0 c1 c2' c3 c4
          have hfz := HOR.out.frozen
          have HX := Lib.hid (HOR.out.due j t t.ev ht)
          have HXR := Lib.hid (HRR.out.set (q := ⟨gg, j * 5 + 2, none⟩) (by dsimp only; omega) (by dsimp only; omega) (.int .i64 t.ev))
          have HXG := Lib.hid (gb_set HGR.out (p := ⟨gg, j * 5 + 2, none⟩) (.inr hgg) (.int .i64 t.ev))
          have HL := Lib.hid (show (us.set j { t with du := t.ev }).length = ts.length by rw [List.length_set]; exact HUS.out)
          have hji : (j : Int) < (ts.length : Int) := by omega
          have hj0 : (0 : Int) ≤ (j : Int) := by omega
          clear ht HOR HRR HGR
          go_wp2
          go_roundw
          case rel => exact ⟨j + 1, _, by omega, by go_num, HL.out, HX.out, HXR.out, HXG.out⟩
          case measure => simp [intOf]; omega
        · obtain rfl : j = ts.length := by omega
          go_wp2
          go_ret
          exact ⟨_, us, p' + 1, rfl, by rw [HUS.out]; exact hl, fun _ _ => trivial, by omega, HRR.out, HGR.out, HOR.out⟩
  · have hyd : decide (y > 0) = false := by simp; omega
    go_wp2
    go_ret
    exact ⟨_, ts, p' + 1, rfl, hl, fun _ _ => trivial, by omega, HR3.out, HG3.out, HO3.out⟩

theorem drewL5 {w w1 w2 : World} {v : Value} {ts : List Tk} (h1 : Below w.heap.size w w1) (h2 : w1.grownBy w2 (some w.heap.size)) (ho : Own w2 w1.heap.size v ts) (hl : ts.length ≤ 6) : DrewL1 6 w (.returned v) w2 := by
  obtain ⟨A, c, rfl⟩ := ho.form
  exact ⟨A, c, ts, rfl, hl, own_more ho h1.size, below_of_gb h1 h2 h1.size (Nat.le_refl _)⟩

set_option maxRecDepth 100000 in
theorem dDrawImplicit_any (w : World) (A : Option Addr) (n c : Nat) (f : Nat → Int) (h : Code w w.heap.size A n c f) :
    Calls Tryd.prog 39 #[.slice A n c] w (DrewL1 6 w) := by
  have H := Lib.hid h
  clear h
  go_enter Tryd.func39, Tryd.ntmps39
  go_wp2_with fail
  refine (open_any _ A n c f H.out).mono ?_
  rintro e w1 ⟨rfl, m, hr, hb⟩
  have HR := Lib.hid hr
  have HB := Lib.hid hb
  clear hr hb
  go_wp2_with fail
  refine (l5Set_any _ _ _ _ _ _ _ _ HR.out (by omega)).mono ?_
  rintro e w2 ⟨v, ts, p, rfl, hl, hg, hp, hr, hgb, ho⟩
  have HX : Hid (DrewL1 6 w (.returned v) w2) := drewL5 HB.out hgb ho hl
  clear hr hgb ho hg
  go_wp2_with fail
  go_ret
  exact HX.out

set_option maxRecDepth 100000 in
theorem dDrawFactorOf_any (w : World) (A : Option Addr) (n c : Nat) (f : Nat → Int) (h : Code w w.heap.size A n c f) :
    Calls Tryd.prog 22 #[.slice A n c] w (DrewL1 6 w) := by
  have H := Lib.hid h
  clear h
  go_enter Tryd.func22, Tryd.ntmps22
  go_wp2_with fail
  refine (open_any _ A n c f H.out).mono ?_
  rintro e w1 ⟨rfl, m, hr, hb⟩
  have HR := Lib.hid hr
  have HB := Lib.hid hb
  clear hr hb
  go_wp2_with fail
  refine (l5Set_any _ _ _ _ _ _ _ _ HR.out (by omega)).mono ?_
  rintro e w2 ⟨v, ts, p, rfl, hl, hg, hp, hr, hgb, ho⟩
  have HX : Hid (DrewL1 6 w (.returned v) w2) := drewL5 HB.out hgb ho hl
  clear hr hgb ho hg
  go_wp2_with fail
  go_ret
  exact HX.out

set_option maxRecDepth 100000 in
theorem dDrawHoldsVirtual_any (w : World) (A : Option Addr) (n c : Nat) (f : Nat → Int) (h : Code w w.heap.size A n c f) :
    Calls Tryd.prog 15 #[.slice A n c] w (DrewL1 6 w) := by
  have H := Lib.hid h
  clear h
  go_enter Tryd.func15, Tryd.ntmps15
  go_wp2_with fail
  refine (open_any _ A n c f H.out).mono ?_
  rintro e w1 ⟨rfl, m, hr, hb⟩
  have HR := Lib.hid hr
  have HB := Lib.hid hb
  clear hr hb
  go_wp2_with fail
  refine (l5Set_any _ _ _ _ _ _ _ _ HR.out (by omega)).mono ?_
  rintro e w2 ⟨v, ts, p, rfl, hl, hg, hp, hr, hgb, ho⟩
  have HX : Hid (DrewL1 6 w (.returned v) w2) := drewL5 HB.out hgb ho hl
  clear hr hgb ho hg
  go_wp2_with fail
  go_ret
  exact HX.out

set_option maxRecDepth 100000 in
theorem dDrawHoldsPlain_any (w : World) (A : Option Addr) (n c : Nat) (f : Nat → Int) (h : Code w w.heap.size A n c f) :
    Calls Tryd.prog 32 #[.slice A n c] w (DrewL1 6 w) := by
  have H := Lib.hid h
  clear h
  go_enter Tryd.func32, Tryd.ntmps32
  go_wp2_with fail
  refine (open_any _ A n c f H.out).mono ?_
  rintro e w1 ⟨rfl, m, hr, hb⟩
  have HR := Lib.hid hr
  have HB := Lib.hid hb
  clear hr hb
  go_wp2_with fail
  refine (l5Set_any _ _ _ _ _ _ _ _ HR.out (by omega)).mono ?_
  rintro e w2 ⟨v, ts, p, rfl, hl, hg, hp, hr, hgb, ho⟩
  have HX : Hid (DrewL1 6 w (.returned v) w2) := drewL5 HB.out hgb ho hl
  clear hr hgb ho hg
  go_wp2_with fail
  go_ret
  exact HX.out

set_option maxRecDepth 100000 in
theorem dDrawLoadOf_any (w : World) (A : Option Addr) (n c : Nat) (f : Nat → Int) (h : Code w w.heap.size A n c f) :
    Calls Tryd.prog 35 #[.slice A n c] w (DrewL1 6 w) := by
  have H := Lib.hid h
  clear h
  go_enter Tryd.func35, Tryd.ntmps35
  go_wp2_with fail
  refine (open_any _ A n c f H.out).mono ?_
  rintro e w1 ⟨rfl, m, hr, hb⟩
  have HR := Lib.hid hr
  have HB := Lib.hid hb
  clear hr hb
  go_wp2_with fail
  refine (l5Set_any _ _ _ _ _ _ _ _ HR.out (by omega)).mono ?_
  rintro e w2 ⟨v, ts, p, rfl, hl, hg, hp, hr, hgb, ho⟩
  have HX : Hid (DrewL1 6 w (.returned v) w2) := drewL5 HB.out hgb ho hl
  clear hr hgb ho hg
  go_wp2_with fail
  go_ret
  exact HX.out

set_option maxRecDepth 100000 in
set_option maxHeartbeats 1000000 in
theorem dDrawVirtualDue_any (w : World) (A : Option Addr) (n c : Nat) (f : Nat → Int) (h : Code w w.heap.size A n c f) :
    Calls Tryd.prog 28 #[.slice A n c] w (DrewLI 6 w) := by
  have H := Lib.hid h
  clear h
  go_enter Tryd.func28, Tryd.ntmps28
  go_wp2_with fail
  refine (open_any _ A n c f H.out).mono ?_
  rintro e w1 ⟨rfl, m, hr, hb⟩
  have hgl := hr.lt
  have HR := Lib.hid hr
  have HB := Lib.hid hb
  clear hr hb
  go_wp2_with fail
  refine (l5Set_any _ _ _ _ _ _ _ _ HR.out (by omega)).mono ?_
  rintro e w2 ⟨v, ts, p, rfl, hl, hg, hp, hr, hgb, ho⟩
  obtain ⟨A2, c2, rfl⟩ := ho.form
  have hlt2 := hr.lt
  have HR2 := Lib.hid hr
  have HB2 := Lib.hid (below_of_gb HB.out hgb HB.out.size (Nat.le_refl _))
  have HO2 := Lib.hid ho
  clear hr hgb ho hg
  go_wp2_with fail
  refine (num_any _ _ _ _ _ _ _ p _ 5 (-1) 5 (HR2.out.alloc _) (by omega) (by omega) (by omega) (by omega) ?_).mono ?_
  · exact lit_cells_at _ _ _ _ _ _ (by simp) (fun i hi => by rcases (by omega : i = 0 ∨ i = 1 ∨ i = 2 ∨ i = 3 ∨ i = 4) with rfl | rfl | rfl | rfl | rfl <;> exact ⟨_, rfl, by decide, by decide⟩)
  rintro e w3 ⟨z, rfl, z0, z1, hr3, hg3⟩
  have hgw3 : w2.grownBy w3 (some w.heap.size) := gb_trans (gb_alloc (World.grownBy.refl w2 _) _) hg3 (fun x e => .inl (by injection e with e; exact e.symm))
  have HB3 := Lib.hid (below_of_gb HB2.out hgw3 HB2.out.size (Nat.le_refl _))
  have HO3 := Lib.hid (HO2.out.kept hgw3 (fun k e => by injection e with e; omega))
  have HX : Hid (DrewLI 6 w (.returned (.tuple #[.slice A2 ts.length c2, .int .i64 z])) w3) := ⟨A2, c2, ts, z, rfl, hl, z0, z1, own_more HO3.out HB.out.size, HB3.out⟩
  clear hr3 hg3 hgw3 z0 z1 HB3 HO3
  go_wp2_with fail
  go_ret2
  exact HX.out
end

section
/- A task of a list at a plain address. -/
open Go.RowKit
theorem Tks.get5 {w : World} {B b o n : Nat} {ts : List Tk} (h : Tks w B (some ⟨b, o, none⟩) n ts) {i : Nat} {t : Tk} (ht : ts[i]? = some t) : b < B ∧ TkAt w b (o + i * 5) t := by
  obtain ⟨b', o', e, hb, hc⟩ := h.at_ i t ht
  injection e with e
  injection e with e1 e2
  subst e1 e2
  exact ⟨hb, hc⟩
end

end Go.Proofs.YtpngfonnoepmfaaDoor
