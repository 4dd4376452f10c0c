/- Texts of this seat in one file: Low, SLow, SHigh. -/
import Derived.Test.YthaflbgkhlggkaaDoorM2
import Derived.Test.YthaflbgkhlggkaaDoorM1
import Derived.RegionTactic
import Derived.ChangeAlike
import Derived.Deep.QuietTactic
import Derived.BigQuiet
import Derived.Deep.RegionWith
namespace Go.Proofs.YthaflbgkhlggkaaDoor

section
/- Contracts of LowShare and HighShare, in the program and in the reference: both return the sum of the shares of the tasks. Nothing that was there is written. -/
open Go.RowKit
set_option linter.unusedVariables false

def ShRes (p q : Nat) (w : World) (e : Ending) (w' : World) : Prop := e = .returned (.agg #[.int .i64 (p : Int), .int .i64 (q : Int)]) ∧ Below w.heap.size w w'

set_option maxHeartbeats 1000000 in
theorem plus2_is (w : World) (e0 : Addr) (he : EG w e0) (u v x y p q : Nat) (hp : plusS u v x y = (p, q)) (hpb : plusB u v x y = true) :
    Calls Tryd.prog 67 #[.agg #[.int .i64 (u : Int), .int .i64 (v : Int)], .agg #[.int .i64 (x : Int), .int .i64 (y : Int)]] w (ShRes p q w) := by
  have HE := Lib.hid he
  have HP := Lib.hid (And.intro hp hpb)
  clear hp hpb he
  go_enter Tryd.func67, Tryd.ntmps67
  go_wp2_with fail
  (try (go_quiet (fail); go_wp2_with fail))
  refine (iAdd_is _ e0 (by repeat (first | exact HE.out | refine EG.drewN ?_ _ | refine EG.drew ?_ | refine EG.alloc ?_ _)) u v x y p q true HP.out.1 HP.out.2).mono ?_
  rintro e w2 ⟨rfl, hb⟩
  have HB2 := Lib.hid (show Below w.heap.size w w2 from bl_trans (by repeat (first | exact Below.refl w.heap.size w | refine bl_drewN ?_ _ | refine Below.drew ?_ | refine bl_alloc ?_ _)) hb)
  have bR2 := Lib.hid (show Blk w2 (w.heap.size + 1 + 1) 27 #[.int .i64 0, .int .i64 0] from Blk.below (by have h := Blk.new ((w.alloc (.cells #[.int .i64 (u : Int), .int .i64 (v : Int)] 27)).alloc (.cells #[.int .i64 (x : Int), .int .i64 (y : Int)] 27)) 27 #[.int .i64 0, .int .i64 0]; simp only [World.size_alloc] at h; repeat (first | with_reducible exact h | refine Blk.drewN ?_ _ | refine Blk.drew ?_)) hb (by simp))
  clear hb
  have cR0 := bR2.out.cell
  have fR0 := bR2.out.frozen
  have cR := fun o => (bR2.out.alloc o).cell
  have fR := fun o => (bR2.out.alloc o).frozen
  have cF := fun (s t : Value) o => (((bR2.out.alloc o).set_ 0 s).set_ 1 t).cell
  go_wp2
  (try go_region)
  all_goals (try go_wp2)
  all_goals refine bodyPost_ret (v := .agg #[.int .i64 (p : Int), .int .i64 (q : Int)]) (by simp [results, Tryd.results67, go_sem, cF]) rfl ⟨rfl, (by repeat (first | with_reducible exact HB2.out | refine bl_drewN ?_ _ | refine Below.drew ?_ | refine bl_alloc ?_ _ | refine bl_set ?_ (by dsimp only; omega) _))⟩

set_option maxHeartbeats 1000000 in
theorem plus_is (w : World) (e0 : Addr) (he : EG w e0) (u v : Nat) (lo hi du ev : Int) (cr : Bool) (x y p q : Nat) (hm : mkS lo ev = (x, y)) (hb : mkB lo ev = true) (hp : plusS u v x y = (p, q)) (hpb : plusB u v x y = true) :
    Calls Tryd.prog 41 #[.agg #[.int .i64 (u : Int), .int .i64 (v : Int)], .agg #[.int .i64 lo, .int .i64 hi, .int .i64 du, .int .i64 ev, .bool cr]] w (ShRes p q w) := by
  have HE := Lib.hid he
  have HM := Lib.hid (And.intro hm hb)
  have HP := Lib.hid (And.intro hp hpb)
  clear hm hb hp hpb he
  go_enter Tryd.func41, Tryd.ntmps41
  go_wp2_with fail
  (try (go_quiet (fail); go_wp2_with fail))
  refine (iMake_is _ lo ev x y true HM.out.1 HM.out.2).mono ?_
  rintro e w1 ⟨rfl, hb⟩
  have HB1 := Lib.hid (show Below w.heap.size w w1 from bl_trans (by repeat (first | exact Below.refl w.heap.size w | refine bl_drewN ?_ _ | refine Below.drew ?_ | refine bl_alloc ?_ _)) hb)
  have bS1 := Lib.hid (show Blk w1 w.heap.size 27 #[.int .i64 (u : Int), .int .i64 (v : Int)] from Blk.below (by repeat (first | with_reducible exact Blk.new w 27 #[.int .i64 (u : Int), .int .i64 (v : Int)] | refine Blk.drewN ?_ _ | refine Blk.drew ?_ | refine Blk.alloc ?_ _)) hb (by simp; omega))
  have bR1 := Lib.hid (show Blk w1 (w.heap.size + 1 + 1) 27 #[.int .i64 0, .int .i64 0] from Blk.below (by have h := Blk.new ((w.alloc (.cells #[.int .i64 (u : Int), .int .i64 (v : Int)] 27)).alloc (.cells #[.int .i64 lo, .int .i64 hi, .int .i64 du, .int .i64 ev, .bool cr] 40)) 27 #[.int .i64 0, .int .i64 0]; simp only [World.size_alloc] at h; repeat (first | with_reducible exact h | refine Blk.drewN ?_ _ | refine Blk.drew ?_)) hb (by simp))
  clear hb
  have cS0 := bS1.out.cell
  have cS := fun o => (bS1.out.alloc o).cell
  go_wp2_with fail
  (try (go_quiet (fail); go_wp2_with fail))
  refine (plus2_is _ e0 (by repeat (first | exact HE.out.below HB1.out | refine EG.drewN ?_ _ | refine EG.drew ?_ | refine EG.alloc ?_ _)) u v x y p q HP.out.1 HP.out.2).mono ?_
  rintro e w2 ⟨rfl, hb⟩
  have HB2 := Lib.hid (show Below w.heap.size w w2 from bl_trans (by repeat (first | with_reducible exact HB1.out | refine bl_drewN ?_ _ | refine Below.drew ?_ | refine bl_alloc ?_ _)) hb)
  have bR2 := Lib.hid (show Blk w2 (w.heap.size + 1 + 1) 27 #[.int .i64 0, .int .i64 0] from Blk.below (by repeat (first | with_reducible exact bR1.out | refine Blk.drewN ?_ _ | refine Blk.drew ?_ | refine Blk.alloc ?_ _)) hb (by have := bR1.out.lt; first | exact this | (simp; omega)))
  clear hb cS0 cS bS1 bR1 HB1
  have cR0 := bR2.out.cell
  have fR0 := bR2.out.frozen
  have cF := fun (s t : Value) => ((bR2.out.set_ 0 s).set_ 1 t).cell
  go_wp2
  (try go_region)
  all_goals (try go_wp2)
  all_goals refine bodyPost_ret (v := .agg #[.int .i64 (p : Int), .int .i64 (q : Int)]) (by simp [results, Tryd.results41, go_sem, cF]) rfl ⟨rfl, (by repeat (first | with_reducible exact HB2.out | refine bl_drewN ?_ _ | refine Below.drew ?_ | refine bl_alloc ?_ _ | refine bl_set ?_ (by dsimp only; omega) _))⟩

set_option maxHeartbeats 1000000 in
theorem iLow_is (w : World) (A : Option Addr) (n c : Nat) (ts : List Tk) (cr : Bool) (h : Tks w w.heap.size A n ts) (hn : n ≤ 1048576) (e0 : Addr) (he : EG w e0) (p q : Nat) (hpq : lowOf ts cr = (p, q)) :
    Calls Tryd.prog 15 #[.slice A n c, .bool cr] w (ShRes p q w) := by
  have H := Lib.hid h
  have HL := Lib.hid h.len
  have HE := Lib.hid he
  clear h he
  cases hs : setB ts
  · obtain ⟨rfl, rfl⟩ := Prod.mk.inj ((lowOf_bad cr hs).symm.trans hpq)
    clear hpq
    go_enter Tryd.func15, Tryd.ntmps15
    go_wp2_with fail
    refine (iSetValid_any _ A n c ts ((H.out.below (by repeat (first | exact Below.refl w.heap.size w | refine bl_alloc ?_ _))).more (by simp)) hn).mono ?_
    rintro e w1 ⟨rfl, hb⟩
    have HB1 := Lib.hid (show Below w.heap.size w w1 from bl_trans (by repeat (first | exact Below.refl w.heap.size w | refine bl_alloc ?_ _)) hb)
    have bR1 := Lib.hid (Blk.below (Blk.new w 27 #[.int .i64 0, .int .i64 0]) hb (by simp))
    have cR := bR1.out.cell
    have fR := bR1.out.frozen
    clear hb
    go_wp2
    refine bodyPost_ret (v := .agg #[.int .i64 0, .int .i64 0]) (by simp [results, Tryd.results15, go_sem, cR]) rfl ⟨rfl, (by repeat (first | with_reducible exact HB1.out | refine bl_drewN ?_ _ | refine Below.drew ?_ | refine bl_alloc ?_ _ | refine bl_set ?_ (by dsimp only; omega) _))⟩
  have h5 : n ≤ 5 := by have := setB_len hs; rw [HL.out] at this; exact this
  have HS := Lib.hid hs
  have hpq' : lowL ts cr = (p, q) := by rw [← hpq]; unfold lowOf; rw [hs]; rfl
  have HPQ := Lib.hid hpq'
  clear hpq hpq' hs
  go_enter Tryd.func15, Tryd.ntmps15
  go_wp2_with fail
  refine (iSetValid_any _ A n c ts ((H.out.below (by repeat (first | exact Below.refl w.heap.size w | refine bl_alloc ?_ _))).more (by simp)) hn).mono ?_
  rintro e w1 ⟨rfl, hb⟩
  rw [HS.out]
  have HB1 := Lib.hid (show Below w.heap.size w w1 from bl_trans (by repeat (first | exact Below.refl w.heap.size w | refine bl_alloc ?_ _)) hb)
  have bR1 := Lib.hid (Blk.below (Blk.new w 27 #[.int .i64 0, .int .i64 0]) hb (by simp))
  have hlt1 := bR1.out.lt
  clear hb
  go_wp2
  go_loopw [15] (fun i wr => ∃ k u v : Nat, k ≤ n ∧ i = .int .i64 k ∧ Hid (lowL (ts.take k) cr = (u, v)) ∧ Hid (Blk wr w1.heap.size 27 #[.int .i64 (u : Int), .int .i64 (v : Int)]) ∧ Hid (Blk wr w.heap.size 27 #[.int .i64 0, .int .i64 0]) ∧ Hid (Below w.heap.size w wr)) (fun i _ => n - (intOf i).toNat)
  case atStart => exact ⟨0, 0, 1, Nat.zero_le _, rfl, by show _ = _; rfl, Blk.new w1 27 _, bR1.out.alloc _, bl_alloc HB1.out _⟩
  case round =>
    obtain ⟨k, u, v, hk, rfl, huv, bU, bR, HB⟩ := hrel
    have hltU := bU.out.lt
    by_cases hlt : k < n
    · obtain ⟨t, ht⟩ : ∃ t, ts[k]? = some t := ⟨ts[k]'(by rw [HL.out]; exact hlt), List.getElem?_eq_getElem _⟩
      obtain ⟨b, o, rfl, hbl, c0, c1, c2, c3, c4⟩ := (H.out.below HB.out).at_ k t ht
      by_cases hc : t.cr = cr
      · obtain ⟨x, y, u', v', g1, g2, g3, g4, g5, _, _⟩ := low_step HS.out ht hc huv.out
        have HG := Lib.hid (And.intro g1 (And.intro g2 (And.intro g4 g3)))
        have HT := Lib.hid g5
        clear ht g1 g2 g3 g4 g5
        obtain ⟨lo, hi, du, ev, cr'⟩ := t
        dsimp only at c0 c1 c2 c3 c4 hc HG
        subst hc
        have cU := fun o => (bU.out.alloc o).cell
        have hcb : (cr' == cr') = true := by simp
        go_wp2_with fail
        refine (plus_is _ e0 (by repeat (first | exact HE.out.below HB.out | refine EG.drewN ?_ _ | refine EG.drew ?_ | refine EG.alloc ?_ _)) u v lo hi du ev cr' x y u' v' HG.out.1 HG.out.2.1 HG.out.2.2.1 HG.out.2.2.2).mono ?_
        rintro e w2 ⟨rfl, hb⟩
        have HB2 := Lib.hid (show Below w.heap.size w w2 from bl_trans (by repeat (first | with_reducible exact HB.out | refine bl_drewN ?_ _ | refine Below.drew ?_ | refine bl_alloc ?_ _)) hb)
        have bU2 := Lib.hid (show Blk w2 w1.heap.size 27 #[.int .i64 (u : Int), .int .i64 (v : Int)] from Blk.below (by repeat (first | with_reducible exact bU.out | refine Blk.drewN ?_ _ | refine Blk.drew ?_ | refine Blk.alloc ?_ _)) hb (by have := bU.out.lt; first | exact this | (simp; omega)))
        have bR2 := Lib.hid (show Blk w2 w.heap.size 27 #[.int .i64 0, .int .i64 0] from Blk.below (by repeat (first | with_reducible exact bR.out | refine Blk.drewN ?_ _ | refine Blk.drew ?_ | refine Blk.alloc ?_ _)) hb (by have := bR.out.lt; first | exact this | (simp; omega)))
        clear hb cU
        have cU2 := bU2.out.cell
        have fU2 := bU2.out.frozen
        have hs2 := HB2.out.size
        go_wp2
        go_roundw
        case rel => exact ⟨k + 1, u', v', by omega, by go_num, HT, (bU2.out.set_ 0 (.int .i64 (u' : Int))).set_ 1 (.int .i64 (v' : Int)), (bR2.out.far (by dsimp only; omega) _).far (by dsimp only; omega) _, bl_set (bl_set HB2.out (by dsimp only; omega) _) (by dsimp only; omega) _⟩
        case measure => simp [intOf]; omega
      · have hno := (lowL_no ht hc).trans huv.out
        have HT := Lib.hid hno
        clear ht hno
        obtain ⟨lo, hi, du, ev, cr'⟩ := t
        dsimp only at c0 c1 c2 c3 c4 hc
        have hcb : (cr' == cr) = false := by simpa using hc
        go_wp2
        go_roundw
        case rel => exact ⟨k + 1, u, v, by omega, by go_num, HT, bU.out.alloc _, bR.out.alloc _, bl_alloc HB.out _⟩
        case measure => simp [intOf]; omega
    · obtain rfl : k = n := by omega
      have hpq : (u, v) = (p, q) := by rw [← huv.out, ← HPQ.out, List.take_of_length_le (by rw [HL.out]; omega)]
      obtain ⟨rfl, rfl⟩ := Prod.mk.inj hpq
      clear hpq
      have cU := bU.out.cell
      have cR := bR.out.cell
      have fR := bR.out.frozen
      have cF := fun (s t : Value) => ((bR.out.set_ 0 s).set_ 1 t).cell
      go_wp2
      refine bodyPost_ret (v := .agg #[.int .i64 (u : Int), .int .i64 (v : Int)]) (by simp [results, Tryd.results15, go_sem, cF]) rfl ⟨rfl, (by repeat (first | with_reducible exact HB.out | refine bl_drewN ?_ _ | refine Below.drew ?_ | refine bl_alloc ?_ _ | refine bl_set ?_ (by dsimp only; omega) _))⟩

set_option maxHeartbeats 1000000 in
theorem iHigh_is (w : World) (A : Option Addr) (n c : Nat) (ts : List Tk) (h : Tks w w.heap.size A n ts) (hn : n ≤ 1048576) (e0 : Addr) (he : EG w e0) (p q : Nat) (hpq : highOf ts = (p, q)) :
    Calls Tryd.prog 18 #[.slice A n c] w (ShRes p q w) := by
  have H := Lib.hid h
  have HL := Lib.hid h.len
  have HE := Lib.hid he
  clear h he
  cases hs : setB ts
  · obtain ⟨rfl, rfl⟩ := Prod.mk.inj ((highOf_bad hs).symm.trans hpq)
    clear hpq
    go_enter Tryd.func18, Tryd.ntmps18
    go_wp2_with fail
    refine (iSetValid_any _ A n c ts ((H.out.below (by repeat (first | exact Below.refl w.heap.size w | refine bl_alloc ?_ _))).more (by simp)) hn).mono ?_
    rintro e w1 ⟨rfl, hb⟩
    have HB1 := Lib.hid (show Below w.heap.size w w1 from bl_trans (by repeat (first | exact Below.refl w.heap.size w | refine bl_alloc ?_ _)) hb)
    have bR1 := Lib.hid (Blk.below (Blk.new w 27 #[.int .i64 0, .int .i64 0]) hb (by simp))
    have cR := bR1.out.cell
    have fR := bR1.out.frozen
    clear hb
    go_wp2
    refine bodyPost_ret (v := .agg #[.int .i64 0, .int .i64 0]) (by simp [results, Tryd.results18, go_sem, cR]) rfl ⟨rfl, (by repeat (first | with_reducible exact HB1.out | refine bl_drewN ?_ _ | refine Below.drew ?_ | refine bl_alloc ?_ _ | refine bl_set ?_ (by dsimp only; omega) _))⟩
  have h5 : n ≤ 5 := by have := setB_len hs; rw [HL.out] at this; exact this
  have HS := Lib.hid hs
  obtain ⟨us, hus⟩ : ∃ us, us = critOf ts := ⟨_, rfl⟩
  have hpq' : lowOf us true = (p, q) := by rw [← hpq]; exact highOf_low hs hus
  have hul : us.length ≤ 5 := by have := critOf_len ts; rw [← hus, HL.out] at this; omega
  have HPQ := Lib.hid hpq'
  have HU := Lib.hid hus
  clear hpq hpq' hs hus
  go_enter Tryd.func18, Tryd.ntmps18
  go_wp2_with fail
  refine (iSetValid_any _ A n c ts ((H.out.below (by repeat (first | exact Below.refl w.heap.size w | refine bl_alloc ?_ _))).more (by simp)) hn).mono ?_
  rintro e w1 ⟨rfl, hb⟩
  rw [HS.out]
  have HB1 := Lib.hid (show Below w.heap.size w w1 from bl_trans (by repeat (first | exact Below.refl w.heap.size w | refine bl_alloc ?_ _)) hb)
  have bR1 := Lib.hid (show Blk w1 w.heap.size 27 #[.int .i64 0, .int .i64 0] from Blk.below (Blk.new w 27 #[.int .i64 0, .int .i64 0]) hb (by simp))
  clear hb
  go_wp2_with fail
  refine (iCriticalOf_is w1 A n c ts us HU.out ((H.out.below HB1.out).more HB1.out.size) hn).mono ?_
  rintro e w2 ⟨A2, c2, rfl, ho, hb⟩
  have HB2 := Lib.hid (bl_trans HB1.out hb)
  have HO := Lib.hid ho.reads.2
  have bR2 := Lib.hid (bR1.out.below hb bR1.out.lt)
  clear hb ho
  go_wp2_with fail
  refine (iLow_is w2 A2 _ c2 us true HO.out (by omega) e0 (by repeat (first | exact HE.out.below HB2.out | refine EG.drewN ?_ _ | refine EG.drew ?_ | refine EG.alloc ?_ _)) p q HPQ.out).mono ?_
  rintro e w3 ⟨rfl, hb⟩
  have HB3 := Lib.hid (bl_trans HB2.out hb)
  have bR3 := Lib.hid (bR2.out.below hb bR2.out.lt)
  have cR := bR3.out.cell
  have fR := bR3.out.frozen
  have cF := fun (s t : Value) => ((bR3.out.set_ 0 s).set_ 1 t).cell
  clear hb
  go_wp2
  refine bodyPost_ret (v := .agg #[.int .i64 (p : Int), .int .i64 (q : Int)]) (by simp [results, Tryd.results18, go_sem, cF]) rfl ⟨rfl, (by repeat (first | with_reducible exact HB3.out | refine bl_drewN ?_ _ | refine Below.drew ?_ | refine bl_alloc ?_ _ | refine bl_set ?_ (by dsimp only; omega) _))⟩
end

section
/- Contracts of the reference's LowShare and HighShare. Nothing that was there is written. -/
open Go.RowKit
set_option linter.unusedVariables false

set_option maxHeartbeats 600000 in
theorem sLow_is (w : World) (A : Option Addr) (n c : Nat) (ts : List Tk) (cr : Bool) (h : Tks w w.heap.size A n ts) (hn : n ≤ 1048576) (p q : Nat) (hpq : lowOf ts cr = (p, q)) :
    Calls Tryd.prog 16 #[.slice A n c, .bool cr] w (ShRes p q w) := by
  have H := Lib.hid h
  have HL := Lib.hid h.len
  clear h
  cases hs : setB ts
  · obtain ⟨rfl, rfl⟩ := Prod.mk.inj ((lowOf_bad cr hs).symm.trans hpq)
    clear hpq
    go_enter Tryd.func16, Tryd.ntmps16
    go_wp2_with fail
    refine (sSetValid_any _ A n c ts ((H.out.below (by repeat (first | exact Below.refl w.heap.size w | with_reducible refine bl_alloc ?_ _))).more (by simp; omega)) hn).mono ?_
    rintro e w1 ⟨rfl, hb⟩
    have HB1 := Lib.hid (show Below w.heap.size w w1 from bl_trans (by repeat (first | exact Below.refl w.heap.size w | with_reducible refine bl_alloc ?_ _)) hb)
    have bR1 := Lib.hid (show Blk w1 w.heap.size 27 #[.int .i64 0, .int .i64 0] from Blk.below ((Blk.new w 27 #[.int .i64 0, .int .i64 0]).alloc _) hb (by simp; omega))
    have cR := bR1.out.cell
    have fR := bR1.out.frozen
    clear hb
    go_wp2
    refine bodyPost_ret (v := .agg #[.int .i64 0, .int .i64 0]) (by simp [results, Tryd.results16, go_sem, cR]) rfl ⟨rfl, (by repeat (first | with_reducible exact HB1.out | refine bl_drewN ?_ _ | refine Below.drew ?_ | refine bl_alloc ?_ _ | refine bl_set ?_ (by dsimp only; omega) _))⟩
  have h5 : n ≤ 5 := by have := setB_len hs; rw [HL.out] at this; exact this
  have HS := Lib.hid hs
  have hpq' : lowL ts cr = (p, q) := by rw [← hpq]; unfold lowOf; rw [hs]; rfl
  have HPQ := Lib.hid hpq'
  clear hpq hpq' hs
  go_enter Tryd.func16, Tryd.ntmps16
  go_wp2_with fail
  refine (sSetValid_any _ A n c ts ((H.out.below (by repeat (first | exact Below.refl w.heap.size w | with_reducible refine bl_alloc ?_ _))).more (by simp; omega)) hn).mono ?_
  rintro e w1 ⟨rfl, hb⟩
  rw [HS.out]
  have HB1 := Lib.hid (show Below w.heap.size w w1 from bl_trans (by repeat (first | exact Below.refl w.heap.size w | with_reducible refine bl_alloc ?_ _)) hb)
  have bR1 := Lib.hid (show Blk w1 w.heap.size 27 #[.int .i64 0, .int .i64 0] from Blk.below ((Blk.new w 27 #[.int .i64 0, .int .i64 0]).alloc _) hb (by simp; omega))
  have bU1 := Lib.hid (show Blk w1 (w.heap.size + 1) 27 #[.int .i64 0, .int .i64 1] from Blk.below (by have h := Blk.new (w.alloc (.cells #[.int .i64 0, .int .i64 0] 27)) 27 #[.int .i64 0, .int .i64 1]; simp only [World.size_alloc] at h; exact h) hb (by simp))
  clear hb
  go_wp2
  go_loopw [6] (fun i wr => ∃ k u v : Nat, k ≤ n ∧ i = .int .i64 k ∧ Hid (lowL (ts.take k) cr = (u, v)) ∧ Hid (Blk wr (w.heap.size + 1) 27 #[.int .i64 (u : Int), .int .i64 (v : Int)]) ∧ Hid (Blk wr w.heap.size 27 #[.int .i64 0, .int .i64 0]) ∧ Hid (Below w.heap.size w wr)) (fun i _ => n - (intOf i).toNat)
  case atStart => exact ⟨0, 0, 1, Nat.zero_le _, rfl, by show _ = _; rfl, bU1, bR1, HB1⟩
  case round =>
    obtain ⟨k, u, v, hk, rfl, huv, bU, bR, HB⟩ := hrel
    have hltU := bU.out.lt
    by_cases hlt : k < n
    · obtain ⟨t, ht⟩ : ∃ t, ts[k]? = some t := ⟨ts[k]'(by rw [HL.out]; exact hlt), List.getElem?_eq_getElem _⟩
      obtain ⟨b, o, rfl, hbl, c0, c1, c2, c3, c4⟩ := (H.out.below HB.out).at_ k t ht
      have i1 : (0 : Int) ≤ (k : Int) := by omega
      have i2 : (k : Int) < (n : Int) := by omega
      by_cases hc : t.cr = cr
      · obtain ⟨x, y, u', v', g1, g2, g3, g4, g5, hU, hX⟩ := low_step HS.out ht hc huv.out
        have HG := Lib.hid (And.intro g1 (And.intro g2 (And.intro g4 g3)))
        have HSh := Lib.hid (And.intro hU hX)
        have HT := Lib.hid g5
        clear ht g1 g2 g3 g4 g5 hU hX
        obtain ⟨lo, hi, du, ev, cr'⟩ := t
        dsimp only at c0 c1 c2 c3 c4 hc HG
        subst hc
        have hbl' := Nat.lt_of_lt_of_le hbl HB.out.size
        have d0 := fun oo => (World.cell?_alloc_lt wr oo ⟨b, o + k * 5, none⟩ hbl').trans c0
        have d3 := fun oo => (World.cell?_alloc_lt wr oo ⟨b, o + k * 5 + 3, none⟩ hbl').trans c3
        have hcb : (cr' == cr') = true := by simp
        go_wp2_with fail
        go_region_with (go_at_call 43; refine (sMake_is _ lo ev x y true HG.out.1 HG.out.2.1).mono ?_; rintro e w2 ⟨rfl, hb⟩; have f0 : w2.cell? ⟨b, o + k * 5, none⟩ = some (.int .i64 lo) := (hb.cell (p := ⟨b, o + k * 5, none⟩) (by first | exact hbl' | (simp; omega))).trans (by first | exact c0 | exact d0 _); have f3 : w2.cell? ⟨b, o + k * 5 + 3, none⟩ = some (.int .i64 ev) := (hb.cell (p := ⟨b, o + k * 5 + 3, none⟩) (by first | exact hbl' | (simp; omega))).trans (by first | exact c3 | exact d3 _); have hbl2 : b < w2.heap.size := Nat.lt_of_lt_of_le hbl' (by have := hb.size; first | exact this | (simp at this; omega)); have g0 := fun oo => (World.cell?_alloc_lt w2 oo ⟨b, o + k * 5, none⟩ hbl2).trans f0; have g3 := fun oo => (World.cell?_alloc_lt w2 oo ⟨b, o + k * 5 + 3, none⟩ hbl2).trans f3; have HB2 := Lib.hid (show Below w.heap.size w w2 from bl_trans (by repeat (first | with_reducible exact HB.out | with_reducible refine bl_drewN ?_ _ | with_reducible refine Below.drew ?_ | with_reducible refine bl_alloc ?_ _)) hb); have bU2 := Lib.hid (show Blk w2 (w.heap.size + 1) 27 #[.int .i64 (u : Int), .int .i64 (v : Int)] from Blk.below (by repeat (first | with_reducible exact bU.out | with_reducible refine Blk.drewN ?_ _ | with_reducible refine Blk.drew ?_ | with_reducible refine Blk.alloc ?_ _)) hb (by have := bU.out.lt; first | exact this | (simp; omega))); have bR2 := Lib.hid (show Blk w2 w.heap.size 27 #[.int .i64 0, .int .i64 0] from Blk.below (by repeat (first | with_reducible exact bR.out | with_reducible refine Blk.drewN ?_ _ | with_reducible refine Blk.drew ?_ | with_reducible refine Blk.alloc ?_ _)) hb (by have := bR.out.lt; first | exact this | (simp; omega))); first | (have bC := Lib.hid (show Blk w2 wr.heap.size 27 #[.int .i64 0, .int .i64 0] from Blk.below (Blk.drew (Blk.new wr 27 #[.int .i64 0, .int .i64 0])) hb (Blk.new wr 27 #[.int .i64 0, .int .i64 0]).lt); have cC := bC.out.cell; have fC := bC.out.frozen) | (have bC := Lib.hid (show Blk w2 wr.heap.size 27 #[.int .i64 0, .int .i64 0] from Blk.below (Blk.new wr 27 #[.int .i64 0, .int .i64 0]) hb (Blk.new wr 27 #[.int .i64 0, .int .i64 0]).lt); have cC := bC.out.cell; have fC := bC.out.frozen) | skip; clear hb)
        all_goals first
          | (have bSX := Lib.hid (show Blk ((w2.setCell ⟨wr.heap.size, 0, none⟩ (.int .i64 (x : Int))).setCell ⟨wr.heap.size, 1, none⟩ (.int .i64 (y : Int))) wr.heap.size 27 #[.int .i64 (x : Int), .int .i64 (y : Int)] from (bC.out.set_ 0 _).set_ 1 _)
             have hne1 : w.heap.size + 1 ≠ wr.heap.size := by omega
             have hne0 : w.heap.size ≠ wr.heap.size := by omega
             have bUX := Lib.hid (show Blk ((w2.setCell ⟨wr.heap.size, 0, none⟩ (.int .i64 (x : Int))).setCell ⟨wr.heap.size, 1, none⟩ (.int .i64 (y : Int))) (w.heap.size + 1) 27 #[.int .i64 (u : Int), .int .i64 (v : Int)] from (bU2.out.far hne1 _).far hne1 _)
             have bRX := Lib.hid (show Blk ((w2.setCell ⟨wr.heap.size, 0, none⟩ (.int .i64 (x : Int))).setCell ⟨wr.heap.size, 1, none⟩ (.int .i64 (y : Int))) w.heap.size 27 #[.int .i64 0, .int .i64 0] from (bR2.out.far hne0 _).far hne0 _)
             have HBX := Lib.hid (show Below w.heap.size w ((w2.setCell ⟨wr.heap.size, 0, none⟩ (.int .i64 (x : Int))).setCell ⟨wr.heap.size, 1, none⟩ (.int .i64 (y : Int))) from bl_set (bl_set HB2.out (by dsimp only; omega) _) (by dsimp only; omega) _)
             clear cC fC bC
             generalize ((w2.setCell ⟨wr.heap.size, 0, none⟩ (.int .i64 (x : Int))).setCell ⟨wr.heap.size, 1, none⟩ (.int .i64 (y : Int))) = X at *)
          | (have bSX := Lib.hid (show Blk (w2.alloc (.cells #[.int .i64 (x : Int), .int .i64 (y : Int)] 27)) w2.heap.size 27 #[.int .i64 (x : Int), .int .i64 (y : Int)] from Blk.new w2 27 _)
             have bUX := Lib.hid (show Blk (w2.alloc (.cells #[.int .i64 (x : Int), .int .i64 (y : Int)] 27)) (w.heap.size + 1) 27 #[.int .i64 (u : Int), .int .i64 (v : Int)] from bU2.out.alloc _)
             have bRX := Lib.hid (show Blk (w2.alloc (.cells #[.int .i64 (x : Int), .int .i64 (y : Int)] 27)) w.heap.size 27 #[.int .i64 0, .int .i64 0] from bR2.out.alloc _)
             have HBX := Lib.hid (show Below w.heap.size w (w2.alloc (.cells #[.int .i64 (x : Int), .int .i64 (y : Int)] 27)) from bl_alloc HB2.out _)
             generalize (w2.alloc (.cells #[.int .i64 (x : Int), .int .i64 (y : Int)] 27)) = X at *)
        all_goals clear c0 c1 c2 c3 c4 d0 d3 HB2 bU2 bR2
        all_goals have cUX := bUX.out.cell
        all_goals have cSX := bSX.out.cell
        all_goals go_wp2_with fail
        all_goals (try (go_quiet (fail); go_wp2_with fail))
        all_goals refine (l2_is _ u v x y u' v' true HSh.out.1 HSh.out.2 HG.out.2.2.1 HG.out.2.2.2).mono ?_
        all_goals rintro e w3 ⟨rfl, hb⟩
        all_goals have HB3 := Lib.hid (show Below w.heap.size w w3 from bl_trans (by repeat (first | with_reducible exact HBX.out | with_reducible refine bl_drewN ?_ _ | with_reducible refine Below.drew ?_ | with_reducible refine bl_alloc ?_ _)) hb)
        all_goals have bU3 := Lib.hid (show Blk w3 (w.heap.size + 1) 27 #[.int .i64 (u : Int), .int .i64 (v : Int)] from Blk.below (by repeat (first | with_reducible exact bUX.out | with_reducible refine Blk.drewN ?_ _ | with_reducible refine Blk.drew ?_ | with_reducible refine Blk.alloc ?_ _)) hb (by have := bUX.out.lt; first | exact this | (simp; omega)))
        all_goals have bR3 := Lib.hid (show Blk w3 w.heap.size 27 #[.int .i64 0, .int .i64 0] from Blk.below (by repeat (first | with_reducible exact bRX.out | with_reducible refine Blk.drewN ?_ _ | with_reducible refine Blk.drew ?_ | with_reducible refine Blk.alloc ?_ _)) hb (by have := bRX.out.lt; first | exact this | (simp; omega)))
        all_goals clear hb cUX cSX
        all_goals have cU3 := bU3.out.cell
        all_goals have fU3 := bU3.out.frozen
        all_goals go_wp2
        all_goals (go_roundw; (case rel => exact ⟨k + 1, u', v', by omega, by go_num, HT, (bU3.out.set_ 0 (.int .i64 (u' : Int))).set_ 1 (.int .i64 (v' : Int)), (bR3.out.far (by dsimp only; omega) _).far (by dsimp only; omega) _, bl_set (bl_set HB3.out (by dsimp only; omega) _) (by dsimp only; omega) _⟩); (case measure => (simp [intOf]; omega)))
      · have hno := (lowL_no ht hc).trans huv.out
        have HT := Lib.hid hno
        clear ht hno
        obtain ⟨lo, hi, du, ev, cr'⟩ := t
        dsimp only at c0 c1 c2 c3 c4 hc
        have hcb : (cr' == cr) = false := by simpa using hc
        go_wp2
        go_roundw
        case rel => exact ⟨k + 1, u, v, by omega, by go_num, HT, bU, bR, HB⟩
        case measure => simp [intOf]; omega
    · obtain rfl : k = n := by omega
      have hpq : (u, v) = (p, q) := by rw [← huv.out, ← HPQ.out, List.take_of_length_le (by rw [HL.out]; omega)]
      obtain ⟨rfl, rfl⟩ := Prod.mk.inj hpq
      clear hpq
      have cU := bU.out.cell
      have cR := bR.out.cell
      have fR := bR.out.frozen
      have cF := fun (s t : Value) => ((bR.out.set_ 0 s).set_ 1 t).cell
      go_wp2
      refine bodyPost_ret (v := .agg #[.int .i64 (u : Int), .int .i64 (v : Int)]) (by simp [results, Tryd.results16, go_sem, cF]) rfl ⟨rfl, (by repeat (first | with_reducible exact HB.out | refine bl_drewN ?_ _ | refine Below.drew ?_ | refine bl_alloc ?_ _ | refine bl_set ?_ (by dsimp only; omega) _))⟩
end

section
/- Contract of the reference's HighShare. Nothing that was there is written. -/
open Go.RowKit
set_option linter.unusedVariables false

set_option maxHeartbeats 1000000 in
theorem sHigh_is (w : World) (A : Option Addr) (n c : Nat) (ts : List Tk) (h : Tks w w.heap.size A n ts) (hn : n ≤ 1048576) (p q : Nat) (hpq : highOf ts = (p, q)) :
    Calls Tryd.prog 22 #[.slice A n c] w (ShRes p q w) := by
  have H := Lib.hid h
  have HL := Lib.hid h.len

  clear h
  cases hs : setB ts
  · obtain ⟨rfl, rfl⟩ := Prod.mk.inj ((highOf_bad hs).symm.trans hpq)
    clear hpq
    go_enter Tryd.func22, Tryd.ntmps22
    go_wp2_with fail
    refine (sSetValid_any _ A n c ts ((H.out.below (by repeat (first | exact Below.refl w.heap.size w | refine bl_alloc ?_ _))).more (by simp)) hn).mono ?_
    rintro e w1 ⟨rfl, hb⟩
    have HB1 := Lib.hid (show Below w.heap.size w w1 from bl_trans (by repeat (first | exact Below.refl w.heap.size w | refine bl_alloc ?_ _)) hb)
    have bR1 := Lib.hid (Blk.below (Blk.new w 27 #[.int .i64 0, .int .i64 0]) hb (by simp))
    have cR := bR1.out.cell
    have fR := bR1.out.frozen
    clear hb
    go_wp2
    refine bodyPost_ret (v := .agg #[.int .i64 0, .int .i64 0]) (by simp [results, Tryd.results22, go_sem, cR]) rfl ⟨rfl, (by repeat (first | with_reducible exact HB1.out | refine bl_drewN ?_ _ | refine Below.drew ?_ | refine bl_alloc ?_ _ | refine bl_set ?_ (by dsimp only; omega) _))⟩
  have h5 : n ≤ 5 := by have := setB_len hs; rw [HL.out] at this; exact this
  have HS := Lib.hid hs
  obtain ⟨us, hus⟩ : ∃ us, us = critOf ts := ⟨_, rfl⟩
  have hpq' : lowOf us true = (p, q) := by rw [← hpq]; exact highOf_low hs hus
  have hul : us.length ≤ 5 := by have := critOf_len ts; rw [← hus, HL.out] at this; omega
  have HPQ := Lib.hid hpq'
  have HU := Lib.hid hus
  clear hpq hpq' hs hus
  go_enter Tryd.func22, Tryd.ntmps22
  go_wp2_with fail
  refine (sSetValid_any _ A n c ts ((H.out.below (by repeat (first | exact Below.refl w.heap.size w | refine bl_alloc ?_ _))).more (by simp)) hn).mono ?_
  rintro e w1 ⟨rfl, hb⟩
  rw [HS.out]
  have HB1 := Lib.hid (show Below w.heap.size w w1 from bl_trans (by repeat (first | exact Below.refl w.heap.size w | refine bl_alloc ?_ _)) hb)
  have bR1 := Lib.hid (show Blk w1 w.heap.size 27 #[.int .i64 0, .int .i64 0] from Blk.below (Blk.new w 27 #[.int .i64 0, .int .i64 0]) hb (by simp))
  clear hb
  go_wp2_with fail
  refine (sCriticalOf_is w1 A n c ts us HU.out ((H.out.below HB1.out).more HB1.out.size) hn).mono ?_
  rintro e w2 ⟨A2, c2, rfl, ho, hb⟩
  have HB2 := Lib.hid (bl_trans HB1.out hb)
  have HO := Lib.hid ho.reads.2
  have bR2 := Lib.hid (bR1.out.below hb bR1.out.lt)
  clear hb ho
  go_wp2_with fail
  refine (sLow_is w2 A2 _ c2 us true HO.out (by omega) p q HPQ.out).mono ?_
  rintro e w3 ⟨rfl, hb⟩
  have HB3 := Lib.hid (bl_trans HB2.out hb)
  have bR3 := Lib.hid (bR2.out.below hb bR2.out.lt)
  have cR := bR3.out.cell
  have fR := bR3.out.frozen
  have cF := fun (s t : Value) => ((bR3.out.set_ 0 s).set_ 1 t).cell
  clear hb
  go_wp2
  refine bodyPost_ret (v := .agg #[.int .i64 (p : Int), .int .i64 (q : Int)]) (by simp [results, Tryd.results22, go_sem, cF]) rfl ⟨rfl, (by repeat (first | with_reducible exact HB3.out | refine bl_drewN ?_ _ | refine Below.drew ?_ | refine bl_alloc ?_ _ | refine bl_set ?_ (by dsimp only; omega) _))⟩
end

end Go.Proofs.YthaflbgkhlggkaaDoor
