/- Texts of this seat in one file: Low, SLow, SHigh, DrawsL, Two, Two3, EqSh, SImp, SPlain, SAt. -/
import Derived.Test.YtpngfonnoepmfaaDoorM2
import Derived.Test.YtpngfonnoepmfaaDoorM1
import Derived.RegionTactic
import Derived.ChangeAlike
import Derived.Deep.QuietTactic
import Derived.BigQuiet
import Derived.Deep.RegionWith
import Derived.Deep.RegionHeld3
namespace Go.Proofs.YtpngfonnoepmfaaDoor

section
/- Contracts of LowShare and HighShare, in the program and in the reference: both return the sum of the shares of the tasks. Nothing that was there is written. -/
open Go.RowKit
set_option linter.unusedVariables false

def ShRes (p q : Nat) (w : World) (e : Ending) (w' : World) : Prop := e = .returned (.agg #[.int .i64 (p : Int), .int .i64 (q : Int)]) ∧ Below w.heap.size w w'

set_option maxHeartbeats 1000000 in
theorem plus2_is (w : World) (e0 : Addr) (he : EG w e0) (u v x y p q : Nat) (hp : plusS u v x y = (p, q)) (hpb : plusB u v x y = true) :
    Calls Tryd.prog 45 #[.agg #[.int .i64 (u : Int), .int .i64 (v : Int)], .agg #[.int .i64 (x : Int), .int .i64 (y : Int)]] w (ShRes p q w) := by
  have HE := Lib.hid he
  have HP := Lib.hid (And.intro hp hpb)
  clear hp hpb he
  go_enter Tryd.func45, Tryd.ntmps45
  go_wp2_with fail
  (try (go_quiet (fail); go_wp2_with fail))
  refine (iAdd_is _ e0 (by repeat (first | exact HE.out | refine EG.drewN ?_ _ | refine EG.drew ?_ | refine EG.alloc ?_ _)) u v x y p q true HP.out.1 HP.out.2).mono ?_
  rintro e w2 ⟨rfl, hb⟩
  have HB2 := Lib.hid (show Below w.heap.size w w2 from bl_trans (by repeat (first | exact Below.refl w.heap.size w | refine bl_drewN ?_ _ | refine Below.drew ?_ | refine bl_alloc ?_ _)) hb)
  have bR2 := Lib.hid (show Blk w2 (w.heap.size + 1 + 1) 27 #[.int .i64 0, .int .i64 0] from Blk.below (by have h := Blk.new ((w.alloc (.cells #[.int .i64 (u : Int), .int .i64 (v : Int)] 27)).alloc (.cells #[.int .i64 (x : Int), .int .i64 (y : Int)] 27)) 27 #[.int .i64 0, .int .i64 0]; simp only [World.size_alloc] at h; repeat (first | with_reducible exact h | refine Blk.drewN ?_ _ | refine Blk.drew ?_)) hb (by simp))
  clear hb
  have cR0 := bR2.out.cell
  have fR0 := bR2.out.frozen
  have cR := fun o => (bR2.out.alloc o).cell
  have fR := fun o => (bR2.out.alloc o).frozen
  have cF := fun (s t : Value) o => (((bR2.out.alloc o).set_ 0 s).set_ 1 t).cell
  go_wp2
  (try go_region)
  all_goals (try go_wp2)
  all_goals refine bodyPost_ret (v := .agg #[.int .i64 (p : Int), .int .i64 (q : Int)]) (by simp [results, Tryd.results45, go_sem, cF]) rfl ⟨rfl, (by repeat (first | with_reducible exact HB2.out | refine bl_drewN ?_ _ | refine Below.drew ?_ | refine bl_alloc ?_ _ | refine bl_set ?_ (by dsimp only; omega) _))⟩

set_option maxHeartbeats 1000000 in
theorem plus_is (w : World) (e0 : Addr) (he : EG w e0) (u v : Nat) (lo hi du ev : Int) (cr : Bool) (x y p q : Nat) (hm : mkS lo ev = (x, y)) (hb : mkB lo ev = true) (hp : plusS u v x y = (p, q)) (hpb : plusB u v x y = true) :
    Calls Tryd.prog 60 #[.agg #[.int .i64 (u : Int), .int .i64 (v : Int)], .agg #[.int .i64 lo, .int .i64 hi, .int .i64 du, .int .i64 ev, .bool cr]] w (ShRes p q w) := by
  have HE := Lib.hid he
  have HM := Lib.hid (And.intro hm hb)
  have HP := Lib.hid (And.intro hp hpb)
  clear hm hb hp hpb he
  go_enter Tryd.func60, Tryd.ntmps60
  go_wp2_with fail
  (try (go_quiet (fail); go_wp2_with fail))
  refine (iMake_is _ lo ev x y true HM.out.1 HM.out.2).mono ?_
  rintro e w1 ⟨rfl, hb⟩
  have HB1 := Lib.hid (show Below w.heap.size w w1 from bl_trans (by repeat (first | exact Below.refl w.heap.size w | refine bl_drewN ?_ _ | refine Below.drew ?_ | refine bl_alloc ?_ _)) hb)
  have bS1 := Lib.hid (show Blk w1 w.heap.size 27 #[.int .i64 (u : Int), .int .i64 (v : Int)] from Blk.below (by repeat (first | with_reducible exact Blk.new w 27 #[.int .i64 (u : Int), .int .i64 (v : Int)] | refine Blk.drewN ?_ _ | refine Blk.drew ?_ | refine Blk.alloc ?_ _)) hb (by simp; omega))
  have bR1 := Lib.hid (show Blk w1 (w.heap.size + 1 + 1) 27 #[.int .i64 0, .int .i64 0] from Blk.below (by have h := Blk.new ((w.alloc (.cells #[.int .i64 (u : Int), .int .i64 (v : Int)] 27)).alloc (.cells #[.int .i64 lo, .int .i64 hi, .int .i64 du, .int .i64 ev, .bool cr] 40)) 27 #[.int .i64 0, .int .i64 0]; simp only [World.size_alloc] at h; repeat (first | with_reducible exact h | refine Blk.drewN ?_ _ | refine Blk.drew ?_)) hb (by simp))
  clear hb
  have cS0 := bS1.out.cell
  have cS := fun o => (bS1.out.alloc o).cell
  go_wp2_with fail
  (try (go_quiet (fail); go_wp2_with fail))
  refine (plus2_is _ e0 (by repeat (first | exact HE.out.below HB1.out | refine EG.drewN ?_ _ | refine EG.drew ?_ | refine EG.alloc ?_ _)) u v x y p q HP.out.1 HP.out.2).mono ?_
  rintro e w2 ⟨rfl, hb⟩
  have HB2 := Lib.hid (show Below w.heap.size w w2 from bl_trans (by repeat (first | with_reducible exact HB1.out | refine bl_drewN ?_ _ | refine Below.drew ?_ | refine bl_alloc ?_ _)) hb)
  have bR2 := Lib.hid (show Blk w2 (w.heap.size + 1 + 1) 27 #[.int .i64 0, .int .i64 0] from Blk.below (by repeat (first | with_reducible exact bR1.out | refine Blk.drewN ?_ _ | refine Blk.drew ?_ | refine Blk.alloc ?_ _)) hb (by have := bR1.out.lt; first | exact this | (simp; omega)))
  clear hb cS0 cS bS1 bR1 HB1
  have cR0 := bR2.out.cell
  have fR0 := bR2.out.frozen
  have cF := fun (s t : Value) => ((bR2.out.set_ 0 s).set_ 1 t).cell
  go_wp2
  (try go_region)
  all_goals (try go_wp2)
  all_goals refine bodyPost_ret (v := .agg #[.int .i64 (p : Int), .int .i64 (q : Int)]) (by simp [results, Tryd.results60, go_sem, cF]) rfl ⟨rfl, (by repeat (first | with_reducible exact HB2.out | refine bl_drewN ?_ _ | refine Below.drew ?_ | refine bl_alloc ?_ _ | refine bl_set ?_ (by dsimp only; omega) _))⟩

set_option maxHeartbeats 1000000 in
theorem iLow_is (w : World) (A : Option Addr) (n c : Nat) (ts : List Tk) (cr : Bool) (h : Tks w w.heap.size A n ts) (hn : n ≤ 1048576) (e0 : Addr) (he : EG w e0) (p q : Nat) (hpq : lowOf ts cr = (p, q)) :
    Calls Tryd.prog 26 #[.slice A n c, .bool cr] w (ShRes p q w) := by
  have H := Lib.hid h
  have HL := Lib.hid h.len
  have HE := Lib.hid he
  clear h he
  cases hs : setB ts
  · obtain ⟨rfl, rfl⟩ := Prod.mk.inj ((lowOf_bad cr hs).symm.trans hpq)
    clear hpq
    go_enter Tryd.func26, Tryd.ntmps26
    go_wp2_with fail
    refine (iSetValid_any _ A n c ts ((H.out.below (by repeat (first | exact Below.refl w.heap.size w | refine bl_alloc ?_ _))).more (by simp)) hn).mono ?_
    rintro e w1 ⟨rfl, hb⟩
    have HB1 := Lib.hid (show Below w.heap.size w w1 from bl_trans (by repeat (first | exact Below.refl w.heap.size w | refine bl_alloc ?_ _)) hb)
    have bR1 := Lib.hid (Blk.below (Blk.new w 27 #[.int .i64 0, .int .i64 0]) hb (by simp))
    have cR := bR1.out.cell
    have fR := bR1.out.frozen
    clear hb
    go_wp2
    refine bodyPost_ret (v := .agg #[.int .i64 0, .int .i64 0]) (by simp [results, Tryd.results26, go_sem, cR]) rfl ⟨rfl, (by repeat (first | with_reducible exact HB1.out | refine bl_drewN ?_ _ | refine Below.drew ?_ | refine bl_alloc ?_ _ | refine bl_set ?_ (by dsimp only; omega) _))⟩
  have h5 : n ≤ 5 := by have := setB_len hs; rw [HL.out] at this; exact this
  have HS := Lib.hid hs
  have hpq' : lowL ts cr = (p, q) := by rw [← hpq]; unfold lowOf; rw [hs]; rfl
  have HPQ := Lib.hid hpq'
  clear hpq hpq' hs
  go_enter Tryd.func26, Tryd.ntmps26
  go_wp2_with fail
  refine (iSetValid_any _ A n c ts ((H.out.below (by repeat (first | exact Below.refl w.heap.size w | refine bl_alloc ?_ _))).more (by simp)) hn).mono ?_
  rintro e w1 ⟨rfl, hb⟩
  rw [HS.out]
  have HB1 := Lib.hid (show Below w.heap.size w w1 from bl_trans (by repeat (first | exact Below.refl w.heap.size w | refine bl_alloc ?_ _)) hb)
  have bR1 := Lib.hid (Blk.below (Blk.new w 27 #[.int .i64 0, .int .i64 0]) hb (by simp))
  have hlt1 := bR1.out.lt
  clear hb
  go_wp2
  go_loopw [15] (fun i wr => ∃ k u v : Nat, k ≤ n ∧ i = .int .i64 k ∧ Hid (lowL (ts.take k) cr = (u, v)) ∧ Hid (Blk wr w1.heap.size 27 #[.int .i64 (u : Int), .int .i64 (v : Int)]) ∧ Hid (Blk wr w.heap.size 27 #[.int .i64 0, .int .i64 0]) ∧ Hid (Below w.heap.size w wr)) (fun i _ => n - (intOf i).toNat)
  case atStart => exact ⟨0, 0, 1, Nat.zero_le _, rfl, by show _ = _; rfl, Blk.new w1 27 _, bR1.out.alloc _, bl_alloc HB1.out _⟩
  case round =>
    obtain ⟨k, u, v, hk, rfl, huv, bU, bR, HB⟩ := hrel
    have hltU := bU.out.lt
    by_cases hlt : k < n
    · obtain ⟨t, ht⟩ : ∃ t, ts[k]? = some t := ⟨ts[k]'(by rw [HL.out]; exact hlt), List.getElem?_eq_getElem _⟩
      obtain ⟨b, o, rfl, hbl, c0, c1, c2, c3, c4⟩ := (H.out.below HB.out).at_ k t ht
      by_cases hc : t.cr = cr
      · obtain ⟨x, y, u', v', g1, g2, g3, g4, g5, _, _⟩ := low_step HS.out ht hc huv.out
        have HG := Lib.hid (And.intro g1 (And.intro g2 (And.intro g4 g3)))
        have HT := Lib.hid g5
        clear ht g1 g2 g3 g4 g5
        obtain ⟨lo, hi, du, ev, cr'⟩ := t
        dsimp only at c0 c1 c2 c3 c4 hc HG
        subst hc
        have cU := fun o => (bU.out.alloc o).cell
        have hcb : (cr' == cr') = true := by simp
        go_wp2_with fail
        refine (plus_is _ e0 (by repeat (first | exact HE.out.below HB.out | refine EG.drewN ?_ _ | refine EG.drew ?_ | refine EG.alloc ?_ _)) u v lo hi du ev cr' x y u' v' HG.out.1 HG.out.2.1 HG.out.2.2.1 HG.out.2.2.2).mono ?_
        rintro e w2 ⟨rfl, hb⟩
        have HB2 := Lib.hid (show Below w.heap.size w w2 from bl_trans (by repeat (first | with_reducible exact HB.out | refine bl_drewN ?_ _ | refine Below.drew ?_ | refine bl_alloc ?_ _)) hb)
        have bU2 := Lib.hid (show Blk w2 w1.heap.size 27 #[.int .i64 (u : Int), .int .i64 (v : Int)] from Blk.below (by repeat (first | with_reducible exact bU.out | refine Blk.drewN ?_ _ | refine Blk.drew ?_ | refine Blk.alloc ?_ _)) hb (by have := bU.out.lt; first | exact this | (simp; omega)))
        have bR2 := Lib.hid (show Blk w2 w.heap.size 27 #[.int .i64 0, .int .i64 0] from Blk.below (by repeat (first | with_reducible exact bR.out | refine Blk.drewN ?_ _ | refine Blk.drew ?_ | refine Blk.alloc ?_ _)) hb (by have := bR.out.lt; first | exact this | (simp; omega)))
        clear hb cU
        have cU2 := bU2.out.cell
        have fU2 := bU2.out.frozen
        have hs2 := HB2.out.size
        go_wp2
        go_roundw
        case rel => exact ⟨k + 1, u', v', by omega, by go_num, HT, (bU2.out.set_ 0 (.int .i64 (u' : Int))).set_ 1 (.int .i64 (v' : Int)), (bR2.out.far (by dsimp only; omega) _).far (by dsimp only; omega) _, bl_set (bl_set HB2.out (by dsimp only; omega) _) (by dsimp only; omega) _⟩
        case measure => simp [intOf]; omega
      · have hno := (lowL_no ht hc).trans huv.out
        have HT := Lib.hid hno
        clear ht hno
        obtain ⟨lo, hi, du, ev, cr'⟩ := t
        dsimp only at c0 c1 c2 c3 c4 hc
        have hcb : (cr' == cr) = false := by simpa using hc
        go_wp2
        go_roundw
        case rel => exact ⟨k + 1, u, v, by omega, by go_num, HT, bU.out.alloc _, bR.out.alloc _, bl_alloc HB.out _⟩
        case measure => simp [intOf]; omega
    · obtain rfl : k = n := by omega
      have hpq : (u, v) = (p, q) := by rw [← huv.out, ← HPQ.out, List.take_of_length_le (by rw [HL.out]; omega)]
      obtain ⟨rfl, rfl⟩ := Prod.mk.inj hpq
      clear hpq
      have cU := bU.out.cell
      have cR := bR.out.cell
      have fR := bR.out.frozen
      have cF := fun (s t : Value) => ((bR.out.set_ 0 s).set_ 1 t).cell
      go_wp2
      refine bodyPost_ret (v := .agg #[.int .i64 (u : Int), .int .i64 (v : Int)]) (by simp [results, Tryd.results26, go_sem, cF]) rfl ⟨rfl, (by repeat (first | with_reducible exact HB.out | refine bl_drewN ?_ _ | refine Below.drew ?_ | refine bl_alloc ?_ _ | refine bl_set ?_ (by dsimp only; omega) _))⟩

set_option maxHeartbeats 1000000 in
theorem iHigh_is (w : World) (A : Option Addr) (n c : Nat) (ts : List Tk) (h : Tks w w.heap.size A n ts) (hn : n ≤ 1048576) (e0 : Addr) (he : EG w e0) (p q : Nat) (hpq : highOf ts = (p, q)) :
    Calls Tryd.prog 38 #[.slice A n c] w (ShRes p q w) := by
  have H := Lib.hid h
  have HL := Lib.hid h.len
  have HE := Lib.hid he
  clear h he
  cases hs : setB ts
  · obtain ⟨rfl, rfl⟩ := Prod.mk.inj ((highOf_bad hs).symm.trans hpq)
    clear hpq
    go_enter Tryd.func38, Tryd.ntmps38
    go_wp2_with fail
    refine (iSetValid_any _ A n c ts ((H.out.below (by repeat (first | exact Below.refl w.heap.size w | refine bl_alloc ?_ _))).more (by simp)) hn).mono ?_
    rintro e w1 ⟨rfl, hb⟩
    have HB1 := Lib.hid (show Below w.heap.size w w1 from bl_trans (by repeat (first | exact Below.refl w.heap.size w | refine bl_alloc ?_ _)) hb)
    have bR1 := Lib.hid (Blk.below (Blk.new w 27 #[.int .i64 0, .int .i64 0]) hb (by simp))
    have cR := bR1.out.cell
    have fR := bR1.out.frozen
    clear hb
    go_wp2
    refine bodyPost_ret (v := .agg #[.int .i64 0, .int .i64 0]) (by simp [results, Tryd.results38, go_sem, cR]) rfl ⟨rfl, (by repeat (first | with_reducible exact HB1.out | refine bl_drewN ?_ _ | refine Below.drew ?_ | refine bl_alloc ?_ _ | refine bl_set ?_ (by dsimp only; omega) _))⟩
  have h5 : n ≤ 5 := by have := setB_len hs; rw [HL.out] at this; exact this
  have HS := Lib.hid hs
  obtain ⟨us, hus⟩ : ∃ us, us = critOf ts := ⟨_, rfl⟩
  have hpq' : lowOf us true = (p, q) := by rw [← hpq]; exact highOf_low hs hus
  have hul : us.length ≤ 5 := by have := critOf_len ts; rw [← hus, HL.out] at this; omega
  have HPQ := Lib.hid hpq'
  have HU := Lib.hid hus
  clear hpq hpq' hs hus
  go_enter Tryd.func38, Tryd.ntmps38
  go_wp2_with fail
  refine (iSetValid_any _ A n c ts ((H.out.below (by repeat (first | exact Below.refl w.heap.size w | refine bl_alloc ?_ _))).more (by simp)) hn).mono ?_
  rintro e w1 ⟨rfl, hb⟩
  rw [HS.out]
  have HB1 := Lib.hid (show Below w.heap.size w w1 from bl_trans (by repeat (first | exact Below.refl w.heap.size w | refine bl_alloc ?_ _)) hb)
  have bR1 := Lib.hid (show Blk w1 w.heap.size 27 #[.int .i64 0, .int .i64 0] from Blk.below (Blk.new w 27 #[.int .i64 0, .int .i64 0]) hb (by simp))
  clear hb
  go_wp2_with fail
  refine (iCriticalOf_is w1 A n c ts us HU.out ((H.out.below HB1.out).more HB1.out.size) hn).mono ?_
  rintro e w2 ⟨A2, c2, rfl, ho, hb⟩
  have HB2 := Lib.hid (bl_trans HB1.out hb)
  have HO := Lib.hid ho.reads.2
  have bR2 := Lib.hid (bR1.out.below hb bR1.out.lt)
  clear hb ho
  go_wp2_with fail
  refine (iLow_is w2 A2 _ c2 us true HO.out (by omega) e0 (by repeat (first | exact HE.out.below HB2.out | refine EG.drewN ?_ _ | refine EG.drew ?_ | refine EG.alloc ?_ _)) p q HPQ.out).mono ?_
  rintro e w3 ⟨rfl, hb⟩
  have HB3 := Lib.hid (bl_trans HB2.out hb)
  have bR3 := Lib.hid (bR2.out.below hb bR2.out.lt)
  have cR := bR3.out.cell
  have fR := bR3.out.frozen
  have cF := fun (s t : Value) => ((bR3.out.set_ 0 s).set_ 1 t).cell
  clear hb
  go_wp2
  refine bodyPost_ret (v := .agg #[.int .i64 (p : Int), .int .i64 (q : Int)]) (by simp [results, Tryd.results38, go_sem, cF]) rfl ⟨rfl, (by repeat (first | with_reducible exact HB3.out | refine bl_drewN ?_ _ | refine Below.drew ?_ | refine bl_alloc ?_ _ | refine bl_set ?_ (by dsimp only; omega) _))⟩
end

section
/- Contracts of the reference's LowShare and HighShare. Nothing that was there is written. -/
open Go.RowKit
set_option linter.unusedVariables false

set_option maxHeartbeats 600000 in
theorem sLow_is (w : World) (A : Option Addr) (n c : Nat) (ts : List Tk) (cr : Bool) (h : Tks w w.heap.size A n ts) (hn : n ≤ 1048576) (p q : Nat) (hpq : lowOf ts cr = (p, q)) :
    Calls Tryd.prog 47 #[.slice A n c, .bool cr] w (ShRes p q w) := by
  have H := Lib.hid h
  have HL := Lib.hid h.len
  clear h
  cases hs : setB ts
  · obtain ⟨rfl, rfl⟩ := Prod.mk.inj ((lowOf_bad cr hs).symm.trans hpq)
    clear hpq
    go_enter Tryd.func47, Tryd.ntmps47
    go_wp2_with fail
    refine (sSetValid_any _ A n c ts ((H.out.below (by repeat (first | exact Below.refl w.heap.size w | with_reducible refine bl_alloc ?_ _))).more (by simp; omega)) hn).mono ?_
    rintro e w1 ⟨rfl, hb⟩
    have HB1 := Lib.hid (show Below w.heap.size w w1 from bl_trans (by repeat (first | exact Below.refl w.heap.size w | with_reducible refine bl_alloc ?_ _)) hb)
    have bR1 := Lib.hid (show Blk w1 w.heap.size 27 #[.int .i64 0, .int .i64 0] from Blk.below ((Blk.new w 27 #[.int .i64 0, .int .i64 0]).alloc _) hb (by simp; omega))
    have cR := bR1.out.cell
    have fR := bR1.out.frozen
    clear hb
    go_wp2
    refine bodyPost_ret (v := .agg #[.int .i64 0, .int .i64 0]) (by simp [results, Tryd.results47, go_sem, cR]) rfl ⟨rfl, (by repeat (first | with_reducible exact HB1.out | refine bl_drewN ?_ _ | refine Below.drew ?_ | refine bl_alloc ?_ _ | refine bl_set ?_ (by dsimp only; omega) _))⟩
  have h5 : n ≤ 5 := by have := setB_len hs; rw [HL.out] at this; exact this
  have HS := Lib.hid hs
  have hpq' : lowL ts cr = (p, q) := by rw [← hpq]; unfold lowOf; rw [hs]; rfl
  have HPQ := Lib.hid hpq'
  clear hpq hpq' hs
  go_enter Tryd.func47, Tryd.ntmps47
  go_wp2_with fail
  refine (sSetValid_any _ A n c ts ((H.out.below (by repeat (first | exact Below.refl w.heap.size w | with_reducible refine bl_alloc ?_ _))).more (by simp; omega)) hn).mono ?_
  rintro e w1 ⟨rfl, hb⟩
  rw [HS.out]
  have HB1 := Lib.hid (show Below w.heap.size w w1 from bl_trans (by repeat (first | exact Below.refl w.heap.size w | with_reducible refine bl_alloc ?_ _)) hb)
  have bR1 := Lib.hid (show Blk w1 w.heap.size 27 #[.int .i64 0, .int .i64 0] from Blk.below ((Blk.new w 27 #[.int .i64 0, .int .i64 0]).alloc _) hb (by simp; omega))
  have bU1 := Lib.hid (show Blk w1 (w.heap.size + 1) 27 #[.int .i64 0, .int .i64 1] from Blk.below (by have h := Blk.new (w.alloc (.cells #[.int .i64 0, .int .i64 0] 27)) 27 #[.int .i64 0, .int .i64 1]; simp only [World.size_alloc] at h; exact h) hb (by simp))
  clear hb
  go_wp2
  go_loopw [6] (fun i wr => ∃ k u v : Nat, k ≤ n ∧ i = .int .i64 k ∧ Hid (lowL (ts.take k) cr = (u, v)) ∧ Hid (Blk wr (w.heap.size + 1) 27 #[.int .i64 (u : Int), .int .i64 (v : Int)]) ∧ Hid (Blk wr w.heap.size 27 #[.int .i64 0, .int .i64 0]) ∧ Hid (Below w.heap.size w wr)) (fun i _ => n - (intOf i).toNat)
  case atStart => exact ⟨0, 0, 1, Nat.zero_le _, rfl, by show _ = _; rfl, bU1, bR1, HB1⟩
  case round =>
    obtain ⟨k, u, v, hk, rfl, huv, bU, bR, HB⟩ := hrel
    have hltU := bU.out.lt
    by_cases hlt : k < n
    · obtain ⟨t, ht⟩ : ∃ t, ts[k]? = some t := ⟨ts[k]'(by rw [HL.out]; exact hlt), List.getElem?_eq_getElem _⟩
      obtain ⟨b, o, rfl, hbl, c0, c1, c2, c3, c4⟩ := (H.out.below HB.out).at_ k t ht
      have i1 : (0 : Int) ≤ (k : Int) := by omega
      have i2 : (k : Int) < (n : Int) := by omega
      by_cases hc : t.cr = cr
      · obtain ⟨x, y, u', v', g1, g2, g3, g4, g5, hU, hX⟩ := low_step HS.out ht hc huv.out
        have HG := Lib.hid (And.intro g1 (And.intro g2 (And.intro g4 g3)))
        have HSh := Lib.hid (And.intro hU hX)
        have HT := Lib.hid g5
        clear ht g1 g2 g3 g4 g5 hU hX
        obtain ⟨lo, hi, du, ev, cr'⟩ := t
        dsimp only at c0 c1 c2 c3 c4 hc HG
        subst hc
        have hbl' := Nat.lt_of_lt_of_le hbl HB.out.size
        have d0 := fun oo => (World.cell?_alloc_lt wr oo ⟨b, o + k * 5, none⟩ hbl').trans c0
        have d3 := fun oo => (World.cell?_alloc_lt wr oo ⟨b, o + k * 5 + 3, none⟩ hbl').trans c3
        have hcb : (cr' == cr') = true := by simp
        go_wp2_with fail
        go_region_with (go_at_call 49; refine (sMake_is _ lo ev x y true HG.out.1 HG.out.2.1).mono ?_; rintro e w2 ⟨rfl, hb⟩; have f0 : w2.cell? ⟨b, o + k * 5, none⟩ = some (.int .i64 lo) := (hb.cell (p := ⟨b, o + k * 5, none⟩) (by first | exact hbl' | (simp; omega))).trans (by first | exact c0 | exact d0 _); have f3 : w2.cell? ⟨b, o + k * 5 + 3, none⟩ = some (.int .i64 ev) := (hb.cell (p := ⟨b, o + k * 5 + 3, none⟩) (by first | exact hbl' | (simp; omega))).trans (by first | exact c3 | exact d3 _); have hbl2 : b < w2.heap.size := Nat.lt_of_lt_of_le hbl' (by have := hb.size; first | exact this | (simp at this; omega)); have g0 := fun oo => (World.cell?_alloc_lt w2 oo ⟨b, o + k * 5, none⟩ hbl2).trans f0; have g3 := fun oo => (World.cell?_alloc_lt w2 oo ⟨b, o + k * 5 + 3, none⟩ hbl2).trans f3; have HB2 := Lib.hid (show Below w.heap.size w w2 from bl_trans (by repeat (first | with_reducible exact HB.out | with_reducible refine bl_drewN ?_ _ | with_reducible refine Below.drew ?_ | with_reducible refine bl_alloc ?_ _)) hb); have bU2 := Lib.hid (show Blk w2 (w.heap.size + 1) 27 #[.int .i64 (u : Int), .int .i64 (v : Int)] from Blk.below (by repeat (first | with_reducible exact bU.out | with_reducible refine Blk.drewN ?_ _ | with_reducible refine Blk.drew ?_ | with_reducible refine Blk.alloc ?_ _)) hb (by have := bU.out.lt; first | exact this | (simp; omega))); have bR2 := Lib.hid (show Blk w2 w.heap.size 27 #[.int .i64 0, .int .i64 0] from Blk.below (by repeat (first | with_reducible exact bR.out | with_reducible refine Blk.drewN ?_ _ | with_reducible refine Blk.drew ?_ | with_reducible refine Blk.alloc ?_ _)) hb (by have := bR.out.lt; first | exact this | (simp; omega))); first | (have bC := Lib.hid (show Blk w2 wr.heap.size 27 #[.int .i64 0, .int .i64 0] from Blk.below (Blk.drew (Blk.new wr 27 #[.int .i64 0, .int .i64 0])) hb (Blk.new wr 27 #[.int .i64 0, .int .i64 0]).lt); have cC := bC.out.cell; have fC := bC.out.frozen) | (have bC := Lib.hid (show Blk w2 wr.heap.size 27 #[.int .i64 0, .int .i64 0] from Blk.below (Blk.new wr 27 #[.int .i64 0, .int .i64 0]) hb (Blk.new wr 27 #[.int .i64 0, .int .i64 0]).lt); have cC := bC.out.cell; have fC := bC.out.frozen) | skip; clear hb)
        all_goals first
          | (have bSX := Lib.hid (show Blk ((w2.setCell ⟨wr.heap.size, 0, none⟩ (.int .i64 (x : Int))).setCell ⟨wr.heap.size, 1, none⟩ (.int .i64 (y : Int))) wr.heap.size 27 #[.int .i64 (x : Int), .int .i64 (y : Int)] from (bC.out.set_ 0 _).set_ 1 _)
             have hne1 : w.heap.size + 1 ≠ wr.heap.size := by omega
             have hne0 : w.heap.size ≠ wr.heap.size := by omega
             have bUX := Lib.hid (show Blk ((w2.setCell ⟨wr.heap.size, 0, none⟩ (.int .i64 (x : Int))).setCell ⟨wr.heap.size, 1, none⟩ (.int .i64 (y : Int))) (w.heap.size + 1) 27 #[.int .i64 (u : Int), .int .i64 (v : Int)] from (bU2.out.far hne1 _).far hne1 _)
             have bRX := Lib.hid (show Blk ((w2.setCell ⟨wr.heap.size, 0, none⟩ (.int .i64 (x : Int))).setCell ⟨wr.heap.size, 1, none⟩ (.int .i64 (y : Int))) w.heap.size 27 #[.int .i64 0, .int .i64 0] from (bR2.out.far hne0 _).far hne0 _)
             have HBX := Lib.hid (show Below w.heap.size w ((w2.setCell ⟨wr.heap.size, 0, none⟩ (.int .i64 (x : Int))).setCell ⟨wr.heap.size, 1, none⟩ (.int .i64 (y : Int))) from bl_set (bl_set HB2.out (by dsimp only; omega) _) (by dsimp only; omega) _)
             clear cC fC bC
             generalize ((w2.setCell ⟨wr.heap.size, 0, none⟩ (.int .i64 (x : Int))).setCell ⟨wr.heap.size, 1, none⟩ (.int .i64 (y : Int))) = X at *)
          | (have bSX := Lib.hid (show Blk (w2.alloc (.cells #[.int .i64 (x : Int), .int .i64 (y : Int)] 27)) w2.heap.size 27 #[.int .i64 (x : Int), .int .i64 (y : Int)] from Blk.new w2 27 _)
             have bUX := Lib.hid (show Blk (w2.alloc (.cells #[.int .i64 (x : Int), .int .i64 (y : Int)] 27)) (w.heap.size + 1) 27 #[.int .i64 (u : Int), .int .i64 (v : Int)] from bU2.out.alloc _)
             have bRX := Lib.hid (show Blk (w2.alloc (.cells #[.int .i64 (x : Int), .int .i64 (y : Int)] 27)) w.heap.size 27 #[.int .i64 0, .int .i64 0] from bR2.out.alloc _)
             have HBX := Lib.hid (show Below w.heap.size w (w2.alloc (.cells #[.int .i64 (x : Int), .int .i64 (y : Int)] 27)) from bl_alloc HB2.out _)
             generalize (w2.alloc (.cells #[.int .i64 (x : Int), .int .i64 (y : Int)] 27)) = X at *)
        all_goals clear c0 c1 c2 c3 c4 d0 d3 HB2 bU2 bR2
        all_goals have cUX := bUX.out.cell
        all_goals have cSX := bSX.out.cell
        all_goals go_wp2_with fail
        all_goals (try (go_quiet (fail); go_wp2_with fail))
        all_goals refine (l2_is _ u v x y u' v' true HSh.out.1 HSh.out.2 HG.out.2.2.1 HG.out.2.2.2).mono ?_
        all_goals rintro e w3 ⟨rfl, hb⟩
        all_goals have HB3 := Lib.hid (show Below w.heap.size w w3 from bl_trans (by repeat (first | with_reducible exact HBX.out | with_reducible refine bl_drewN ?_ _ | with_reducible refine Below.drew ?_ | with_reducible refine bl_alloc ?_ _)) hb)
        all_goals have bU3 := Lib.hid (show Blk w3 (w.heap.size + 1) 27 #[.int .i64 (u : Int), .int .i64 (v : Int)] from Blk.below (by repeat (first | with_reducible exact bUX.out | with_reducible refine Blk.drewN ?_ _ | with_reducible refine Blk.drew ?_ | with_reducible refine Blk.alloc ?_ _)) hb (by have := bUX.out.lt; first | exact this | (simp; omega)))
        all_goals have bR3 := Lib.hid (show Blk w3 w.heap.size 27 #[.int .i64 0, .int .i64 0] from Blk.below (by repeat (first | with_reducible exact bRX.out | with_reducible refine Blk.drewN ?_ _ | with_reducible refine Blk.drew ?_ | with_reducible refine Blk.alloc ?_ _)) hb (by have := bRX.out.lt; first | exact this | (simp; omega)))
        all_goals clear hb cUX cSX
        all_goals have cU3 := bU3.out.cell
        all_goals have fU3 := bU3.out.frozen
        all_goals go_wp2
        all_goals (go_roundw; (case rel => exact ⟨k + 1, u', v', by omega, by go_num, HT, (bU3.out.set_ 0 (.int .i64 (u' : Int))).set_ 1 (.int .i64 (v' : Int)), (bR3.out.far (by dsimp only; omega) _).far (by dsimp only; omega) _, bl_set (bl_set HB3.out (by dsimp only; omega) _) (by dsimp only; omega) _⟩); (case measure => (simp [intOf]; omega)))
      · have hno := (lowL_no ht hc).trans huv.out
        have HT := Lib.hid hno
        clear ht hno
        obtain ⟨lo, hi, du, ev, cr'⟩ := t
        dsimp only at c0 c1 c2 c3 c4 hc
        have hcb : (cr' == cr) = false := by simpa using hc
        go_wp2
        go_roundw
        case rel => exact ⟨k + 1, u, v, by omega, by go_num, HT, bU, bR, HB⟩
        case measure => simp [intOf]; omega
    · obtain rfl : k = n := by omega
      have hpq : (u, v) = (p, q) := by rw [← huv.out, ← HPQ.out, List.take_of_length_le (by rw [HL.out]; omega)]
      obtain ⟨rfl, rfl⟩ := Prod.mk.inj hpq
      clear hpq
      have cU := bU.out.cell
      have cR := bR.out.cell
      have fR := bR.out.frozen
      have cF := fun (s t : Value) => ((bR.out.set_ 0 s).set_ 1 t).cell
      go_wp2
      refine bodyPost_ret (v := .agg #[.int .i64 (u : Int), .int .i64 (v : Int)]) (by simp [results, Tryd.results47, go_sem, cF]) rfl ⟨rfl, (by repeat (first | with_reducible exact HB.out | refine bl_drewN ?_ _ | refine Below.drew ?_ | refine bl_alloc ?_ _ | refine bl_set ?_ (by dsimp only; omega) _))⟩
end

section
/- Contract of the reference's HighShare. Nothing that was there is written. -/
open Go.RowKit
set_option linter.unusedVariables false

set_option maxHeartbeats 1000000 in
theorem sHigh_is (w : World) (A : Option Addr) (n c : Nat) (ts : List Tk) (h : Tks w w.heap.size A n ts) (hn : n ≤ 1048576) (p q : Nat) (hpq : highOf ts = (p, q)) :
    Calls Tryd.prog 51 #[.slice A n c] w (ShRes p q w) := by
  have H := Lib.hid h
  have HL := Lib.hid h.len

  clear h
  cases hs : setB ts
  · obtain ⟨rfl, rfl⟩ := Prod.mk.inj ((highOf_bad hs).symm.trans hpq)
    clear hpq
    go_enter Tryd.func51, Tryd.ntmps51
    go_wp2_with fail
    refine (sSetValid_any _ A n c ts ((H.out.below (by repeat (first | exact Below.refl w.heap.size w | refine bl_alloc ?_ _))).more (by simp)) hn).mono ?_
    rintro e w1 ⟨rfl, hb⟩
    have HB1 := Lib.hid (show Below w.heap.size w w1 from bl_trans (by repeat (first | exact Below.refl w.heap.size w | refine bl_alloc ?_ _)) hb)
    have bR1 := Lib.hid (Blk.below (Blk.new w 27 #[.int .i64 0, .int .i64 0]) hb (by simp))
    have cR := bR1.out.cell
    have fR := bR1.out.frozen
    clear hb
    go_wp2
    refine bodyPost_ret (v := .agg #[.int .i64 0, .int .i64 0]) (by simp [results, Tryd.results51, go_sem, cR]) rfl ⟨rfl, (by repeat (first | with_reducible exact HB1.out | refine bl_drewN ?_ _ | refine Below.drew ?_ | refine bl_alloc ?_ _ | refine bl_set ?_ (by dsimp only; omega) _))⟩
  have h5 : n ≤ 5 := by have := setB_len hs; rw [HL.out] at this; exact this
  have HS := Lib.hid hs
  obtain ⟨us, hus⟩ : ∃ us, us = critOf ts := ⟨_, rfl⟩
  have hpq' : lowOf us true = (p, q) := by rw [← hpq]; exact highOf_low hs hus
  have hul : us.length ≤ 5 := by have := critOf_len ts; rw [← hus, HL.out] at this; omega
  have HPQ := Lib.hid hpq'
  have HU := Lib.hid hus
  clear hpq hpq' hs hus
  go_enter Tryd.func51, Tryd.ntmps51
  go_wp2_with fail
  refine (sSetValid_any _ A n c ts ((H.out.below (by repeat (first | exact Below.refl w.heap.size w | refine bl_alloc ?_ _))).more (by simp)) hn).mono ?_
  rintro e w1 ⟨rfl, hb⟩
  rw [HS.out]
  have HB1 := Lib.hid (show Below w.heap.size w w1 from bl_trans (by repeat (first | exact Below.refl w.heap.size w | refine bl_alloc ?_ _)) hb)
  have bR1 := Lib.hid (show Blk w1 w.heap.size 27 #[.int .i64 0, .int .i64 0] from Blk.below (Blk.new w 27 #[.int .i64 0, .int .i64 0]) hb (by simp))
  clear hb
  go_wp2_with fail
  refine (sCriticalOf_is w1 A n c ts us HU.out ((H.out.below HB1.out).more HB1.out.size) hn).mono ?_
  rintro e w2 ⟨A2, c2, rfl, ho, hb⟩
  have HB2 := Lib.hid (bl_trans HB1.out hb)
  have HO := Lib.hid ho.reads.2
  have bR2 := Lib.hid (bR1.out.below hb bR1.out.lt)
  clear hb ho
  go_wp2_with fail
  refine (sLow_is w2 A2 _ c2 us true HO.out (by omega) p q HPQ.out).mono ?_
  rintro e w3 ⟨rfl, hb⟩
  have HB3 := Lib.hid (bl_trans HB2.out hb)
  have bR3 := Lib.hid (bR2.out.below hb bR2.out.lt)
  have cR := bR3.out.cell
  have fR := bR3.out.frozen
  have cF := fun (s t : Value) => ((bR3.out.set_ 0 s).set_ 1 t).cell
  clear hb
  go_wp2
  refine bodyPost_ret (v := .agg #[.int .i64 (p : Int), .int .i64 (q : Int)]) (by simp [results, Tryd.results51, go_sem, cF]) rfl ⟨rfl, (by repeat (first | with_reducible exact HB3.out | refine bl_drewN ?_ _ | refine Below.drew ?_ | refine bl_alloc ?_ _ | refine bl_set ?_ (by dsimp only; omega) _))⟩
end

section
/- Contracts of what the reference draws as arguments of LowShare and HighShare; nothing that was there is written. -/
open Go.RowKit

def DrewLB (m : Nat) (w : World) (e : Ending) (w' : World) : Prop :=
  ∃ (A : Option Addr) (c : Nat) (ts : List Tk) (b : Bool), e = .returned (.tuple #[.slice A ts.length c, .bool b]) ∧ ts.length ≤ m ∧ Own w' w.heap.size (.slice A ts.length c) ts ∧ Below w.heap.size w w'
end

section
/- Two cells of a block. -/
open Go.RowKit
theorem Blk.two {w : World} {a : Nat} {t : TypeId} {x y : Value} (h : Blk w a t #[x, y]) : w.cell? ⟨a, 0, none⟩ = some x ∧ w.cell? ⟨a, 1, none⟩ = some y := ⟨h.cell 0, h.cell 1⟩
theorem two_alloc1 {w : World} {a : Nat} {x y : Value} (h : w.cell? ⟨a, 0, none⟩ = some x ∧ w.cell? ⟨a, 1, none⟩ = some y) (o : Obj) : (w.alloc o).cell? ⟨a, 0, none⟩ = some x ∧ (w.alloc o).cell? ⟨a, 1, none⟩ = some y :=
  ⟨(World.cell?_alloc_lt w o _ (World.block_lt_of_cell? w _ h.1)).trans h.1, (World.cell?_alloc_lt w o _ (World.block_lt_of_cell? w _ h.2)).trans h.2⟩
theorem two_alloc2 {w : World} {a b : Nat} {x y u v : Value} (h : (w.cell? ⟨a, 0, none⟩ = some x ∧ w.cell? ⟨a, 1, none⟩ = some y) ∧ (w.cell? ⟨b, 0, none⟩ = some u ∧ w.cell? ⟨b, 1, none⟩ = some v)) (o : Obj) :
    ((w.alloc o).cell? ⟨a, 0, none⟩ = some x ∧ (w.alloc o).cell? ⟨a, 1, none⟩ = some y) ∧ ((w.alloc o).cell? ⟨b, 0, none⟩ = some u ∧ (w.alloc o).cell? ⟨b, 1, none⟩ = some v) := ⟨two_alloc1 h.1 o, two_alloc1 h.2 o⟩
theorem Tks.take {w : World} {B : Nat} {A : Option Addr} {n k : Nat} {ts : List Tk} (h : Tks w B A n ts) (hk : k ≤ n) : Tks w B A k (ts.take k) :=
  ⟨by rw [List.length_take, h.len]; omega, fun i t ht => h.at_ i t (by
    rw [List.getElem?_take] at ht
    split at ht
    · exact ht
    · cases ht)⟩
theorem Tks.drop {w : World} {B b o : Nat} {n k m : Nat} {ts : List Tk} (h : Tks w B (some ⟨b, o, none⟩) n ts) (hm : m = o + k * 5) : Tks w B (some ⟨b, m, none⟩) (n - k) (ts.drop k) :=
  ⟨by rw [List.length_drop, h.len], fun i t ht => by
    rw [List.getElem?_drop] at ht
    obtain ⟨b', o', e, hb, hc⟩ := h.at_ _ _ ht
    injection e with e
    injection e with e1 e2
    subst e1 e2 hm
    refine ⟨b, _, rfl, hb, ?_⟩
    rw [show o + k * 5 + i * 5 = o + (k + i) * 5 by omega]
    exact hc⟩
theorem Tks.none_ {w : World} {B : Nat} {A : Option Addr} : Tks w B A 0 [] := ⟨rfl, fun i t ht => by simp at ht⟩
end

section
/- Two cells of a block behind two stores into another block; parts of lists. -/
open Go.RowKit
theorem two_set1 {w : World} {a c : Nat} {x y : Value} (h : w.cell? ⟨a, 0, none⟩ = some x ∧ w.cell? ⟨a, 1, none⟩ = some y) (hc : a ≠ c) (u v : Value) :
    ((w.setCell ⟨c, 0, none⟩ u).setCell ⟨c, 1, none⟩ v).cell? ⟨a, 0, none⟩ = some x ∧ ((w.setCell ⟨c, 0, none⟩ u).setCell ⟨c, 1, none⟩ v).cell? ⟨a, 1, none⟩ = some y := by
  have k : ∀ (X : World) (i j : Nat) (z : Value), (X.setCell ⟨c, j, none⟩ z).cell? ⟨a, i, none⟩ = X.cell? ⟨a, i, none⟩ := fun X i j z =>
    World.cell?_setCell_other X _ _ _ (fun e => by injection e with e1; exact hc e1.symm)
  exact ⟨(k _ _ _ _).trans ((k _ _ _ _).trans h.1), (k _ _ _ _).trans ((k _ _ _ _).trans h.2)⟩
theorem two_set2 {w : World} {a b c : Nat} {x y s t : Value} (h : (w.cell? ⟨a, 0, none⟩ = some x ∧ w.cell? ⟨a, 1, none⟩ = some y) ∧ (w.cell? ⟨b, 0, none⟩ = some s ∧ w.cell? ⟨b, 1, none⟩ = some t)) (ha : a ≠ c) (hb : b ≠ c) (u v : Value) :
    (((w.setCell ⟨c, 0, none⟩ u).setCell ⟨c, 1, none⟩ v).cell? ⟨a, 0, none⟩ = some x ∧ ((w.setCell ⟨c, 0, none⟩ u).setCell ⟨c, 1, none⟩ v).cell? ⟨a, 1, none⟩ = some y) ∧ (((w.setCell ⟨c, 0, none⟩ u).setCell ⟨c, 1, none⟩ v).cell? ⟨b, 0, none⟩ = some s ∧ ((w.setCell ⟨c, 0, none⟩ u).setCell ⟨c, 1, none⟩ v).cell? ⟨b, 1, none⟩ = some t) :=
  ⟨two_set1 h.1 ha u v, two_set1 h.2 hb u v⟩
end

section
/- The comparison of shares that the exact laws make. -/
open Go.RowKit
set_option linter.unusedVariables false
end

section
/- Contract of the reference's Implicit. Nothing that was there is written. -/
open Go.RowKit
set_option linter.unusedVariables false

theorem imp_bad {ts : List Tk} (h : setB ts = false) : impB ts = false := by unfold impB; rw [h]; rfl
theorem imp_not {ts : List Tk} {k : Nat} {t : Tk} (ht : ts[k]? = some t) (h : t.du ≠ t.ev) : impB ts = false := by
  cases hi : impB ts
  · rfl
  · exact absurd (imp_all hi t (List.mem_of_getElem? ht)) h
theorem imp_step {ts : List Tk} {k : Nat} {t : Tk} (ht : ts[k]? = some t) (he : t.du = t.ev) (h : ∀ u ∈ ts.take k, u.du = u.ev) : ∀ u ∈ ts.take (k + 1), u.du = u.ev := by
  obtain ⟨hk, rfl⟩ := List.getElem?_eq_some_iff.1 ht
  rw [List.take_succ_eq_append_getElem hk]
  intro u hu
  rcases List.mem_append.1 hu with hu | hu
  · exact h u hu
  · rw [List.mem_singleton.1 hu]; exact he

set_option maxHeartbeats 1000000 in
theorem sImp_is (w : World) (A : Option Addr) (n c : Nat) (ts : List Tk) (h : Tks w w.heap.size A n ts) (hn : n ≤ 1048576) (b : Bool) (hb : impB ts = b) :
    Calls Tryd.prog 40 #[.slice A n c] w (BoolRes b w) := by
  have H := Lib.hid h
  have HL := Lib.hid h.len
  clear h
  cases hs : setB ts
  · obtain rfl : b = false := by rw [← hb]; exact imp_bad hs
    have hn0 : 0 < n := by
      rw [← HL.out]
      rcases ts with _ | ⟨t, ts⟩
      · simp [setB] at hs
      · simp
    have HS := Lib.hid hs
    clear hb hs
    go_enter Tryd.func40, Tryd.ntmps40
    go_wp2
    go_loopw [3] (fun i wr => i = .int .i64 0 ∧ Hid (Below w.heap.size w wr)) (fun i _ => 0)
    case atStart => exact ⟨rfl, Lib.hid (Below.refl _ _)⟩
    case round =>
      obtain ⟨rfl, HB⟩ := hrel
      have i2 : (0 : Int) < (n : Int) := by omega
      go_wp2_with fail
      refine (sSetValid_any _ A n c ts ((H.out.below HB.out).more HB.out.size) hn).mono ?_
      rintro e w1 ⟨rfl, hb1⟩
      rw [HS.out]
      have HB1 := Lib.hid (bl_trans HB.out hb1)
      clear hb1
      go_wp2_with fail
      refine (sSetValid_any _ A n c ts ((H.out.below HB1.out).more HB1.out.size) hn).mono ?_
      rintro e w2 ⟨rfl, hb2⟩
      rw [HS.out]
      have HB2 := Lib.hid (bl_trans HB1.out hb2)
      clear hb2
      go_wp2
      refine bodyPost_ret (v := .bool false) (by simp [results, Tryd.results40, go_sem]) rfl ⟨rfl, HB2.out⟩
  have HS := Lib.hid hs
  have HI := Lib.hid hb
  clear hb hs
  go_enter Tryd.func40, Tryd.ntmps40
  go_wp2
  go_loopw [3] (fun i wr => ∃ k : Nat, k ≤ n ∧ i = .int .i64 k ∧ Hid (∀ u ∈ ts.take k, u.du = u.ev) ∧ Hid (Below w.heap.size w wr)) (fun i _ => n - (intOf i).toNat)
  case atStart => exact ⟨0, Nat.zero_le _, rfl, Lib.hid (by intro u hu; simp at hu), Lib.hid (Below.refl _ _)⟩
  case round =>
    obtain ⟨k, hk, rfl, hall, HB⟩ := hrel
    by_cases hlt : k < n
    · obtain ⟨t, ht⟩ : ∃ t, ts[k]? = some t := ⟨ts[k]'(by rw [HL.out]; exact hlt), List.getElem?_eq_getElem _⟩
      have i1 : (0 : Int) ≤ (k : Int) := by omega
      have i2 : (k : Int) < (n : Int) := by omega
      go_wp2_with fail
      refine (sSetValid_any _ A n c ts ((H.out.below HB.out).more HB.out.size) hn).mono ?_
      rintro e w1 ⟨rfl, hb1⟩
      rw [HS.out]
      have HB1 := Lib.hid (bl_trans HB.out hb1)
      clear hb1 HB
      obtain ⟨b0, o, rfl, hbl, c0, c1, c2, c3, c4⟩ := (H.out.below HB1.out).at_ k t ht
      have hno := fun hne => imp_not ht (t := t) hne
      have hyes := fun he => imp_step ht (t := t) he hall.out
      clear ht hall
      obtain ⟨lo, hi, du, ev, cr⟩ := t
      dsimp only at c0 c1 c2 c3 c4 hno hyes
      by_cases he : du = ev
      · subst he
        have hY := Lib.hid (hyes rfl)
        clear hyes hno
        have hd : (du != du) = false := by simp
        go_wp2_with fail
        go_quiet (fail)
        go_wp2
        go_roundw
        case rel => exact ⟨k + 1, by omega, by go_num, hY, Lib.hid (bl_drewN HB1.out _)⟩
        case measure => simp [intOf]; omega
      · have hN := Lib.hid (hno he)
        clear hyes hno
        have hd : (du != ev) = true := by simp; exact he
        obtain rfl : b = false := by rw [← HI.out]; exact hN.out
        go_wp2_with fail
        go_quiet (fail)
        go_wp2
        refine bodyPost_ret (v := .bool false) (by simp [results, Tryd.results40, go_sem]) rfl ⟨rfl, bl_drewN HB1.out _⟩
    · obtain rfl : k = n := by omega
      have i2 : ¬ (k : Int) < (k : Int) := by omega
      have hT : impB ts = true := imp_of HS.out (by have := hall.out; rw [List.take_of_length_le (by rw [HL.out]; omega)] at this; exact this)
      obtain rfl : b = true := by rw [← HI.out]; exact hT
      clear hT
      go_wp2_with fail
      refine (sSetValid_any _ A k c ts ((H.out.below HB.out).more HB.out.size) hn).mono ?_
      rintro e w2 ⟨rfl, hb2⟩
      rw [HS.out]
      have HB2 := Lib.hid (bl_trans HB.out hb2)
      clear hb2
      go_wp2
      refine bodyPost_ret (v := .bool true) (by simp [results, Tryd.results40, go_sem]) rfl ⟨rfl, HB2.out⟩
end

section
/- Contract of the reference's HoldsPlain. Nothing that was there is written. -/
open Go.RowKit
set_option linter.unusedVariables false

set_option maxHeartbeats 400000 in
theorem sOne_is (w : World) : Calls Tryd.prog 53 #[] w (ShRes 1 1 w) := by
  go_enter Tryd.func53, Tryd.ntmps53
  go_wp2
  refine bodyPost_ret (v := .agg #[.int .i64 1, .int .i64 1]) (by simp [results, Tryd.results53, go_sem]) rfl ⟨rfl, (by repeat (first | exact Below.refl _ _ | refine bl_drewN ?_ _ | refine Below.drew ?_ | refine bl_alloc ?_ _ | refine bl_set ?_ (by dsimp only; omega) _))⟩

set_option maxHeartbeats 1000000 in
theorem sPlain_is (w0 : World) (A : Option Addr) (n c : Nat) (ts : List Tk) (h : Tks w0 w0.heap.size A n ts) (hn : n ≤ 1048576) (b : Bool) (hb : plainV ts = b) :
    Calls Tryd.prog 33 #[.slice A n c] w0 (BoolRes b w0) := by
  have HTt := Lib.hid h
  have HL := Lib.hid h.len
  have HB0 := Lib.hid (Below.refl w0.heap.size w0)
  have HDt0 := Lib.hid (Below.refl w0.heap.size w0)
  clear h
  cases hi : impB ts
  · obtain rfl : b = false := by rw [← hb]; unfold plainV; rw [hi]; rfl
    clear hb
    go_enter Tryd.func33, Tryd.ntmps33
    go_wp2_with fail
    (try (go_quiet (fail); go_wp2_with fail))
    refine (sImp_is _ A n c ts ((HTt.out.below (by repeat (first | with_reducible exact HDt0.out | with_reducible refine Below.drew ?_ | with_reducible refine bl_drewN ?_ _ | with_reducible refine bl_alloc ?_ _) : Below w0.heap.size w0 _)).more (Below.size (by repeat (first | with_reducible exact HDt0.out | with_reducible refine Below.drew ?_ | with_reducible refine bl_drewN ?_ _ | with_reducible refine bl_alloc ?_ _) : Below w0.heap.size w0 _))) hn false hi).mono ?_
    rintro e w1 ⟨rfl, hb⟩
    have hs1 := hb.size
    have HB1 := Lib.hid (show Below w0.heap.size w0 w1 from bl_trans (by repeat (first | with_reducible exact HB0.out | with_reducible refine bl_drewN ?_ _ | with_reducible refine Below.drew ?_ | with_reducible refine bl_alloc ?_ _)) hb)
    have HDt1 := Lib.hid (show Below w0.heap.size w0 w1 from bl_trans (by repeat (first | with_reducible exact HDt0.out | with_reducible refine Below.drew ?_ | with_reducible refine bl_drewN ?_ _ | with_reducible refine bl_alloc ?_ _)) hb)
    clear hb HB0 HDt0
    go_wp2
    (try (go_quiet (fail); go_wp2))
    refine bodyPost_ret (v := .bool false) (by simp [results, Tryd.results33, go_sem]) rfl ⟨rfl, (by repeat (first | with_reducible exact HB1.out | refine bl_drewN ?_ _ | refine Below.drew ?_ | refine bl_alloc ?_ _ | refine bl_set ?_ (by dsimp only; omega) _))⟩
  have hs := imp_set hi
  obtain ⟨p, q, hpq⟩ : ∃ p q, lowOf ts false = (p, q) := ⟨_, _, rfl⟩
  obtain ⟨u, v, huv⟩ : ∃ p q, highOf ts = (p, q) := ⟨_, _, rfl⟩
  obtain ⟨x, y, z, s1, s2, s3, _, e1, e2, e3, e4⟩ := plain_pack hs hpq huv
  have hz : decide (z ≤ 0) = b := by rw [← hb, ← e4]; unfold plainV; rw [hi]; rfl
  have HI := Lib.hid hi
  have HP := Lib.hid hpq
  have HU := Lib.hid huv
  have HA := Lib.hid (And.intro s1 (And.intro s2 (And.intro e1 e2)))
  have HZ := Lib.hid e3
  clear hb hi hs hpq huv s1 s2 s3 e1 e2 e3 e4
  go_enter Tryd.func33, Tryd.ntmps33
  go_wp2_with fail
  (try (go_quiet (fail); go_wp2_with fail))
  refine (sImp_is _ A n c ts ((HTt.out.below (by repeat (first | with_reducible exact HDt0.out | with_reducible refine Below.drew ?_ | with_reducible refine bl_drewN ?_ _ | with_reducible refine bl_alloc ?_ _) : Below w0.heap.size w0 _)).more (Below.size (by repeat (first | with_reducible exact HDt0.out | with_reducible refine Below.drew ?_ | with_reducible refine bl_drewN ?_ _ | with_reducible refine bl_alloc ?_ _) : Below w0.heap.size w0 _))) hn true HI.out).mono ?_
  rintro e w1 ⟨rfl, hb⟩
  have hs1 := hb.size
  have HB1 := Lib.hid (show Below w0.heap.size w0 w1 from bl_trans (by repeat (first | with_reducible exact HB0.out | with_reducible refine bl_drewN ?_ _ | with_reducible refine Below.drew ?_ | with_reducible refine bl_alloc ?_ _)) hb)
  have HDt1 := Lib.hid (show Below w0.heap.size w0 w1 from bl_trans (by repeat (first | with_reducible exact HDt0.out | with_reducible refine Below.drew ?_ | with_reducible refine bl_drewN ?_ _ | with_reducible refine bl_alloc ?_ _)) hb)
  clear hb HB0 HDt0
  go_wp2_with fail
  (try (go_quiet (fail); go_wp2_with fail))
  refine (sLow_is _ A n c ts false ((HTt.out.below (by repeat (first | with_reducible exact HDt1.out | with_reducible refine Below.drew ?_ | with_reducible refine bl_drewN ?_ _ | with_reducible refine bl_alloc ?_ _) : Below w0.heap.size w0 _)).more (Below.size (by repeat (first | with_reducible exact HDt1.out | with_reducible refine Below.drew ?_ | with_reducible refine bl_drewN ?_ _ | with_reducible refine bl_alloc ?_ _) : Below w0.heap.size w0 _))) (by omega) p q HP.out).mono ?_
  rintro e w2 ⟨rfl, hb⟩
  have hs2 := hb.size
  have HB2 := Lib.hid (show Below w0.heap.size w0 w2 from bl_trans (by repeat (first | with_reducible exact HB1.out | with_reducible refine bl_drewN ?_ _ | with_reducible refine Below.drew ?_ | with_reducible refine bl_alloc ?_ _)) hb)
  have HDt2 := Lib.hid (show Below w0.heap.size w0 w2 from bl_trans (by repeat (first | with_reducible exact HDt1.out | with_reducible refine Below.drew ?_ | with_reducible refine bl_drewN ?_ _ | with_reducible refine bl_alloc ?_ _)) hb)
  clear hb HB1 HDt1
  go_wp2_with fail
  (try (go_quiet (fail); go_wp2_with fail))
  refine (sHigh_is _ A n c ts ((HTt.out.below (by repeat (first | with_reducible exact HDt2.out | with_reducible refine Below.drew ?_ | with_reducible refine bl_drewN ?_ _ | with_reducible refine bl_alloc ?_ _) : Below w0.heap.size w0 _)).more (Below.size (by repeat (first | with_reducible exact HDt2.out | with_reducible refine Below.drew ?_ | with_reducible refine bl_drewN ?_ _ | with_reducible refine bl_alloc ?_ _) : Below w0.heap.size w0 _))) (by omega) u v HU.out).mono ?_
  rintro e w3 ⟨rfl, hb⟩
  have hs3 := hb.size
  have HB3 := Lib.hid (show Below w0.heap.size w0 w3 from bl_trans (by repeat (first | with_reducible exact HB2.out | with_reducible refine bl_drewN ?_ _ | with_reducible refine Below.drew ?_ | with_reducible refine bl_alloc ?_ _)) hb)
  have HDt3 := Lib.hid (show Below w0.heap.size w0 w3 from bl_trans (by repeat (first | with_reducible exact HDt2.out | with_reducible refine Below.drew ?_ | with_reducible refine bl_drewN ?_ _ | with_reducible refine bl_alloc ?_ _)) hb)
  clear hb HB2 HDt2
  go_wp2_with fail
  (try (go_quiet (fail); go_wp2_with fail))
  refine (l2_is _ p q u v x y true HA.out.1 HA.out.2.1 HA.out.2.2.1 HA.out.2.2.2).mono ?_
  rintro e w4 ⟨rfl, hb⟩
  have hs4 := hb.size
  have HB4 := Lib.hid (show Below w0.heap.size w0 w4 from bl_trans (by repeat (first | with_reducible exact HB3.out | with_reducible refine bl_drewN ?_ _ | with_reducible refine Below.drew ?_ | with_reducible refine bl_alloc ?_ _)) hb)
  have HDt4 := Lib.hid (show Below w0.heap.size w0 w4 from bl_trans (by repeat (first | with_reducible exact HDt3.out | with_reducible refine Below.drew ?_ | with_reducible refine bl_drewN ?_ _ | with_reducible refine bl_alloc ?_ _)) hb)
  clear hb HB3 HDt3
  have hS4 := (Blk.two (show Blk (w4.alloc (.cells #[.int .i64 (x : Int), .int .i64 (y : Int)] 27)) (w4.heap.size) 27 #[.int .i64 (x : Int), .int .i64 (y : Int)] from by have hh := Blk.new w4 27 #[.int .i64 (x : Int), .int .i64 (y : Int)]; (try simp only [World.size_alloc] at hh); repeat (first | exact hh | with_reducible refine Blk.alloc ?_ _)))
  go_wp2_with fail
  go_region_held3 (fun W => (W.cell? ⟨w4.heap.size, 0, none⟩ = some (.int .i64 (x : Int)) ∧ W.cell? ⟨w4.heap.size, 1, none⟩ = some (.int .i64 (y : Int)))) (first | exact hS4 | exact hS5 | exact hS6)
    ((first
      | (go_at_call 53; refine (sOne_is _).mono ?_; rintro e w5 ⟨rfl, hb⟩; have hs5 := hb.size; have HB5 := Lib.hid (show Below w0.heap.size w0 w5 from bl_trans (by repeat (first | with_reducible exact HB4.out | with_reducible refine bl_drewN ?_ _ | with_reducible refine Below.drew ?_ | with_reducible refine bl_alloc ?_ _)) hb); have bs5 := Lib.hid (show Blk w5 (w4.heap.size) 27 #[.int .i64 (x : Int), .int .i64 (y : Int)] from Blk.below (by have hh := Blk.new w4 27 #[.int .i64 (x : Int), .int .i64 (y : Int)]; (try simp only [World.size_alloc] at hh); repeat (first | exact hh | with_reducible refine Blk.drewN ?_ _ | with_reducible refine Blk.drew ?_ | with_reducible refine Blk.alloc ?_ _)) hb (by first | omega | (simp; done) | (simp; omega))); have cs := bs5.out.cell; have HDt5 := Lib.hid (show Below w0.heap.size w0 w5 from bl_trans (by repeat (first | with_reducible exact HDt4.out | with_reducible refine Below.drew ?_ | with_reducible refine bl_drewN ?_ _ | with_reducible refine bl_alloc ?_ _)) hb); have hS5 := Blk.two bs5.out; clear hb)
      | (go_at_call 52; refine (sCmp_is _ x y 1 1 z HZ.out).mono ?_; rintro e w6 ⟨rfl, hb⟩; have hs6 := hb.size; have HB6 := Lib.hid (show Below w0.heap.size w0 w6 from bl_trans (by repeat (first | with_reducible exact HB5.out | with_reducible refine bl_drewN ?_ _ | with_reducible refine Below.drew ?_ | with_reducible refine bl_alloc ?_ _)) hb); have bs6 := Lib.hid (show Blk w6 (w4.heap.size) 27 #[.int .i64 (x : Int), .int .i64 (y : Int)] from Blk.below (by repeat (first | with_reducible exact bs5.out | with_reducible refine Blk.drewN ?_ _ | with_reducible refine Blk.drew ?_ | with_reducible refine Blk.alloc ?_ _)) hb (by have := bs5.out.lt; first | exact this | omega | (simp; omega))); have cs := bs6.out.cell; have HDt6 := Lib.hid (show Below w0.heap.size w0 w6 from bl_trans (by repeat (first | with_reducible exact HDt5.out | with_reducible refine Below.drew ?_ | with_reducible refine bl_drewN ?_ _ | with_reducible refine bl_alloc ?_ _)) hb); have hS6 := Blk.two bs6.out; clear hb)))
  have hks6 := bs6.out.lt
  have cs := bs6.out.cell
  go_wp2
  (try (go_quiet (fail); go_wp2))
  refine bodyPost_ret (v := .bool b) (by simp [results, Tryd.results33, go_sem]) rfl ⟨rfl, (by repeat (first | with_reducible exact HB6.out | refine bl_drewN ?_ _ | refine Below.drew ?_ | refine bl_alloc ?_ _ | refine bl_set ?_ (by dsimp only; omega) _))⟩
end

section
/- Contract of the reference's l3At: whether a list is valid and has a place. -/
open Go.RowKit
set_option linter.unusedVariables false

set_option maxHeartbeats 1000000 in
theorem sAt5_is (w : World) (A : Option Addr) (n c : Nat) (ts : List Tk) (a : Int) (h : Tks w w.heap.size A n ts) (hn : n ≤ 1048576) (b : Bool) (hb : (setB ts && (decide (0 ≤ a) && decide (a < (n : Int)))) = b) :
    Calls Tryd.prog 63 #[.slice A n c, .int .i64 a] w fun e w' => e = .returned (.bool b) ∧ Below w.heap.size w w' := by
  have H := Lib.hid h
  clear h
  cases hs : setB ts
  · subst hb
    go_enter Tryd.func63, Tryd.ntmps63
    go_wp2_with (go_at_call 64; refine (sSetValid_any _ A n c ts H.out hn).mono ?_; rintro e w2 ⟨rfl, hb2⟩)
    go_ret
    exact ⟨by simp [hs], hb2⟩
  rw [hs, Bool.true_and] at hb
  by_cases h0 : 0 ≤ a
  · by_cases h1 : a < (n : Int)
    · rw [decide_eq_true h0, decide_eq_true h1] at hb
      subst hb
      go_enter Tryd.func63, Tryd.ntmps63
      go_wp2_with (go_at_call 64; refine (sSetValid_any _ A n c ts H.out hn).mono ?_; rintro e w2 ⟨rfl, hb2⟩)
      go_ret
      exact ⟨by simp [*], hb2⟩
    · rw [decide_eq_true h0, decide_eq_false h1] at hb
      subst hb
      go_enter Tryd.func63, Tryd.ntmps63
      go_wp2_with (go_at_call 64; refine (sSetValid_any _ A n c ts H.out hn).mono ?_; rintro e w2 ⟨rfl, hb2⟩)
      go_ret
      exact ⟨by simp [*], hb2⟩
  · rw [decide_eq_false h0] at hb
    subst hb
    go_enter Tryd.func63, Tryd.ntmps63
    go_wp2_with (go_at_call 64; refine (sSetValid_any _ A n c ts H.out hn).mono ?_; rintro e w2 ⟨rfl, hb2⟩)
    go_ret
    exact ⟨by simp [*], hb2⟩


theorem due_pack {ts : List Tk} (h : facB ts = true) {t : Tk} (ht : t ∈ ts) {X Y : Nat} (hX : facV ts = (X, Y)) :
    1 ≤ t.du ∧ t.du ≤ 20 ∧ X ≤ 3200000 ∧ Y ≤ 3200000 ∧ (t.cr = false → dueT ts t = (t.du.toNat, 1)) ∧ (t.cr = true → ∃ M P Q : Nat, (X : Int) * t.du = (M : Int) ∧ mkS M Y = (P, Q) ∧ mkB M Y = true ∧ dueT ts t = (P, Q) ∧ M ≤ 64000000) := by
  obtain ⟨f1, f2, f3⟩ := facV_sh h
  have hd := imp_all (fac_imp h) t ht
  obtain ⟨n1, n2, n3, n4⟩ := ok_nums (ok_of_set (imp_set (fac_imp h)) ht)
  rw [hX] at f1 f2 f3
  dsimp only at f1 f2 f3
  refine ⟨by omega, by omega, by omega, f3, fun hc => by unfold dueT; rw [hc]; rfl, fun hc => ?_⟩
  have hM : X * t.du.toNat ≤ 64000000 := Nat.le_trans (Nat.mul_le_mul (Nat.le_trans f2 f3) (by omega : t.du.toNat ≤ 20)) (by decide)
  obtain ⟨P, Q, hPQ⟩ : ∃ P Q, redN (X * t.du.toNat) Y = (P, Q) := ⟨_, _, rfl⟩
  refine ⟨X * t.du.toNat, P, Q, ?_, ?_, nat_mk (by omega) f1.pos f1.den, ?_, hM⟩
  · rw [Int.natCast_mul, Int.toNat_of_nonneg (by omega)]
  · rw [mkS_nat (by omega) f1.pos f1.den]; exact hPQ
  · unfold dueT; rw [hc, hX]; exact hPQ
theorem dueV_at {ts : List Tk} (h : facB ts = true) {k : Nat} {t : Tk} (ht : ts[k]? = some t) : dueV ts (k : Int) = dueT ts t := by
  have hk := (List.getElem?_eq_some_iff.1 ht).1
  have e : dueB ts (k : Int) = true := by unfold dueB atB; rw [h]; simp; omega
  unfold dueV
  rw [e, if_pos rfl]
  simp [List.getD, ht]
theorem dueV_no {ts : List Tk} {a : Int} (h : dueB ts a = false) : dueV ts a = (0, 0) := by unfold dueV; rw [h]; rfl
end

end Go.Proofs.YtpngfonnoepmfaaDoor
