/- Texts of this seat in one file: Low. -/
import Derived.Test.YtobkbbgllapcoabDoorM2
import Derived.Test.YtobkbbgllapcoabDoorM1
import Derived.RegionTactic
import Derived.ChangeAlike
namespace Go.Proofs.YtobkbbgllapcoabDoor

section
/- Contracts of LowShare and HighShare, in the program and in the reference: both return the sum of the shares of the tasks. Nothing that was there is written. -/
open Go.RowKit
set_option linter.unusedVariables false

def ShRes (p q : Nat) (w : World) (e : Ending) (w' : World) : Prop := e = .returned (.agg #[.int .i64 (p : Int), .int .i64 (q : Int)]) ∧ Below w.heap.size w w'

set_option maxHeartbeats 1000000 in
theorem plus2_is (w : World) (e0 : Addr) (he : EG w e0) (u v x y p q : Nat) (hp : plusS u v x y = (p, q)) (hpb : plusB u v x y = true) :
    Calls Tryd.prog 46 #[.agg #[.int .i64 (u : Int), .int .i64 (v : Int)], .agg #[.int .i64 (x : Int), .int .i64 (y : Int)]] w (ShRes p q w) := by
  have HE := Lib.hid he
  have HP := Lib.hid (And.intro hp hpb)
  clear hp hpb he
  go_enter Tryd.func46, Tryd.ntmps46
  go_wp2_with fail
  (try (go_quiet (fail); go_wp2_with fail))
  refine (iAdd_is _ e0 (by repeat (first | exact HE.out | refine EG.drewN ?_ _ | refine EG.drew ?_ | refine EG.alloc ?_ _)) u v x y p q true HP.out.1 HP.out.2).mono ?_
  rintro e w2 ⟨rfl, hb⟩
  have HB2 := Lib.hid (show Below w.heap.size w w2 from bl_trans (by repeat (first | exact Below.refl w.heap.size w | refine bl_drewN ?_ _ | refine Below.drew ?_ | refine bl_alloc ?_ _)) hb)
  have bR2 := Lib.hid (show Blk w2 (w.heap.size + 1 + 1) 27 #[.int .i64 0, .int .i64 0] from Blk.below (by have h := Blk.new ((w.alloc (.cells #[.int .i64 (u : Int), .int .i64 (v : Int)] 27)).alloc (.cells #[.int .i64 (x : Int), .int .i64 (y : Int)] 27)) 27 #[.int .i64 0, .int .i64 0]; simp only [World.size_alloc] at h; repeat (first | with_reducible exact h | refine Blk.drewN ?_ _ | refine Blk.drew ?_)) hb (by simp))
  clear hb
  have cR0 := bR2.out.cell
  have fR0 := bR2.out.frozen
  have cR := fun o => (bR2.out.alloc o).cell
  have fR := fun o => (bR2.out.alloc o).frozen
  have cF := fun (s t : Value) o => (((bR2.out.alloc o).set_ 0 s).set_ 1 t).cell
  go_wp2
  (try go_region)
  all_goals (try go_wp2)
  all_goals refine bodyPost_ret (v := .agg #[.int .i64 (p : Int), .int .i64 (q : Int)]) (by simp [results, Tryd.results46, go_sem, cF]) rfl ⟨rfl, (by repeat (first | with_reducible exact HB2.out | refine bl_drewN ?_ _ | refine Below.drew ?_ | refine bl_alloc ?_ _ | refine bl_set ?_ (by dsimp only; omega) _))⟩

set_option maxHeartbeats 1000000 in
theorem plus_is (w : World) (e0 : Addr) (he : EG w e0) (u v : Nat) (lo hi du ev : Int) (cr : Bool) (x y p q : Nat) (hm : mkS lo ev = (x, y)) (hb : mkB lo ev = true) (hp : plusS u v x y = (p, q)) (hpb : plusB u v x y = true) :
    Calls Tryd.prog 23 #[.agg #[.int .i64 (u : Int), .int .i64 (v : Int)], .agg #[.int .i64 lo, .int .i64 hi, .int .i64 du, .int .i64 ev, .bool cr]] w (ShRes p q w) := by
  have HE := Lib.hid he
  have HM := Lib.hid (And.intro hm hb)
  have HP := Lib.hid (And.intro hp hpb)
  clear hm hb hp hpb he
  go_enter Tryd.func23, Tryd.ntmps23
  go_wp2_with fail
  (try (go_quiet (fail); go_wp2_with fail))
  refine (iMake_is _ lo ev x y true HM.out.1 HM.out.2).mono ?_
  rintro e w1 ⟨rfl, hb⟩
  have HB1 := Lib.hid (show Below w.heap.size w w1 from bl_trans (by repeat (first | exact Below.refl w.heap.size w | refine bl_drewN ?_ _ | refine Below.drew ?_ | refine bl_alloc ?_ _)) hb)
  have bS1 := Lib.hid (show Blk w1 w.heap.size 27 #[.int .i64 (u : Int), .int .i64 (v : Int)] from Blk.below (by repeat (first | with_reducible exact Blk.new w 27 #[.int .i64 (u : Int), .int .i64 (v : Int)] | refine Blk.drewN ?_ _ | refine Blk.drew ?_ | refine Blk.alloc ?_ _)) hb (by simp; omega))
  have bR1 := Lib.hid (show Blk w1 (w.heap.size + 1 + 1) 27 #[.int .i64 0, .int .i64 0] from Blk.below (by have h := Blk.new ((w.alloc (.cells #[.int .i64 (u : Int), .int .i64 (v : Int)] 27)).alloc (.cells #[.int .i64 lo, .int .i64 hi, .int .i64 du, .int .i64 ev, .bool cr] 48)) 27 #[.int .i64 0, .int .i64 0]; simp only [World.size_alloc] at h; repeat (first | with_reducible exact h | refine Blk.drewN ?_ _ | refine Blk.drew ?_)) hb (by simp))
  clear hb
  have cS0 := bS1.out.cell
  have cS := fun o => (bS1.out.alloc o).cell
  go_wp2_with fail
  (try (go_quiet (fail); go_wp2_with fail))
  refine (plus2_is _ e0 (by repeat (first | exact HE.out.below HB1.out | refine EG.drewN ?_ _ | refine EG.drew ?_ | refine EG.alloc ?_ _)) u v x y p q HP.out.1 HP.out.2).mono ?_
  rintro e w2 ⟨rfl, hb⟩
  have HB2 := Lib.hid (show Below w.heap.size w w2 from bl_trans (by repeat (first | with_reducible exact HB1.out | refine bl_drewN ?_ _ | refine Below.drew ?_ | refine bl_alloc ?_ _)) hb)
  have bR2 := Lib.hid (show Blk w2 (w.heap.size + 1 + 1) 27 #[.int .i64 0, .int .i64 0] from Blk.below (by repeat (first | with_reducible exact bR1.out | refine Blk.drewN ?_ _ | refine Blk.drew ?_ | refine Blk.alloc ?_ _)) hb (by have := bR1.out.lt; first | exact this | (simp; omega)))
  clear hb cS0 cS bS1 bR1 HB1
  have cR0 := bR2.out.cell
  have fR0 := bR2.out.frozen
  have cF := fun (s t : Value) => ((bR2.out.set_ 0 s).set_ 1 t).cell
  go_wp2
  (try go_region)
  all_goals (try go_wp2)
  all_goals refine bodyPost_ret (v := .agg #[.int .i64 (p : Int), .int .i64 (q : Int)]) (by simp [results, Tryd.results23, go_sem, cF]) rfl ⟨rfl, (by repeat (first | with_reducible exact HB2.out | refine bl_drewN ?_ _ | refine Below.drew ?_ | refine bl_alloc ?_ _ | refine bl_set ?_ (by dsimp only; omega) _))⟩

set_option maxHeartbeats 1000000 in
theorem iLow_is (w : World) (A : Option Addr) (n c : Nat) (ts : List Tk) (cr : Bool) (h : Tks w w.heap.size A n ts) (hn : n ≤ 1048576) (e0 : Addr) (he : EG w e0) (p q : Nat) (hpq : lowOf ts cr = (p, q)) :
    Calls Tryd.prog 9 #[.slice A n c, .bool cr] w (ShRes p q w) := by
  have H := Lib.hid h
  have HL := Lib.hid h.len
  have HE := Lib.hid he
  clear h he
  cases hs : setB ts
  · obtain ⟨rfl, rfl⟩ := Prod.mk.inj ((lowOf_bad cr hs).symm.trans hpq)
    clear hpq
    go_enter Tryd.func9, Tryd.ntmps9
    go_wp2_with fail
    refine (iSetValid_any _ A n c ts ((H.out.below (by repeat (first | exact Below.refl w.heap.size w | refine bl_alloc ?_ _))).more (by simp)) hn).mono ?_
    rintro e w1 ⟨rfl, hb⟩
    have HB1 := Lib.hid (show Below w.heap.size w w1 from bl_trans (by repeat (first | exact Below.refl w.heap.size w | refine bl_alloc ?_ _)) hb)
    have bR1 := Lib.hid (Blk.below (Blk.new w 27 #[.int .i64 0, .int .i64 0]) hb (by simp))
    have cR := bR1.out.cell
    have fR := bR1.out.frozen
    clear hb
    go_wp2
    refine bodyPost_ret (v := .agg #[.int .i64 0, .int .i64 0]) (by simp [results, Tryd.results9, go_sem, cR]) rfl ⟨rfl, (by repeat (first | with_reducible exact HB1.out | refine bl_drewN ?_ _ | refine Below.drew ?_ | refine bl_alloc ?_ _ | refine bl_set ?_ (by dsimp only; omega) _))⟩
  have h5 : n ≤ 5 := by have := setB_len hs; rw [HL.out] at this; exact this
  have HS := Lib.hid hs
  have hpq' : lowL ts cr = (p, q) := by rw [← hpq]; unfold lowOf; rw [hs]; rfl
  have HPQ := Lib.hid hpq'
  clear hpq hpq' hs
  go_enter Tryd.func9, Tryd.ntmps9
  go_wp2_with fail
  refine (iSetValid_any _ A n c ts ((H.out.below (by repeat (first | exact Below.refl w.heap.size w | refine bl_alloc ?_ _))).more (by simp)) hn).mono ?_
  rintro e w1 ⟨rfl, hb⟩
  rw [HS.out]
  have HB1 := Lib.hid (show Below w.heap.size w w1 from bl_trans (by repeat (first | exact Below.refl w.heap.size w | refine bl_alloc ?_ _)) hb)
  have bR1 := Lib.hid (Blk.below (Blk.new w 27 #[.int .i64 0, .int .i64 0]) hb (by simp))
  have hlt1 := bR1.out.lt
  clear hb
  go_wp2
  go_loopw [15] (fun i wr => ∃ k u v : Nat, k ≤ n ∧ i = .int .i64 k ∧ Hid (lowL (ts.take k) cr = (u, v)) ∧ Hid (Blk wr w1.heap.size 27 #[.int .i64 (u : Int), .int .i64 (v : Int)]) ∧ Hid (Blk wr w.heap.size 27 #[.int .i64 0, .int .i64 0]) ∧ Hid (Below w.heap.size w wr)) (fun i _ => n - (intOf i).toNat)
  case atStart => exact ⟨0, 0, 1, Nat.zero_le _, rfl, by show _ = _; rfl, Blk.new w1 27 _, bR1.out.alloc _, bl_alloc HB1.out _⟩
  case round =>
    obtain ⟨k, u, v, hk, rfl, huv, bU, bR, HB⟩ := hrel
    have hltU := bU.out.lt
    by_cases hlt : k < n
    · obtain ⟨t, ht⟩ : ∃ t, ts[k]? = some t := ⟨ts[k]'(by rw [HL.out]; exact hlt), List.getElem?_eq_getElem _⟩
      obtain ⟨b, o, rfl, hbl, c0, c1, c2, c3, c4⟩ := (H.out.below HB.out).at_ k t ht
      by_cases hc : t.cr = cr
      · obtain ⟨x, y, u', v', g1, g2, g3, g4, g5, _, _⟩ := low_step HS.out ht hc huv.out
        have HG := Lib.hid (And.intro g1 (And.intro g2 (And.intro g4 g3)))
        have HT := Lib.hid g5
        clear ht g1 g2 g3 g4 g5
        obtain ⟨lo, hi, du, ev, cr'⟩ := t
        dsimp only at c0 c1 c2 c3 c4 hc HG
        subst hc
        have cU := fun o => (bU.out.alloc o).cell
        have hcb : (cr' == cr') = true := by simp
        go_wp2_with fail
        refine (plus_is _ e0 (by repeat (first | exact HE.out.below HB.out | refine EG.drewN ?_ _ | refine EG.drew ?_ | refine EG.alloc ?_ _)) u v lo hi du ev cr' x y u' v' HG.out.1 HG.out.2.1 HG.out.2.2.1 HG.out.2.2.2).mono ?_
        rintro e w2 ⟨rfl, hb⟩
        have HB2 := Lib.hid (show Below w.heap.size w w2 from bl_trans (by repeat (first | with_reducible exact HB.out | refine bl_drewN ?_ _ | refine Below.drew ?_ | refine bl_alloc ?_ _)) hb)
        have bU2 := Lib.hid (show Blk w2 w1.heap.size 27 #[.int .i64 (u : Int), .int .i64 (v : Int)] from Blk.below (by repeat (first | with_reducible exact bU.out | refine Blk.drewN ?_ _ | refine Blk.drew ?_ | refine Blk.alloc ?_ _)) hb (by have := bU.out.lt; first | exact this | (simp; omega)))
        have bR2 := Lib.hid (show Blk w2 w.heap.size 27 #[.int .i64 0, .int .i64 0] from Blk.below (by repeat (first | with_reducible exact bR.out | refine Blk.drewN ?_ _ | refine Blk.drew ?_ | refine Blk.alloc ?_ _)) hb (by have := bR.out.lt; first | exact this | (simp; omega)))
        clear hb cU
        have cU2 := bU2.out.cell
        have fU2 := bU2.out.frozen
        have hs2 := HB2.out.size
        go_wp2
        go_roundw
        case rel => exact ⟨k + 1, u', v', by omega, by go_num, HT, (bU2.out.set_ 0 (.int .i64 (u' : Int))).set_ 1 (.int .i64 (v' : Int)), (bR2.out.far (by dsimp only; omega) _).far (by dsimp only; omega) _, bl_set (bl_set HB2.out (by dsimp only; omega) _) (by dsimp only; omega) _⟩
        case measure => simp [intOf]; omega
      · have hno := (lowL_no ht hc).trans huv.out
        have HT := Lib.hid hno
        clear ht hno
        obtain ⟨lo, hi, du, ev, cr'⟩ := t
        dsimp only at c0 c1 c2 c3 c4 hc
        have hcb : (cr' == cr) = false := by simpa using hc
        go_wp2
        go_roundw
        case rel => exact ⟨k + 1, u, v, by omega, by go_num, HT, bU.out.alloc _, bR.out.alloc _, bl_alloc HB.out _⟩
        case measure => simp [intOf]; omega
    · obtain rfl : k = n := by omega
      have hpq : (u, v) = (p, q) := by rw [← huv.out, ← HPQ.out, List.take_of_length_le (by rw [HL.out]; omega)]
      obtain ⟨rfl, rfl⟩ := Prod.mk.inj hpq
      clear hpq
      have cU := bU.out.cell
      have cR := bR.out.cell
      have fR := bR.out.frozen
      have cF := fun (s t : Value) => ((bR.out.set_ 0 s).set_ 1 t).cell
      go_wp2
      refine bodyPost_ret (v := .agg #[.int .i64 (u : Int), .int .i64 (v : Int)]) (by simp [results, Tryd.results9, go_sem, cF]) rfl ⟨rfl, (by repeat (first | with_reducible exact HB.out | refine bl_drewN ?_ _ | refine Below.drew ?_ | refine bl_alloc ?_ _ | refine bl_set ?_ (by dsimp only; omega) _))⟩
end

end Go.Proofs.YtobkbbgllapcoabDoor
