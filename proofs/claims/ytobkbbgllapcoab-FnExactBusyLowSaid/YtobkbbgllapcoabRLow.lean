/- Contracts of the program's ResponseLow and of what it calls: sums of demands, its closure. Nothing that was there is written. -/
import Derived.Test.YtobkbbgllapcoabDem
import Derived.Test.YtobkbbgllapcoabLeast
import Derived.Test.YtobkbbgllapcoabTwo0
import Derived.Deep.RegionHeld3
namespace Go.Proofs.Ytobkbbgllapcoab
open Go.RowKit
set_option linter.unusedVariables false

def NumIs (m : Nat) (w : World) (e : Ending) (w' : World) : Prop := e = .returned (.int .i64 (m : Int)) ∧ Below w.heap.size w w'

theorem take_all {ts : List Tk} {k : Nat} (h : ts.length ≤ k) : ts.take k = ts := List.take_of_length_le h
theorem get_at {ts : List Tk} {k n : Nat} (h : ts.length = n) (hk : k < n) : ∃ t, ts[k]? = some t := ⟨ts[k]'(by omega), List.getElem?_eq_getElem _⟩

set_option maxHeartbeats 1000000 in
theorem iDemLow_is (w : World) (A : Option Addr) (n c : Nat) (ts : List Tk) (h : Tks w w.heap.size A n ts) (hs : setB ts = true) (x m : Nat) (hx : x ≤ 10000000) (hm : dLow ts x = m) :
    Calls Try.prog 57 #[.slice A n c, .int .i64 (x : Int)] w (NumIs m w) := by
  have H := Lib.hid h
  have HL := Lib.hid h.len
  have HS := Lib.hid hs
  have HM := Lib.hid hm
  have h5 : n ≤ 5 := by have := setB_len hs; rw [HL.out] at this; exact this
  clear h hs hm
  go_enter Try.func57, Try.ntmps57
  go_wp2
  go_loopw [5, 10] (fun s i wr => ∃ k : Nat, k ≤ n ∧ i = .int .i64 k ∧ s = .int .i64 (dLow (ts.take k) x : Nat) ∧ Below w.heap.size w wr) (fun _ i _ => n - (intOf i).toNat)
  case atStart => exact ⟨0, Nat.zero_le _, rfl, rfl, Below.refl _ _⟩
  case round =>
    obtain ⟨k, hk, rfl, rfl, hb⟩ := hrel
    have HB := Lib.hid hb
    clear hb
    by_cases hlt : k < n
    · obtain ⟨t, ht⟩ := get_at HL.out hlt
      obtain ⟨b, o, rfl, hbl, c0, c1, c2, c3, c4⟩ := (H.out.below HB.out).at_ k t ht
      have HT := Lib.hid (dLow_take ht x)
      have HV := Lib.hid (set_ok HS.out (get_mem ht))
      have hb1 := dLow_bound (set_take HS.out k) x
      have hb2 := dmd_bound HV.out x false
      obtain ⟨lo, hi, du, ev, cr⟩ := t
      dsimp only at c0 c1 c2 c3 c4
      obtain ⟨d, hd⟩ : ∃ d, dmd ⟨lo, hi, du, ev, cr⟩ x false = d := ⟨_, rfl⟩
      rw [hd] at hb2
      have HT' : Hid (dLow (ts.take (k + 1)) x = dLow (ts.take k) x + d) := by have := HT.out; rw [hd] at this; exact this
      have HD := Lib.hid hd
      clear ht hd HT
      generalize dLow (ts.take k) x = s at *
      have hsz := HB.out.size
      go_wp2_with (go_at_call 61; refine (iDemand_is _ lo hi du ev cr x false d HV.out (by omega) HD.out).mono ?_; rintro e w2 ⟨rfl, rfl⟩)
      go_roundw
      case rel => exact ⟨k + 1, by omega, by go_num, by rw [HT'.out]; go_num, by repeat (first | with_reducible exact HB.out | refine bl_alloc ?_ _ | refine bl_set ?_ (by simp; omega) _)⟩
      case measure => simp [intOf]; omega
    · obtain rfl : k = n := by omega
      have hbd := dLow_bound HS.out x
      have HE : Hid (dLow (ts.take k) x = m) := by show _ = _; rw [take_all (by rw [HL.out]; omega)]; exact HM.out
      go_wp2
      go_ret
      exact ⟨by rw [HE.out]; rfl, HB.out⟩

set_option maxHeartbeats 1000000 in
theorem iCloLow_is (w : World) (Bt Bs : Nat) (A : Option Addr) (k c : Nat) (us : List Tk) (lo : Nat) (hT : w.cell? ⟨Bt, 0, none⟩ = some (.int .i64 (lo : Int))) (hS : w.cell? ⟨Bs, 0, none⟩ = some (.slice A k c)) (hTs : Tks w w.heap.size A k us) (hs : setB us = true) (hlo : lo ≤ 20) (x m : Nat) (hx : x ≤ 10000000) (hm : lo + dLow us x = m) (hbt : Bt < w.heap.size) (hbs : Bs < w.heap.size) :
    Calls Try.prog 64 #[.int .i64 (x : Int), .pointer (some ⟨Bt, 0, none⟩), .pointer (some ⟨Bs, 0, none⟩)] w (NumIs m w) := by
  have H := Lib.hid hTs
  have HS := Lib.hid hs
  obtain ⟨d, hd⟩ : ∃ d, dLow us x = d := ⟨_, rfl⟩
  have hdb := dLow_bound hs x
  rw [hd] at hm hdb
  subst hm
  have HD := Lib.hid hd
  have kw : IntKind.i64.wrap ((lo : Int) + (d : Int)) = (lo : Int) + (d : Int) := IntWalk.i64_in _ (by omega)
  have hS0 : w.cell? ⟨Bt, 0, none⟩ = some (.int .i64 (lo : Int)) ∧ w.cell? ⟨Bs, 0, none⟩ = some (.slice A k c) := ⟨hT, hS⟩
  clear hTs hs hd
  go_enter Try.func64, Try.ntmps64
  go_wp2_with fail
  go_region_held3 (fun W => W.cell? ⟨Bt, 0, none⟩ = some (.int .i64 (lo : Int)) ∧ W.cell? ⟨Bs, 0, none⟩ = some (.slice A k c)) (first | exact hS0 | exact hS2)
    ((first
      | (go_at_call 57; refine (iDemLow_is _ A k c us ?_ HS.out x d hx HD.out).mono ?_; exact H.out.below (by repeat (first | with_reducible exact Below.refl w.heap.size w | with_reducible refine Below.drew ?_ | with_reducible refine bl_drewN ?_ _)); rintro e w2 ⟨rfl, hb⟩; have HB2 := Lib.hid (show Below w.heap.size w w2 from bl_trans (by repeat (first | with_reducible exact Below.refl w.heap.size w | with_reducible refine bl_drewN ?_ _ | with_reducible refine Below.drew ?_)) hb); have hS2 : w2.cell? ⟨Bt, 0, none⟩ = some (.int .i64 (lo : Int)) ∧ w2.cell? ⟨Bs, 0, none⟩ = some (.slice A k c) := ⟨(HB2.out.cell (p := ⟨Bt, 0, none⟩) hbt).trans hT, (HB2.out.cell (p := ⟨Bs, 0, none⟩) hbs).trans hS⟩; clear hb)))
  go_wp2
  go_ret
  exact ⟨by first | rfl | go_num, HB2.out⟩

set_option maxHeartbeats 1000000 in
theorem iHas_is (w : World) (A : Option Addr) (n c : Nat) (ts : List Tk) (a : Int) (h : Tks w w.heap.size A n ts) (hn : n ≤ 1048576) (b : Bool) (hb : (setB ts && (decide (0 ≤ a) && decide (a < (n : Int)))) = b) :
    Calls Try.prog 63 #[.slice A n c, .int .i64 a] w fun e w' => e = .returned (.bool b) ∧ Below w.heap.size w w' := by
  have H := Lib.hid h
  clear h
  cases hs : setB ts
  · subst hb
    go_enter Try.func63, Try.ntmps63
    go_wp2_with (go_at_call 22; refine (iSetValid_any _ A n c ts H.out hn).mono ?_; rintro e w2 ⟨rfl, hb2⟩)
    go_ret
    exact ⟨by simp [hs], hb2⟩
  rw [hs, Bool.true_and] at hb
  by_cases h0 : 0 ≤ a
  · by_cases h1 : a < (n : Int)
    · rw [decide_eq_true h0, decide_eq_true h1] at hb
      subst hb
      go_enter Try.func63, Try.ntmps63
      go_wp2_with (go_at_call 22; refine (iSetValid_any _ A n c ts H.out hn).mono ?_; rintro e w2 ⟨rfl, hb2⟩)
      go_ret
      exact ⟨by simp [*], hb2⟩
    · rw [decide_eq_true h0, decide_eq_false h1] at hb
      subst hb
      go_enter Try.func63, Try.ntmps63
      go_wp2_with (go_at_call 22; refine (iSetValid_any _ A n c ts H.out hn).mono ?_; rintro e w2 ⟨rfl, hb2⟩)
      go_ret
      exact ⟨by simp [*], hb2⟩
  · rw [decide_eq_false h0] at hb
    subst hb
    go_enter Try.func63, Try.ntmps63
    go_wp2_with (go_at_call 22; refine (iSetValid_any _ A n c ts H.out hn).mono ?_; rintro e w2 ⟨rfl, hb2⟩)
    go_ret
    exact ⟨by simp [*], hb2⟩

theorem cloLow_next (w : World) (Bt Bs : Nat) (A : Option Addr) (k c : Nat) (us : List Tk) (lo hi du : Nat) (h1 h2 h3 h4 : Value) (hT : Blk w Bt 32 #[.int .i64 (lo : Int), h1, h2, h3, h4]) (hS : Blk w Bs 23 #[.slice A k c]) (hTs : Tks w w.heap.size A k us) (hs : setB us = true) (hlo : lo ≤ 20) (hdu : du ≤ 10000000) :
    NextIs 64 #[.pointer (some ⟨Bt, 0, none⟩), .pointer (some ⟨Bs, 0, none⟩)] (fun x => lo + dLow us x) lo du w := fun W x h1 h2 hb =>
  iCloLow_is W Bt Bs A k c us lo ((hb.cell (p := ⟨Bt, 0, none⟩) hT.lt).trans (hT.cell 0)) ((hb.cell (p := ⟨Bs, 0, none⟩) hS.lt).trans (hS.cell 0)) ((hTs.below hb).more hb.size) hs hlo x _ (by omega) rfl (Nat.lt_of_lt_of_le hT.lt hb.size) (Nat.lt_of_lt_of_le hS.lt hb.size)
theorem blk_second (w : World) (o : Obj) (t : TypeId) (cs : Array Value) : Blk ((w.alloc o).alloc (.cells cs t)) (w.heap.size + 1) t cs := by
  have h := Blk.new (w.alloc o) t cs
  simp only [World.size_alloc] at h
  exact h

/-- A task's longest response at a place that may be none. -/
def atI (f : Nat → Option Nat) (a : Int) : Option Nat := if 0 ≤ a then f a.toNat else none

set_option maxRecDepth 100000 in
set_option maxHeartbeats 2000000 in
theorem iRLow_is (w : World) (A : Option Addr) (n c : Nat) (ts : List Tk) (a : Int) (h : Tks w w.heap.size A n ts) (hn : n ≤ 1048576) (hnc : n ≤ c) (v : Nat) (b : Bool) (hv : resN (atI (rLow ts) a) = (v, b)) :
    Calls Try.prog 32 #[.slice A n c, .int .i64 a] w (NbRes v b w) := by
  have H := Lib.hid h
  have HL := Lib.hid h.len
  clear h
  cases hh : (setB ts && (decide (0 ≤ a) && decide (a < (n : Int))))
  · have hr : atI (rLow ts) a = none := by
      unfold atI
      split
      · rename_i h0
        cases hs : setB ts
        · exact rLow_bad _ hs
        · rw [hs, Bool.true_and, decide_eq_true h0, Bool.true_and] at hh
          have h1 : ¬ a < (n : Int) := of_decide_eq_false hh
          exact rLow_past (List.getElem?_eq_none (by have := HL.out; omega))
      · rfl
    rw [hr] at hv
    obtain ⟨rfl, rfl⟩ := Prod.mk.inj hv
    have HH := Lib.hid hh
    clear hr hv hh
    go_enter Try.func32, Try.ntmps32
    go_wp2_with (go_at_call 63; refine (iHas_is _ A n c ts a H.out hn false HH.out).mono ?_; rintro e w1 ⟨rfl, hb⟩)
    go_ret2
    exact ⟨rfl, hb⟩
  have HH := Lib.hid hh
  rw [Bool.and_eq_true, Bool.and_eq_true, decide_eq_true_iff, decide_eq_true_iff] at hh
  obtain ⟨hs, h0, h1⟩ := hh
  obtain ⟨k, rfl⟩ := Int.eq_ofNat_of_zero_le h0
  have hk : k < n := by omega
  obtain ⟨t, ht⟩ := get_at HL.out hk
  have hr : atI (rLow ts) (k : Int) = respOf (ts.take k) t.lo.toNat t.du.toNat := by
    unfold atI; rw [if_pos h0]; exact rLow_at hs ht
  rw [hr] at hv
  have hok := ok_parts (set_ok hs (get_mem ht))
  have HS := Lib.hid (set_take hs k)
  have HT := Lib.hid ht
  have HV := Lib.hid hv
  clear hr hv ht hs
  obtain ⟨lo, hi, du, ev, cr⟩ := t
  dsimp only at hok HV
  obtain ⟨p1, p2, p3, p4, p5, _⟩ := hok
  obtain ⟨lo, rfl⟩ := Int.eq_ofNat_of_zero_le (show 0 ≤ lo by omega)
  obtain ⟨du, rfl⟩ := Int.eq_ofNat_of_zero_le (show 0 ≤ du by omega)
  go_enter Try.func32, Try.ntmps32
  go_wp2_with fail
  refine (iHas_is _ A n c ts (k : Int) H.out hn true HH.out).mono ?_
  rintro e w1 ⟨rfl, hb⟩
  have HB1 := Lib.hid hb
  have hsz := hb.size
  obtain ⟨bb, o, rfl, hbl, c0, c1, c2, c3, c4⟩ := (H.out.below hb).at_ k _ HT.out
  dsimp only at c0 c1 c2 c3 c4
  have HTk := Lib.hid (Tks.take ((H.out.below hb).more hb.size) (show k ≤ n by omega))
  clear hb
  have hbl1 : bb < w1.heap.size := by omega
  have hbl2 : bb < w1.heap.size + 1 := by omega
  have i1 : (k : Int) < (n : Int) := h1
  have i2 : (k : Int) ≤ (c : Int) := by omega
  have i3 : ¬ (c : Int) < (k : Int) := by omega
  go_wp2
  go_region
  all_goals go_wp2_with fail
  · refine (iLeast_is _ lo du 64 _ (fun x => lo + dLow (ts.take k) x) v b HV.out (resp_mono _ lo) (fun x _ => Nat.le_add_right _ _) (fun x hx => by have := dLow_bound HS.out x; omega) (by omega) (by omega) (fun _ _ => rfl) (cloLow_next _ _ _ (some ⟨bb, o, none⟩) k c (ts.take k) lo 0 du _ _ _ _ (((Blk.new w1 _ _).alloc _).drewN 1) ((blk_second w1 _ _ _).drewN 1) ((HTk.out.below (bl_drewN (bl_alloc (bl_alloc (Below.refl w1.heap.size w1) _) _) 1)).more (bl_drewN (bl_alloc (bl_alloc (Below.refl w1.heap.size w1) _) _) 1).size) HS.out (by omega) (by omega))).mono ?_
    rintro e w2 ⟨rfl, hb2⟩
    go_wp2
    go_ret2
    exact ⟨rfl, bl_trans (bl_drewN (bl_alloc (bl_alloc HB1.out _) _) 1) hb2⟩
  · refine (iLeast_is _ lo du 64 _ (fun x => lo + dLow (ts.take k) x) v b HV.out (resp_mono _ lo) (fun x _ => Nat.le_add_right _ _) (fun x hx => by have := dLow_bound HS.out x; omega) (by omega) (by omega) (fun _ _ => rfl) (cloLow_next _ _ _ (some ⟨bb, o, none⟩) k c (ts.take k) lo 0 du _ _ _ _ ((blk_second w1 _ _ _).drewN 1) (((Blk.new w1 _ _).alloc _).drewN 1) ((HTk.out.below (bl_drewN (bl_alloc (bl_alloc (Below.refl w1.heap.size w1) _) _) 1)).more (bl_drewN (bl_alloc (bl_alloc (Below.refl w1.heap.size w1) _) _) 1).size) HS.out (by omega) (by omega))).mono ?_
    rintro e w2 ⟨rfl, hb2⟩
    go_wp2
    go_ret2
    exact ⟨rfl, bl_trans (bl_drewN (bl_alloc (bl_alloc HB1.out _) _) 1) hb2⟩

end Go.Proofs.Ytobkbbgllapcoab
