/- Contracts of ResponseSwitch, in the program and in the reference, and of what the program's calls. Nothing that was there is written. -/
import Derived.Test.YtobkbbgllapcoabSRLow
import Derived.Test.YtobkbbgllapcoabRespU
import Derived.Test.YtobkbbgllapcoabLwK
namespace Go.Proofs.Ytobkbbgllapcoab
open Go.RowKit
set_option linter.unusedVariables false

set_option maxHeartbeats 1000000 in
theorem iDemSwi_is (w : World) (A : Option Addr) (n c : Nat) (ts : List Tk) (h : Tks w w.heap.size A n ts) (hs : setB ts = true) (l x m : Nat) (hl : l ≤ 10000000) (hx : x ≤ 10000000) (hm : dSwi ts l x = m) :
    Calls Try.prog 69 #[.slice A n c, .int .i64 (l : Int), .int .i64 (x : Int)] w (NumIs m w) := by
  have H := Lib.hid h
  have HL := Lib.hid h.len
  have HS := Lib.hid hs
  have HM := Lib.hid hm
  have h5 : n ≤ 5 := by have := setB_len hs; rw [HL.out] at this; exact this
  clear h hs hm
  go_enter Try.func69, Try.ntmps69
  go_wp2
  go_loopw [7, 12] (fun s i wr => ∃ k : Nat, k ≤ n ∧ i = .int .i64 k ∧ s = .int .i64 (dSwi (ts.take k) l x : Nat) ∧ Below w.heap.size w wr) (fun _ i _ => n - (intOf i).toNat)
  case atStart => exact ⟨0, Nat.zero_le _, rfl, rfl, Below.refl _ _⟩
  case round =>
    obtain ⟨k, hk, rfl, rfl, hb⟩ := hrel
    have HB := Lib.hid hb
    clear hb
    by_cases hlt : k < n
    · obtain ⟨t, ht⟩ := get_at HL.out hlt
      obtain ⟨b, o, rfl, hbl, c0, c1, c2, c3, c4⟩ := (H.out.below HB.out).at_ k t ht
      have HT := Lib.hid (dSwi_take ht l x)
      have HV := Lib.hid (set_ok HS.out (get_mem ht))
      have hb1 := dSwi_bound (set_take HS.out k) l x
      have hb2 := dmS_bound HV.out l x
      have hsz := HB.out.size
      obtain ⟨d, hd⟩ : ∃ d, dmS l x t = d := ⟨_, rfl⟩
      rw [hd] at hb2
      have HT' : Hid (dSwi (ts.take (k + 1)) l x = dSwi (ts.take k) l x + d) := by have := HT.out; rw [hd] at this; exact this
      generalize dSwi (ts.take k) l x = s at *
      cases hc : t.cr
      · have HD : Hid (dmd t l false = d) := by show _ = _; rw [← hd]; unfold dmS; rw [hc]; rfl
        clear ht hd HT
        obtain ⟨lo, hi, du, ev, cr⟩ := t
        dsimp only at c0 c1 c2 c3 c4 hc
        subst hc
        go_wp2_with (go_at_call 61; refine (iDemand_is _ lo hi du ev false l false d HV.out (by omega) HD.out).mono ?_; rintro e w2 ⟨rfl, rfl⟩)
        go_roundw
        case rel => exact ⟨k + 1, by omega, by go_num, by rw [HT'.out]; go_num, by repeat (first | with_reducible exact HB.out | refine bl_alloc ?_ _ | refine bl_set ?_ (by simp; omega) _)⟩
        case measure => simp [intOf]; omega
      · have HD : Hid (dmd t x true = d) := by show _ = _; rw [← hd]; unfold dmS; rw [hc]; rfl
        clear ht hd HT
        obtain ⟨lo, hi, du, ev, cr⟩ := t
        dsimp only at c0 c1 c2 c3 c4 hc
        subst hc
        go_wp2_with (go_at_call 61; refine (iDemand_is _ lo hi du ev true x true d HV.out (by omega) HD.out).mono ?_; rintro e w2 ⟨rfl, rfl⟩)
        go_roundw
        case rel => exact ⟨k + 1, by omega, by go_num, by rw [HT'.out]; go_num, by repeat (first | with_reducible exact HB.out | refine bl_alloc ?_ _ | refine bl_set ?_ (by simp; omega) _)⟩
        case measure => simp [intOf]; omega
    · obtain rfl : k = n := by omega
      have HE : Hid (dSwi (ts.take k) l x = m) := by show _ = _; rw [take_all (by rw [HL.out]; omega)]; exact HM.out
      go_wp2
      go_ret
      exact ⟨by rw [HE.out]; rfl, HB.out⟩

set_option maxHeartbeats 1000000 in
theorem iCloSwi_is (w : World) (Bt Bs Bl : Nat) (A : Option Addr) (k c : Nat) (us : List Tk) (hi l : Nat) (hT : w.cell? ⟨Bt, 1, none⟩ = some (.int .i64 (hi : Int))) (hS : w.cell? ⟨Bs, 0, none⟩ = some (.slice A k c)) (hL : w.cell? ⟨Bl, 0, none⟩ = some (.int .i64 (l : Int))) (hTs : Tks w w.heap.size A k us) (hs : setB us = true) (hhi : hi ≤ 20) (x m : Nat) (hl : l ≤ 10000000) (hx : x ≤ 10000000) (hm : hi + dSwi us l x = m) (hbt : Bt < w.heap.size) (hbs : Bs < w.heap.size) (hbl : Bl < w.heap.size) :
    Calls Try.prog 68 #[.int .i64 (x : Int), .pointer (some ⟨Bt, 0, none⟩), .pointer (some ⟨Bs, 0, none⟩), .pointer (some ⟨Bl, 0, none⟩)] w (NumIs m w) := by
  have H := Lib.hid hTs
  have HS := Lib.hid hs
  obtain ⟨d, hd⟩ : ∃ d, dSwi us l x = d := ⟨_, rfl⟩
  have hdb := dSwi_bound hs l x
  rw [hd] at hm hdb
  subst hm
  have HD := Lib.hid hd
  have kw : IntKind.i64.wrap ((hi : Int) + (d : Int)) = (hi : Int) + (d : Int) := IntWalk.i64_in _ (by omega)
  have hS0 : w.cell? ⟨Bt, 1, none⟩ = some (.int .i64 (hi : Int)) ∧ w.cell? ⟨Bs, 0, none⟩ = some (.slice A k c) ∧ w.cell? ⟨Bl, 0, none⟩ = some (.int .i64 (l : Int)) := ⟨hT, hS, hL⟩
  clear hTs hs hd
  go_enter Try.func68, Try.ntmps68
  go_wp2_with fail
  go_region_held3 (fun W => W.cell? ⟨Bt, 1, none⟩ = some (.int .i64 (hi : Int)) ∧ W.cell? ⟨Bs, 0, none⟩ = some (.slice A k c) ∧ W.cell? ⟨Bl, 0, none⟩ = some (.int .i64 (l : Int))) (first | exact hS0 | exact hS2)
    ((first
      | (go_at_call 69; refine (iDemSwi_is _ A k c us ?_ HS.out l x d hl hx HD.out).mono ?_; exact H.out.below (by repeat (first | with_reducible exact Below.refl w.heap.size w | with_reducible refine Below.drew ?_ | with_reducible refine bl_drewN ?_ _)); rintro e w2 ⟨rfl, hb⟩; have HB2 := Lib.hid (show Below w.heap.size w w2 from bl_trans (by repeat (first | with_reducible exact Below.refl w.heap.size w | with_reducible refine bl_drewN ?_ _ | with_reducible refine Below.drew ?_)) hb); have hS2 : w2.cell? ⟨Bt, 1, none⟩ = some (.int .i64 (hi : Int)) ∧ w2.cell? ⟨Bs, 0, none⟩ = some (.slice A k c) ∧ w2.cell? ⟨Bl, 0, none⟩ = some (.int .i64 (l : Int)) := ⟨(HB2.out.cell (p := ⟨Bt, 1, none⟩) hbt).trans hT, (HB2.out.cell (p := ⟨Bs, 0, none⟩) hbs).trans hS, (HB2.out.cell (p := ⟨Bl, 0, none⟩) hbl).trans hL⟩; clear hb)))
  go_wp2
  go_ret
  exact ⟨by first | rfl | go_num, HB2.out⟩
theorem cloSwi_next (w : World) (Bt Bs Bl : Nat) (A : Option Addr) (k c : Nat) (us : List Tk) (hi lo up l : Nat) (h1 h2 h3 h4 : Value) (hT : Blk w Bt 32 #[h1, .int .i64 (hi : Int), h2, h3, h4]) (hS : Blk w Bs 23 #[.slice A k c]) (hL : Blk w Bl 3 #[.int .i64 (l : Int)]) (hTs : Tks w w.heap.size A k us) (hs : setB us = true) (hhi : hi ≤ 20) (hl : l ≤ 10000000) (hup : up ≤ 10000000) :
    NextIs 68 #[.pointer (some ⟨Bt, 0, none⟩), .pointer (some ⟨Bs, 0, none⟩), .pointer (some ⟨Bl, 0, none⟩)] (fun x => hi + dSwi us l x) lo up w := fun W x h1 h2 hb =>
  iCloSwi_is W Bt Bs Bl A k c us hi l ((hb.cell (p := ⟨Bt, 1, none⟩) hT.lt).trans (hT.cell 1)) ((hb.cell (p := ⟨Bs, 0, none⟩) hS.lt).trans (hS.cell 0)) ((hb.cell (p := ⟨Bl, 0, none⟩) hL.lt).trans (hL.cell 0)) ((hTs.below hb).more hb.size) hs hhi x _ hl (by omega) rfl (Nat.lt_of_lt_of_le hT.lt hb.size) (Nat.lt_of_lt_of_le hS.lt hb.size) (Nat.lt_of_lt_of_le hL.lt hb.size)
theorem blk_third (w : World) (o o' : Obj) (t : TypeId) (cs : Array Value) : Blk (((w.alloc o).alloc o').alloc (.cells cs t)) (w.heap.size + 1 + 1) t cs := by
  have h := Blk.new ((w.alloc o).alloc o') t cs
  simp only [World.size_alloc] at h
  exact h
theorem swi_none {ts : List Tk} {a : Int} (h : atI (rLow ts) a = none) : atI (rSwi ts) a = none := by
  unfold atI at h ⊢
  split
  · rename_i h0
    rw [if_pos h0] at h
    exact rSwi_none h
  · rfl

set_option maxRecDepth 100000 in
set_option maxHeartbeats 2000000 in
theorem iRSwi_is (w : World) (A : Option Addr) (n c : Nat) (ts : List Tk) (a : Int) (h : Tks w w.heap.size A n ts) (hn : n ≤ 1048576) (hnc : n ≤ c) (v : Nat) (b : Bool) (hv : resN (atI (rSwi ts) a) = (v, b)) :
    Calls Try.prog 37 #[.slice A n c, .int .i64 a] w (NbRes v b w) := by
  have H := Lib.hid h
  have HL := Lib.hid h.len
  clear h
  obtain ⟨l, b0, h0⟩ : ∃ l b0, resN (atI (rLow ts) a) = (l, b0) := ⟨_, _, rfl⟩
  have H0 := Lib.hid h0
  cases b0
  · obtain ⟨hno, rfl⟩ := res_false h0
    rw [swi_none hno] at hv
    obtain ⟨rfl, rfl⟩ := Prod.mk.inj hv
    clear hv hno h0
    go_enter Try.func37, Try.ntmps37
    go_wp2_with (go_at_call 32; refine (iRLow_is _ A n c ts a H.out hn hnc 0 false H0.out).mono ?_; rintro e w1 ⟨rfl, hb⟩)
    go_ret2
    exact ⟨rfl, bl_alloc hb _⟩
  obtain ⟨k, rfl, hr⟩ := at_some (res_true h0)
  obtain ⟨hset, t, ht, hf⟩ := rLow_some hr
  obtain ⟨_, _, x3, _⟩ := resp_fix hf
  have hk : k < n := by have := (List.getElem?_eq_some_iff.1 ht).1; rw [HL.out] at this; exact this
  obtain ⟨bb, o, rfl, hbl, _⟩ := H.out.at_ k _ ht
  have hok := ok_parts (set_ok hset (get_mem ht))
  have HT := Lib.hid ht
  have HS := Lib.hid (set_take hset k)
  rw [at_nat] at hv
  have i1 : (k : Int) < (n : Int) := by omega
  have i2 : (k : Int) ≤ (c : Int) := by omega
  have i3 : ¬ (c : Int) < (k : Int) := by omega
  cases hc : t.cr
  · rw [rSwi_not ht hc] at hv
    obtain ⟨rfl, rfl⟩ := Prod.mk.inj hv
    clear hv hf hr h0 ht hset
    go_enter Try.func37, Try.ntmps37
    go_wp2_with fail
    refine (iRLow_is _ _ n c ts (k : Int) H.out hn hnc l true H0.out).mono ?_
    rintro e w1 ⟨rfl, hb⟩
    have HB1 := Lib.hid hb
    have hsz := hb.size
    have C1 := (Tks.get (H.out.below hb) HT.out).2.c4
    rw [hc] at C1
    have hbl1 : bb < w1.heap.size := by omega
    clear hb
    go_wp2
    go_ret2
    exact ⟨rfl, bl_alloc HB1.out _⟩
  rw [rSwi_at hr ht hc] at hv
  have HV := Lib.hid hv
  clear hv hf hr h0 ht hset
  obtain ⟨lo, hi, du, ev, cr⟩ := t
  dsimp only at hok HV hc x3
  subst hc
  obtain ⟨p1, p2, p3, p4, p5, _⟩ := hok
  obtain ⟨hi, rfl⟩ := Int.eq_ofNat_of_zero_le (show 0 ≤ hi by omega)
  obtain ⟨du, rfl⟩ := Int.eq_ofNat_of_zero_le (show 0 ≤ du by omega)
  have hl20 : l ≤ 20 := by omega
  go_enter Try.func37, Try.ntmps37
  go_wp2_with fail
  refine (iRLow_is _ _ n c ts (k : Int) H.out hn hnc l true H0.out).mono ?_
  rintro e w1 ⟨rfl, hb⟩
  have HB1 := Lib.hid hb
  have hsz := hb.size
  obtain ⟨c0, c1, c2, c3, c4⟩ := (Tks.get (H.out.below hb) HT.out).2
  dsimp only at c0 c1 c2 c3 c4
  have HTk := Lib.hid (Tks.take ((H.out.below hb).more hb.size) (show k ≤ n by omega))
  clear hb
  have hbl1 : bb < w1.heap.size := by omega
  have hbl2 : bb < w1.heap.size + 1 := by omega
  have hbl3 : bb < w1.heap.size + 1 + 1 := by omega
  go_wp2
  go_region
  all_goals go_wp2_with fail
  · refine (iLeast_is _ hi du 68 _ (fun x => hi + dSwi (ts.take k) l x) v b HV.out (swi_mono _ l hi) (fun x _ => Nat.le_add_right _ _) (fun x hx => by have := dSwi_bound HS.out l x; omega) (by omega) (by omega) (fun _ _ => rfl) (cloSwi_next _ _ _ _ (some ⟨bb, o, none⟩) k c (ts.take k) hi hi du l _ _ _ _ ((((blk_second w1 _ _ _).alloc _)).drewN 1) ((blk_third w1 _ _ _ _).drewN 1) ((((Blk.new w1 _ _).alloc _).alloc _).drewN 1) ((HTk.out.below (bl_drewN (bl_alloc (bl_alloc (bl_alloc (Below.refl w1.heap.size w1) _) _) _) 1)).more (bl_drewN (bl_alloc (bl_alloc (bl_alloc (Below.refl w1.heap.size w1) _) _) _) 1).size) HS.out (by omega) (by omega) (by omega))).mono ?_
    rintro e w2 ⟨rfl, hb2⟩
    go_wp2
    go_ret2
    exact ⟨rfl, bl_trans (bl_drewN (bl_alloc (bl_alloc (bl_alloc HB1.out _) _) _) 1) hb2⟩
  · refine (iLeast_is _ hi du 68 _ (fun x => hi + dSwi (ts.take k) l x) v b HV.out (swi_mono _ l hi) (fun x _ => Nat.le_add_right _ _) (fun x hx => by have := dSwi_bound HS.out l x; omega) (by omega) (by omega) (fun _ _ => rfl) (cloSwi_next _ _ _ _ (some ⟨bb, o, none⟩) k c (ts.take k) hi hi du l _ _ _ _ ((blk_third w1 _ _ _ _).drewN 1) ((((blk_second w1 _ _ _).alloc _)).drewN 1) ((((Blk.new w1 _ _).alloc _).alloc _).drewN 1) ((HTk.out.below (bl_drewN (bl_alloc (bl_alloc (bl_alloc (Below.refl w1.heap.size w1) _) _) _) 1)).more (bl_drewN (bl_alloc (bl_alloc (bl_alloc (Below.refl w1.heap.size w1) _) _) _) 1).size) HS.out (by omega) (by omega) (by omega))).mono ?_
    rintro e w2 ⟨rfl, hb2⟩
    go_wp2
    go_ret2
    exact ⟨rfl, bl_trans (bl_drewN (bl_alloc (bl_alloc (bl_alloc HB1.out _) _) _) 1) hb2⟩

end Go.Proofs.Ytobkbbgllapcoab
