/- Contracts of MostHigh, MostLow and what they call, in the program. Nothing that was there is written. -/
import Derived.Test.YtgfnlfjaekkdfaaDoorMo
import Derived.Test.YtgfnlfjaekkdfaaDoorHb
import Derived.Test.YtgfnlfjaekkdfaaDoorTcl
import Derived.Test.YtgfnlfjaekkdfaaDoorNB
import Derived.Shelf.Abstract
namespace Go.Proofs.YtgfnlfjaekkdfaaDoor
open Go.RowKit
set_option linter.unusedVariables false

def NBRes (v : Nat) (b : Bool) (w : World) (e : Ending) (w' : World) : Prop := e = .returned (.tuple #[.int .i64 (v : Int), .bool b]) ∧ Below w.heap.size w w'
/-- What is asked of the function that gives a task a need. -/
def GiveFn (kf : Nat) (cap : Array Value) (hi : Bool) : Prop :=
  ∀ (W : World) (B g m c : Nat) (us : List Tk) (k : Nat) (t : Tk) (n : Int), Own W B (.slice (some ⟨g, 0, none⟩) m c) us → us[k]? = some t →
    Calls Tryd.prog kf (#[.pointer (some ⟨g, k * 5, none⟩), .int .i64 n] ++ cap) W fun e W' => (∃ v, e = .returned v) ∧ Own W' B (.slice (some ⟨g, 0, none⟩) m c) (us.set k (giveT hi n t)) ∧ W.grownBy W' (some g)
set_option maxHeartbeats 1000000 in
theorem giveHigh_is : GiveFn 19 #[] true := by
  intro W B g m c us k t n ho ht
  show Calls _ _ #[.pointer (some ⟨g, k * 5, none⟩), .int .i64 n] _ _
  obtain ⟨b, o, eA, hbl, c0, c1, c2, c3, c4⟩ := ho.reads.2.at_ k t ht
  injection eA with eA
  injection eA with eA1 eA2
  subst eA1 eA2
  simp only [Nat.zero_add] at c0 c1 c2 c3 c4
  have hfz := ho.frozen
  have HX := Lib.hid (ho.high k t n ht)
  have HG := Lib.hid (gb_set (World.grownBy.refl W (some g)) (p := ⟨g, k * 5 + 1, none⟩) (.inl rfl) (.int .i64 n))
  clear ht ho
  go_enter Tryd.func19, Tryd.ntmps19
  go_wp2
  go_end0
  exact ⟨⟨_, rfl⟩, HX.out, HG.out⟩
set_option maxHeartbeats 1000000 in
theorem giveLow_is : GiveFn 13 #[] false := by
  intro W B g m c us k t n ho ht
  show Calls _ _ #[.pointer (some ⟨g, k * 5, none⟩), .int .i64 n] _ _
  obtain ⟨b, o, eA, hbl, c0, c1, c2, c3, c4⟩ := ho.reads.2.at_ k t ht
  injection eA with eA
  injection eA with eA1 eA2
  subst eA1 eA2
  simp only [Nat.zero_add] at c0 c1 c2 c3 c4
  have hfz := ho.frozen
  have HG := Lib.hid (gb_set (World.grownBy.refl W (some g)) (p := ⟨g, k * 5, none⟩) (.inl rfl) (.int .i64 n))
  have HX := Lib.hid (ho.low k t n ht)
  have hk : (us.set k { t with lo := n })[k]? = some { t with lo := n } := by
    obtain ⟨hk, _⟩ := List.getElem?_eq_some_iff.1 ht
    rw [List.getElem?_set_self hk]
  have HX2 := Lib.hid (HX.out.high k _ n hk)
  have HG2 := Lib.hid (gb_set HG.out (p := ⟨g, k * 5 + 1, none⟩) (.inl rfl) (.int .i64 n))
  have hfz2 := HX.out.frozen
  obtain ⟨lo, hi, du, ev, cr⟩ := t
  dsimp only at c0 c1 c2 c3 c4
  cases cr
  · have HE : Hid (((us.set k (⟨n, hi, du, ev, false⟩ : Tk)).set k ⟨n, n, du, ev, false⟩) = us.set k (giveT false n ⟨lo, hi, du, ev, false⟩)) := by show _ = _; rw [List.set_set]; rfl
    clear ht ho hk HX HG
    go_enter Tryd.func13, Tryd.ntmps13
    go_wp2
    go_end0
    exact ⟨⟨_, rfl⟩, by rw [← HE.out]; exact HX2.out, HG2.out⟩
  · clear ht ho hk HX2 HG2 hfz2
    go_enter Tryd.func13, Tryd.ntmps13
    go_wp2
    go_end0
    exact ⟨⟨_, rfl⟩, HX.out, HG.out⟩

set_option maxRecDepth 100000 in
set_option maxHeartbeats 4000000 in
theorem greatest_is (w : World) (A : Option Addr) (n c : Nat) (ts : List Tk) (a pol : Int) (kf : Nat) (cap : Array Value) (hi : Bool) (h : Tks w w.heap.size A n ts) (hn : n ≤ 1048576) (hnc : n ≤ c) (e0 : Addr) (he : EG w e0)
    (ek : ∀ args w, (callFunc kf args).run Tryd.prog w = .ok (.enter kf args) w) (hg : GiveFn kf cap hi) (v : Nat) (b : Bool) (hb : mostB ts n a pol = b) (hv : v = if b then mostV ts a pol hi else 0) :
    Calls Tryd.prog 12 #[.slice A n c, .int .i64 a, .int .i64 pol, .func (.func kf) #[] cap] w (NBRes v b w) := by
  have H := Lib.hid h
  have HL := Lib.hid h.len
  have HE := Lib.hid he
  have HGF := Lib.hid hg
  clear h he hg
  cases hs : hasB ts n a
  · obtain rfl : b = false := by rw [← hb]; unfold mostB; rw [hs]; rfl
    obtain rfl : v = 0 := by rw [hv]; rfl
    have HS := Lib.hid hs
    clear hb hv hs
    go_enter Tryd.func12, Tryd.ntmps12
    go_wp2_with (go_at_call 18; refine (iHas5_is _ A n c ts a H.out hn false HS.out).mono ?_; rintro e w1 ⟨rfl, hb1⟩; have HB1 := Lib.hid hb1; clear hb1)
    go_ret2
    exact ⟨rfl, HB1.out⟩
  have HS := Lib.hid hs
  cases hh : hBy ts pol
  · obtain rfl : b = false := by rw [← hb]; unfold mostB; rw [hh]; simp
    obtain rfl : v = 0 := by rw [hv]; rfl
    have HH := Lib.hid hh
    clear hb hv hs hh
    go_enter Tryd.func12, Tryd.ntmps12
    go_wp2_with (first
      | (go_at_call 18; refine (iHas5_is _ A n c ts a H.out hn true HS.out).mono ?_; rintro e w1 ⟨rfl, hb1⟩; have HB1 := Lib.hid hb1; clear hb1)
      | (go_at_call 11; refine (iHoldsBy_is w1 A n c ts pol ((H.out.below HB1.out).more HB1.out.size) hn hnc e0 (HE.out.below HB1.out) false HH.out).mono ?_; rintro e w2 ⟨rfl, hb2⟩; have HB2 := Lib.hid (bl_trans HB1.out hb2); clear hb2))
    go_ret2
    exact ⟨rfl, HB2.out⟩
  have HH := Lib.hid hh
  obtain rfl : b = true := by rw [← hb]; unfold mostB; rw [hs, hh]; rfl
  obtain ⟨hst, _, k, t, rfl, hk, ht, hd1, hd2, hd3⟩ := most_at HL.out hb
  obtain ⟨d, hd⟩ : ∃ d : Nat, t.du.toNat = d := ⟨_, rfl⟩
  have htd : t.du = (d : Int) := by omega
  have hvv : v = mostN ts k pol hi d := by rw [hv, if_pos rfl]; unfold mostV; rw [show ((k : Int)).toNat = k by omega, getD_at ht, hd]
  have HV := Lib.hid hvv
  have HT := Lib.hid ht
  have h5 := setB_len hst
  have hl0 := HL.out
  clear hb hv hs hh hst hvv
  go_enter Tryd.func12, Tryd.ntmps12
  go_wp2_with (first
    | (go_at_call 18; refine (iHas5_is _ A n c ts k H.out hn true HS.out).mono ?_; rintro e w1 ⟨rfl, hb1⟩; have HB1 := Lib.hid hb1; clear hb1)
    | (go_at_call 11; refine (iHoldsBy_is w1 A n c ts pol ((H.out.below HB1.out).more HB1.out.size) hn hnc e0 (HE.out.below HB1.out) true HH.out).mono ?_; rintro e w2 ⟨rfl, hb2⟩; have HB2 := Lib.hid (bl_trans HB1.out hb2); clear hb2)
    | (go_at_call 23; refine (iCloneT_is w2 A n c ts ((H.out.below HB2.out).more HB2.out.size) (by omega)).mono ?_; rintro e w3 ⟨Ao, co, rfl, ho, hb3⟩; have HB3 := Lib.hid (bl_trans HB2.out hb3); have HO3 := Lib.hid (own_more ho HB2.out.size); clear hb3 ho))
  obtain ⟨gg, hAo⟩ : ∃ gg, Ao = some ⟨gg, 0, none⟩ := by
    rcases HO3.out.2 with ⟨e, h0⟩ | ⟨gg, cap', cur, e, _⟩
    · omega
    · injection e with e1 e2 e3; exact ⟨gg, e1⟩
  subst hAo
  have hcn := own_le HO3.out
  have hggw := (World.ownsRow.lt HO3.out gg rfl).1
  rw [hl0] at HO3 hcn
  clear hl0
  have HO0 : Hid (∃ t', Own w3 w.heap.size (.slice (some ⟨gg, 0, none⟩) n co) (ts.set k t') ∧ ∀ m, giveT hi m t' = giveT hi m t) := Lib.hid ⟨t, by
    obtain ⟨hk2, hk3⟩ := List.getElem?_eq_some_iff.1 HT.out
    have : ts.set k t = ts := by rw [← hk3]; exact List.set_getElem_self hk2
    rw [this]; exact HO3.out, fun _ => rfl⟩
  clear HO3
  go_wp2
  go_loopw [11, 12] (fun v i wr => ∃ p q : Nat, p = q + 1 ∧ q ≤ d ∧ i = .int .i64 (p : Int) ∧ v = .int .i64 ((mostN ts k pol hi q : Nat) : Int) ∧ Hid (∃ t', Own wr w.heap.size (.slice (some ⟨gg, 0, none⟩) n co) (ts.set k t') ∧ ∀ m, giveT hi m t' = giveT hi m t) ∧ Hid (Below w.heap.size w wr)) (fun _ i _ => d + 1 - (intOf i).toNat)
  case atStart => exact ⟨1, 0, rfl, Nat.zero_le _, rfl, rfl, HO0, HB3⟩
  case round =>
    obtain ⟨p, q, hp, hq, rfl, rfl, HO, HB⟩ := hrel
    have HPQ := Lib.hid hp
    have hpd1 : q < d → (p : Int) ≤ (d : Int) := by omega
    have hpd2 : ¬ q < d → ¬ (p : Int) ≤ (d : Int) := by omega
    clear hp
    obtain ⟨t', ho, hgt⟩ := HO.out
    obtain ⟨y, hy⟩ : ∃ y, mostN ts k pol hi q = y := ⟨_, rfl⟩
    have HY := Lib.hid hy
    rw [hy]
    clear hy HO
    obtain ⟨bb, o, rfl, hbl, c0, c1, c2', c3, c4⟩ := (H.out.below HB.out).at_ k t HT.out
    rw [htd] at c2'
    have q1 : (0 : Int) ≤ (k : Int) := by omega
    have q2 : (k : Int) < (n : Int) := by omega
    by_cases hlt : q < d
    · have hpd : (p : Int) ≤ (d : Int) := hpd1 hlt
      have hk3 : (ts.set k t')[k]? = some t' := by rw [List.getElem?_set_self (by rw [HL.out]; exact hk)]
      have hnew : (ts.set k t').set k (giveT hi (p : Int) t') = giveL ts k hi ((q + 1 : Nat) : Int) := by
        rw [List.set_set, hgt]
        unfold giveL
        rw [getD_at HT.out, HPQ.out]
      have hcall := HGF.out wr w.heap.size gg n co _ k t' (p : Int) ho hk3
      rw [hnew] at hcall
      have HC := Lib.hid hcall
      have HAG := Lib.hid (fun m => (give_again hi m ((q + 1 : Nat) : Int) t))
      clear hk3 hnew hcall ho hgt
      go_wp2_with fail
      go_at_fn kf
      refine HC.out.mono ?_
      rintro e w5 ⟨⟨vv, rfl⟩, ho5, hg5⟩
      have HB5 := Lib.hid (HB.out.grown hg5 HB.out.size (fun x e => by injection e with e; omega))
      have HO5 := Lib.hid ho5
      clear ho5 hg5 HC
      obtain ⟨r, hr⟩ : ∃ r, hBy (giveL ts k hi ((q + 1 : Nat) : Int)) pol = r := ⟨_, rfl⟩
      have HR := Lib.hid hr
      have HST := Lib.hid (most_step ts k pol hi q r hr)
      clear hr
      go_wp2_with fail
      refine (iHoldsBy_is w5 _ n co _ pol HO5.out.reads.2 hn hcn e0 (HE.out.below HB5.out) r HR.out).mono ?_
      rintro e w6 ⟨rfl, hb6⟩
      have HB6 := Lib.hid (bl_trans HB5.out hb6)
      have HO6 : Hid (∃ t', Own w6 w.heap.size (.slice (some ⟨gg, 0, none⟩) n co) (ts.set k t') ∧ ∀ m, giveT hi m t' = giveT hi m t) := Lib.hid ⟨giveT hi ((q + 1 : Nat) : Int) t, by
        have := HO5.out.below hb6
        unfold giveL at this
        rw [getD_at HT.out] at this
        exact this, HAG.out⟩
      clear hb6
      cases r
      · go_wp2
        go_roundw
        case rel => exact ⟨p + 1, q + 1, by have := HPQ.out; omega, by omega, by go_num, by rw [HST.out, HY.out]; rfl, HO6, HB6⟩
        case measure => have := HPQ.out; simp [intOf]; omega
      · go_wp2
        go_roundw
        case rel => exact ⟨p + 1, q + 1, by have := HPQ.out; omega, by omega, by go_num, by rw [HST.out, HPQ.out]; rfl, HO6, HB6⟩
        case measure => have := HPQ.out; simp [intOf]; omega
    · have hqd : q = d := by omega
      have hpd : ¬ (p : Int) ≤ (d : Int) := hpd2 hlt
      have hyv : y = v := by rw [HV.out, ← HY.out, hqd]
      subst hyv
      clear hgt ho
      go_wp2
      go_ret2
      exact ⟨rfl, HB.out⟩

set_option maxRecDepth 100000 in
set_option maxHeartbeats 2000000 in
theorem iMostLow_is (w : World) (A : Option Addr) (n c : Nat) (ts : List Tk) (a pol : Int) (h : Tks w w.heap.size A n ts) (hn : n ≤ 1048576) (hnc : n ≤ c) (e0 : Addr) (he : EG w e0) (v : Nat) (b : Bool) (hb : mostB ts n a pol = b) (hv : v = if b then mostV ts a pol false else 0) :
    Calls Tryd.prog 6 #[.slice A n c, .int .i64 a, .int .i64 pol] w (NBRes v b w) := by
  have H := Lib.hid h
  have HE := Lib.hid he
  have HB := Lib.hid hb
  have HV := Lib.hid hv
  clear h he hb hv
  go_enter Tryd.func6, Tryd.ntmps6
  go_wp2_with fail
  refine (greatest_is w A n c ts a pol _ #[] false H.out hn hnc e0 HE.out (enters_of Tryd.func13 (by kernel_rfl) rfl) giveLow_is v b HB.out HV.out).mono ?_
  rintro e w1 ⟨rfl, hb1⟩
  have HB1 := Lib.hid hb1
  clear hb1
  go_wp2
  go_ret2
  exact ⟨rfl, HB1.out⟩

/-- Whether a task can be asked for its greatest high need. -/
def mostHB (ts : List Tk) (n : Nat) (a pol : Int) : Bool := mostB ts n a pol && (ts.getD a.toNat default).cr
set_option maxRecDepth 100000 in
set_option maxHeartbeats 2000000 in
theorem iMostHigh_is (w : World) (A : Option Addr) (n c : Nat) (ts : List Tk) (a pol : Int) (h : Tks w w.heap.size A n ts) (hn : n ≤ 1048576) (hnc : n ≤ c) (e0 : Addr) (he : EG w e0) (v : Nat) (b : Bool) (hb : mostHB ts n a pol = b) (hv : v = if b then mostV ts a pol true else 0) :
    Calls Tryd.prog 9 #[.slice A n c, .int .i64 a, .int .i64 pol] w (NBRes v b w) := by
  have H := Lib.hid h
  have HL := Lib.hid h.len
  have HE := Lib.hid he
  clear h he
  cases hs : hasB ts n a
  · obtain rfl : b = false := by rw [← hb]; unfold mostHB mostB; rw [hs]; rfl
    obtain rfl : v = 0 := by rw [hv]; rfl
    have HS := Lib.hid hs
    clear hb hv hs
    go_enter Tryd.func9, Tryd.ntmps9
    go_wp2_with (go_at_call 18; refine (iHas5_is _ A n c ts a H.out hn false HS.out).mono ?_; rintro e w1 ⟨rfl, hb1⟩; have HB1 := Lib.hid hb1; clear hb1)
    go_ret2
    exact ⟨rfl, HB1.out⟩
  have HS := Lib.hid hs
  obtain ⟨_, k, rfl, hk⟩ := has_at hs
  obtain ⟨t, ht⟩ : ∃ t, ts[k]? = some t := ⟨_, List.getElem?_eq_getElem (by rw [HL.out]; exact hk)⟩
  have hkn : ((k : Int)).toNat = k := by omega
  have HT := Lib.hid ht
  have q1 : (0 : Int) ≤ (k : Int) := by omega
  have q2 : (k : Int) < (n : Int) := by omega
  cases hc : t.cr
  · obtain rfl : b = false := by rw [← hb]; unfold mostHB; rw [hkn, getD_at ht, hc]; simp
    obtain rfl : v = 0 := by rw [hv]; rfl
    clear hb hv hs
    go_enter Tryd.func9, Tryd.ntmps9
    go_wp2_with fail
    refine (iHas5_is _ A n c ts k H.out hn true HS.out).mono ?_
    rintro e w1 ⟨rfl, hb1⟩
    have HB1 := Lib.hid hb1
    clear hb1
    obtain ⟨bb, o, rfl, hbl, c0, c1, c2', c3, c4⟩ := (H.out.below HB1.out).at_ k t HT.out
    rw [hc] at c4
    clear ht hc
    go_wp2
    go_ret2
    exact ⟨rfl, HB1.out⟩
  · have HM : Hid (mostB ts n k pol = b) := by show _ = _; rw [← hb]; unfold mostHB; rw [hkn, getD_at ht, hc]; simp
    have HV := Lib.hid hv
    clear hb hv hs
    go_enter Tryd.func9, Tryd.ntmps9
    go_wp2_with fail
    refine (iHas5_is _ A n c ts k H.out hn true HS.out).mono ?_
    rintro e w1 ⟨rfl, hb1⟩
    have HB1 := Lib.hid hb1
    clear hb1
    obtain ⟨bb, o, rfl, hbl, c0, c1, c2', c3, c4⟩ := (H.out.below HB1.out).at_ k t HT.out
    rw [hc] at c4
    clear ht hc
    go_wp2_with fail
    refine (greatest_is w1 (some ⟨bb, o, none⟩) n c ts k pol _ #[] true ((H.out.below HB1.out).more HB1.out.size) hn hnc e0 (HE.out.below HB1.out) (enters_of Tryd.func19 (by kernel_rfl) rfl) giveHigh_is v b HM.out HV.out).mono ?_
    rintro e w2 ⟨rfl, hb2⟩
    have HB2 := Lib.hid (bl_trans HB1.out hb2)
    clear hb2
    go_wp2
    go_ret2
    exact ⟨rfl, HB2.out⟩

end Go.Proofs.YtgfnlfjaekkdfaaDoor
