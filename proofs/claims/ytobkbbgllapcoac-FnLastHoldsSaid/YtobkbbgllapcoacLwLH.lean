/- The walk of the law FnLastHolds. -/
import Derived.Test.YtobkbbgllapcoacMA
import Derived.Test.YtobkbbgllapcoacMB
import Derived.Test.YtobkbbgllapcoacMC
namespace Go.Proofs.Ytobkbbgllapcoac
open Go.RowKit
set_option linter.unusedVariables false

theorem own_some {w : World} {B c : Nat} {A : Option Addr} {ts : List Tk} (h : Own w B (.slice A ts.length c) ts) (hne : ts ≠ []) : ∃ g, A = some ⟨g, 0, none⟩ := by
  rcases h.2 with ⟨e, h0⟩ | ⟨g, cap, cur, e, _, _, h1, h2, _⟩
  · exact absurd (List.eq_nil_of_length_eq_zero h0) hne
  · injection e with e1 e2 e3
    exact ⟨g, e1⟩
theorem last_both {ts : List Tk} (hs : setB ts = true) (h0 : ts ≠ []) : hBoth ts = (hBoth (ts.take (ts.length - 1)) && canL ts (ts.length - 1)) := by
  obtain ⟨ys, y, rfl⟩ := snoc_of h0
  have hl : (ys ++ [y]).length - 1 = ys.length := by simp
  have hy : (ys ++ [y])[ys.length]? = some y := by simp
  have hsy : setB ys = true := set_sub hs (List.sublist_append_left _ _)
  have he : (ys ++ [y]).eraseIdx ys.length = ys := by rw [List.eraseIdx_append_of_length_le (Nat.le_refl _), Nat.sub_self]; simp
  rw [hl, List.take_left, can_at hs hy, he, Bool.eq_iff_iff, Bool.and_eq_true, hBoth_holds, hBoth_holds, holds_snoc]
  constructor
  · rintro ⟨_, h1, h2⟩; exact ⟨⟨hsy, h1⟩, h2⟩
  · rintro ⟨⟨_, h1⟩, h2⟩; exact ⟨hs, h1, h2⟩

set_option maxRecDepth 100000 in
set_option maxHeartbeats 4000000 in
theorem fnLastHolds_walk (w : World) (A : Option Addr) (n c : Nat) (f : Nat → Int) (h : Code w w.heap.size A n c f) :
    Calls Try.prog 8 #[.slice A n c] w fun e w' => e = .returned (.bool true) ∧ Below w.heap.size w w' := by
  have H := Lib.hid h
  have hle := h.le
  have hmax := h.max
  unfold maxLen at hmax
  clear h
  by_cases hn : 1048576 < n
  · go_enter Try.func8, Try.ntmps8
    go_wp2
    go_ret
    exact ⟨rfl, Below.refl _ _⟩
  go_enter Try.func8, Try.ntmps8
  go_wp2_with fail
  refine (dDrawHoldsBoth_any _ A n c f H.out).mono ?_
  rintro e w1 ⟨At, ct, ts, rfl, hl, ho, hb⟩
  have HB1 := Lib.hid hb
  have HO := Lib.hid ho
  have HT := Lib.hid ho.reads.2
  have hct := own_le ho
  clear hb ho H
  have HD1 := Lib.hid (Below.refl w1.heap.size w1)
  have hs1 := HB1.out.size
  obtain ⟨b, hv⟩ : ∃ b, hBoth ts = b := ⟨_, rfl⟩
  have HV := Lib.hid hv
  go_wp2_with fail
  refine (iHBoth_is _ At _ ct ts ?_ (by omega) hct b HV.out).mono ?_
  · exact tks_to HT.out (by repeat (first | with_reducible exact HD1.out | with_reducible refine Below.drew ?_ | with_reducible refine bl_drewN ?_ _ | with_reducible refine bl_alloc ?_ _))
  rintro e w2 ⟨rfl, hb⟩
  have hs2 := hb.size
  have HB2 := Lib.hid (show Below w.heap.size w w2 from bl_trans (by repeat (first | with_reducible exact HB1.out | with_reducible refine Below.drew ?_ | with_reducible refine bl_drewN ?_ _ | with_reducible refine bl_alloc ?_ _)) hb)
  have HD2 := Lib.hid (show Below w1.heap.size w1 w2 from bl_trans (by repeat (first | with_reducible exact HD1.out | with_reducible refine Below.drew ?_ | with_reducible refine bl_drewN ?_ _ | with_reducible refine bl_alloc ?_ _)) hb)
  clear hb
  go_wp2_with fail
  refine (sHBoth_is _ At _ ct ts ?_ (by omega) b HV.out).mono ?_
  · exact tks_to HT.out (by repeat (first | with_reducible exact HD2.out | with_reducible refine Below.drew ?_ | with_reducible refine bl_drewN ?_ _ | with_reducible refine bl_alloc ?_ _))
  rintro e w3 ⟨rfl, hb⟩
  have hs3 := hb.size
  have HB3 := Lib.hid (show Below w.heap.size w w3 from bl_trans (by repeat (first | with_reducible exact HB2.out | with_reducible refine Below.drew ?_ | with_reducible refine bl_drewN ?_ _ | with_reducible refine bl_alloc ?_ _)) hb)
  have HD3 := Lib.hid (show Below w1.heap.size w1 w3 from bl_trans (by repeat (first | with_reducible exact HD2.out | with_reducible refine Below.drew ?_ | with_reducible refine bl_drewN ?_ _ | with_reducible refine bl_alloc ?_ _)) hb)
  clear hb
  go_wp2_with fail
  refine (iSetValid_any _ At _ ct ts ?_ (by omega)).mono ?_
  · exact tks_to HT.out (by repeat (first | with_reducible exact HD3.out | with_reducible refine Below.drew ?_ | with_reducible refine bl_drewN ?_ _ | with_reducible refine bl_alloc ?_ _))
  rintro e w4 ⟨rfl, hb⟩
  have hs4 := hb.size
  have HB4 := Lib.hid (show Below w.heap.size w w4 from bl_trans (by repeat (first | with_reducible exact HB3.out | with_reducible refine Below.drew ?_ | with_reducible refine bl_drewN ?_ _ | with_reducible refine bl_alloc ?_ _)) hb)
  have HD4 := Lib.hid (show Below w1.heap.size w1 w4 from bl_trans (by repeat (first | with_reducible exact HD3.out | with_reducible refine Below.drew ?_ | with_reducible refine bl_drewN ?_ _ | with_reducible refine bl_alloc ?_ _)) hb)
  clear hb
  cases hs : setB ts
  · clear hv
    go_wp2_with fail
    refine (sHBoth_is _ At _ ct ts ?_ (by omega) b HV.out).mono ?_
    · exact tks_to HT.out (by repeat (first | with_reducible exact HD4.out | with_reducible refine Below.drew ?_ | with_reducible refine bl_drewN ?_ _ | with_reducible refine bl_alloc ?_ _))
    rintro e w5 ⟨rfl, hb⟩
    have hs5 := hb.size
    have HB5 := Lib.hid (show Below w.heap.size w w5 from bl_trans (by repeat (first | with_reducible exact HB4.out | with_reducible refine Below.drew ?_ | with_reducible refine bl_drewN ?_ _ | with_reducible refine bl_alloc ?_ _)) hb)
    have HD5 := Lib.hid (show Below w1.heap.size w1 w5 from bl_trans (by repeat (first | with_reducible exact HD4.out | with_reducible refine Below.drew ?_ | with_reducible refine bl_drewN ?_ _ | with_reducible refine bl_alloc ?_ _)) hb)
    clear hb
    go_wp2
    go_ret
    exact ⟨rfl, by repeat (first | with_reducible exact HB5.out | refine bl_drewN ?_ _ | refine Below.drew ?_ | refine bl_alloc ?_ _)⟩
  by_cases h0 : ts.length = 0
  · have hnil : ts = [] := List.eq_nil_of_length_eq_zero h0
    subst hnil
    have HT0 : Hid (Tks w1 w1.heap.size At 0 []) := HT.out
    clear hv hs h0
    go_wp2_with fail
    refine (sHBoth_is _ At 0 ct [] ?_ (by omega) b HV.out).mono ?_
    · exact tks_to HT0.out (by repeat (first | with_reducible exact HD4.out | with_reducible refine Below.drew ?_ | with_reducible refine bl_drewN ?_ _ | with_reducible refine bl_alloc ?_ _))
    rintro e w5 ⟨rfl, hb⟩
    have hs5 := hb.size
    have HB5 := Lib.hid (show Below w.heap.size w w5 from bl_trans (by repeat (first | with_reducible exact HB4.out | with_reducible refine Below.drew ?_ | with_reducible refine bl_drewN ?_ _ | with_reducible refine bl_alloc ?_ _)) hb)
    have HD5 := Lib.hid (show Below w1.heap.size w1 w5 from bl_trans (by repeat (first | with_reducible exact HD4.out | with_reducible refine Below.drew ?_ | with_reducible refine bl_drewN ?_ _ | with_reducible refine bl_alloc ?_ _)) hb)
    clear hb
    go_wp2
    go_ret
    exact ⟨rfl, by repeat (first | with_reducible exact HB5.out | refine bl_drewN ?_ _ | refine Below.drew ?_ | refine bl_alloc ?_ _)⟩
  have hne : ts ≠ [] := fun e => h0 (by rw [e]; rfl)
  obtain ⟨p, hp⟩ : ∃ p, hBoth (ts.take (ts.length - 1)) = p := ⟨_, rfl⟩
  obtain ⟨q, hq⟩ : ∃ q, canL ts (ts.length - 1) = q := ⟨_, rfl⟩
  obtain rfl : b = (p && q) := by rw [← hv, last_both hs hne, hp, hq]
  have HP := Lib.hid hp
  have HQ : Hid ((decide ((0 : Int) ≤ ((ts.length - 1 : Nat) : Int)) && canL ts ((ts.length - 1 : Nat) : Int).toNat) = q) := by
    show _ = _
    rw [decide_eq_true (by omega), Bool.true_and]; exact hq
  have hm1 : (ts.length : Int) - 1 = ((ts.length - 1 : Nat) : Int) := by omega
  have i1 : ((ts.length - 1 : Nat) : Int) ≤ (ct : Int) := by omega
  have i2 : (0 : Int) ≤ ((ts.length - 1 : Nat) : Int) := by omega
  have i3 : ((ts.length - 1 : Nat) : Int) ≤ (ts.length : Int) := by omega
  clear hp hq hv hs
  obtain ⟨gg, rfl⟩ := own_some HO.out hne
  clear hne
  go_wp2_with fail
  refine (iHBoth_is _ (some ⟨gg, 0, none⟩) (ts.length - 1) ct (ts.take (ts.length - 1)) (Tks.take (tks_to HT.out (by repeat (first | with_reducible exact HD4.out | with_reducible refine Below.drew ?_ | with_reducible refine bl_drewN ?_ _ | with_reducible refine bl_alloc ?_ _))) (by omega)) (by omega) (by omega) p HP.out).mono ?_
  rintro e w5 ⟨rfl, hb⟩
  have HB5 := Lib.hid (show Below w.heap.size w w5 from bl_trans (by repeat (first | with_reducible exact HB4.out | with_reducible refine Below.drew ?_ | with_reducible refine bl_drewN ?_ _ | with_reducible refine bl_alloc ?_ _)) hb)
  have HD5 := Lib.hid (show Below w1.heap.size w1 w5 from bl_trans (by repeat (first | with_reducible exact HD4.out | with_reducible refine Below.drew ?_ | with_reducible refine bl_drewN ?_ _ | with_reducible refine bl_alloc ?_ _)) hb)
  clear hb
  cases p
  · go_wp2
    go_ret
    exact ⟨rfl, HB5.out⟩
  go_wp2_with fail
  refine (iCan_is _ (some ⟨gg, 0, none⟩) ts.length ct ts ((ts.length - 1 : Nat) : Int) (tks_to HT.out (by repeat (first | with_reducible exact HD5.out | with_reducible refine Below.drew ?_ | with_reducible refine bl_drewN ?_ _ | with_reducible refine bl_alloc ?_ _))) (by omega) hct q HQ.out).mono ?_
  rintro e w6 ⟨rfl, hb⟩
  have HB6 := Lib.hid (show Below w.heap.size w w6 from bl_trans (by repeat (first | with_reducible exact HB5.out | with_reducible refine Below.drew ?_ | with_reducible refine bl_drewN ?_ _ | with_reducible refine bl_alloc ?_ _)) hb)
  clear hb
  cases q
  · go_wp2
    go_ret
    exact ⟨rfl, HB6.out⟩
  · go_wp2
    go_ret
    exact ⟨rfl, HB6.out⟩

end Go.Proofs.Ytobkbbgllapcoac
