/- The walk of the law that later tasks do not matter. -/
import Derived.Test.YtobkbbgllapcoabLwK
import Derived.Test.YtobkbbgllapcoabDr3
import Derived.Test.YtobkbbgllapcoabHold
import Derived.Test.YtobkbbgllapcoabRespS
namespace Go.Proofs.Ytobkbbgllapcoab
open Go.RowKit
theorem own_two {w : World} {B c : Nat} {A : Option Addr} {ts : List Tk} (h : Own w B (.slice A ts.length c) ts) : (A = none ∧ c = 0 ∧ ts = []) ∨ ∃ g, A = some ⟨g, 0, none⟩ := by
  rcases h.2 with ⟨e, h0⟩ | ⟨g, cap, cur, e, _, _, h1, h2, _⟩
  · injection e with e1 e2 e3
    exact .inl ⟨e1, e3, List.eq_nil_of_length_eq_zero h0⟩
  · injection e with e1 e2 e3
    exact .inr ⟨g, e1⟩

set_option linter.unusedVariables false

set_option maxRecDepth 100000 in
set_option maxHeartbeats 4000000 in
theorem fnHoldsPrefix_walk (w : World) (A : Option Addr) (n c : Nat) (f : Nat → Int) (h : Code w w.heap.size A n c f) :
    Calls Try.prog 3 #[.slice A n c] w fun e w' => e = .returned (.bool true) ∧ Below w.heap.size w w' := by
  have H := Lib.hid h
  have hle := h.le
  have hmax := h.max
  unfold maxLen at hmax
  clear h
  by_cases hn : 1048576 < n
  · go_enter Try.func3, Try.ntmps3
    go_wp2
    go_ret
    exact ⟨rfl, Below.refl _ _⟩
  go_enter Try.func3, Try.ntmps3
  go_wp2_with fail
  refine (dDrawHoldsBoth_any _ A n c f H.out).mono ?_
  rintro e w1 ⟨At, ct, ts, rfl, hl, ho, hb⟩
  have HB1 := Lib.hid hb
  have HO := Lib.hid ho
  have HT := Lib.hid ho.reads.2
  have hct := own_le ho
  clear hb ho H
  have HD1 := Lib.hid (Below.refl w1.heap.size w1)
  have hs1 := HB1.out.size
  obtain ⟨b, hv⟩ : ∃ b, hBoth ts = b := ⟨_, rfl⟩
  have HV := Lib.hid hv
  go_wp2_with fail
  refine (iHBoth_is _ At _ ct ts ?_ (by omega) hct b HV.out).mono ?_
  · exact tks_to HT.out (by repeat (first | with_reducible exact HD1.out | with_reducible refine Below.drew ?_ | with_reducible refine bl_drewN ?_ _ | with_reducible refine bl_alloc ?_ _))
  rintro e w2 ⟨rfl, hb⟩
  have hs2 := hb.size
  have HB2 := Lib.hid (show Below w.heap.size w w2 from bl_trans (by repeat (first | with_reducible exact HB1.out | with_reducible refine Below.drew ?_ | with_reducible refine bl_drewN ?_ _ | with_reducible refine bl_alloc ?_ _)) hb)
  have HD2 := Lib.hid (show Below w1.heap.size w1 w2 from bl_trans (by repeat (first | with_reducible exact HD1.out | with_reducible refine Below.drew ?_ | with_reducible refine bl_drewN ?_ _ | with_reducible refine bl_alloc ?_ _)) hb)
  clear hb
  go_wp2_with fail
  refine (sHBoth_is _ At _ ct ts ?_ (by omega) b HV.out).mono ?_
  · exact tks_to HT.out (by repeat (first | with_reducible exact HD2.out | with_reducible refine Below.drew ?_ | with_reducible refine bl_drewN ?_ _ | with_reducible refine bl_alloc ?_ _))
  rintro e w3 ⟨rfl, hb⟩
  have hs3 := hb.size
  have HB3 := Lib.hid (show Below w.heap.size w w3 from bl_trans (by repeat (first | with_reducible exact HB2.out | with_reducible refine Below.drew ?_ | with_reducible refine bl_drewN ?_ _ | with_reducible refine bl_alloc ?_ _)) hb)
  have HD3 := Lib.hid (show Below w1.heap.size w1 w3 from bl_trans (by repeat (first | with_reducible exact HD2.out | with_reducible refine Below.drew ?_ | with_reducible refine bl_drewN ?_ _ | with_reducible refine bl_alloc ?_ _)) hb)
  clear hb
  cases b
  · clear hv
    go_wp2_with fail
    refine (sHBoth_is _ At _ ct ts ?_ (by omega) false HV.out).mono ?_
    · exact tks_to HT.out (by repeat (first | with_reducible exact HD3.out | with_reducible refine Below.drew ?_ | with_reducible refine bl_drewN ?_ _ | with_reducible refine bl_alloc ?_ _))
    rintro e w4 ⟨rfl, hb⟩
    have hs4 := hb.size
    have HB4 := Lib.hid (show Below w.heap.size w w4 from bl_trans (by repeat (first | with_reducible exact HB3.out | with_reducible refine Below.drew ?_ | with_reducible refine bl_drewN ?_ _ | with_reducible refine bl_alloc ?_ _)) hb)
    have HD4 := Lib.hid (show Below w1.heap.size w1 w4 from bl_trans (by repeat (first | with_reducible exact HD3.out | with_reducible refine Below.drew ?_ | with_reducible refine bl_drewN ?_ _ | with_reducible refine bl_alloc ?_ _)) hb)
    clear hb
    go_wp2
    go_ret
    exact ⟨rfl, by repeat (first | with_reducible exact HB4.out | refine bl_drewN ?_ _ | refine Below.drew ?_ | refine bl_alloc ?_ _)⟩
  have HPRE := Lib.hid (fun m => hBoth_pre hv m)
  clear hv
  rcases own_two HO.out with ⟨rfl, rfl, rfl⟩ | ⟨gg, rfl⟩
  · have HT0 : Hid (Tks w1 w1.heap.size none 0 []) := HT.out
    have i0 : (0 : Int) ≤ 0 := by omega
    go_wp2
    refine wp_loop_rounds 2 ?_
    rw [rounds_succ]
    go_wp2_with fail
    refine (iHBoth_is _ none 0 0 [] (tks_to HT0.out HD3.out) (by omega) (by omega) true (HPRE.out 0)).mono ?_
    rintro e w5 ⟨rfl, hb⟩
    have HB5 := Lib.hid (bl_trans HB3.out hb)
    go_wp2
    rw [rounds_succ]
    go_wp2
    go_ret
    exact ⟨rfl, HB5.out⟩
  · skip
    go_wp2
    go_loopw [5] (fun i wr => ∃ j : Nat, j ≤ ts.length + 1 ∧ i = .int .i64 j ∧ Below w3.heap.size w3 wr) (fun i _ => ts.length + 1 - (intOf i).toNat)
    case atStart => exact ⟨0, by omega, rfl, Below.refl _ _⟩
    case round =>
      obtain ⟨j, hj, rfl, hb⟩ := hrel
      have HD4 := Lib.hid (bl_trans HD3.out hb)
      have HB4 := Lib.hid (bl_trans HB3.out hb)
      have HW := Lib.hid hb
      clear hb
      by_cases hjk : j ≤ ts.length
      · have i1 : (j : Int) ≤ (ts.length : Int) := by omega
        have i2 : (j : Int) ≤ (ct : Int) := by omega
        go_wp2_with fail
        refine (iHBoth_is _ (some ⟨gg, 0, none⟩) j ct (ts.take j) (Tks.take (tks_to HT.out HD4.out) hjk) (by omega) (by omega) true (HPRE.out j)).mono ?_
        rintro e w5 ⟨rfl, hb⟩
        go_wp2
        go_roundw
        case rel => exact ⟨j + 1, by omega, by go_num, bl_trans HW.out hb⟩
        case measure => simp [intOf]; omega
      · have i1 : ¬ (j : Int) ≤ (ts.length : Int) := by omega
        go_wp2
        go_ret
        exact ⟨rfl, HB4.out⟩

end Go.Proofs.Ytobkbbgllapcoab
