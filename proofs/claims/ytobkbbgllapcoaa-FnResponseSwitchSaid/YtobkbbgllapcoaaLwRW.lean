/- The walk of the law that switches take longest. -/
import Derived.Test.YtobkbbgllapcoaaLwK
import Derived.Test.YtobkbbgllapcoaaDr3
import Derived.Test.YtobkbbgllapcoaaHold
import Derived.Test.YtobkbbgllapcoaaRespS
namespace Go.Proofs.Ytobkbbgllapcoaa
open Go.RowKit
set_option linter.unusedVariables false

set_option maxRecDepth 100000 in
set_option maxHeartbeats 4000000 in
theorem fnResponseSwitch_walk (w : World) (A : Option Addr) (n c : Nat) (f : Nat → Int) (h : Code w w.heap.size A n c f) :
    Calls Try.prog 6 #[.slice A n c] w fun e w' => e = .returned (.bool true) ∧ Below w.heap.size w w' := by
  have H := Lib.hid h
  have hle := h.le
  have hmax := h.max
  unfold maxLen at hmax
  clear h
  by_cases hn : 1048576 < n
  · go_enter Try.func6, Try.ntmps6
    go_wp2
    go_ret
    exact ⟨rfl, Below.refl _ _⟩
  go_enter Try.func6, Try.ntmps6
  go_wp2_with fail
  refine (dDrawResponseSwitch_any _ A n c f H.out).mono ?_
  rintro e w1 ⟨At, ct, ts, z, rfl, hl, z0, z1, ho, hb⟩
  have HB1 := Lib.hid hb
  have HO := Lib.hid ho
  have HT := Lib.hid ho.reads.2
  have hct := own_le ho
  clear hb ho H
  have HD1 := Lib.hid (Below.refl w1.heap.size w1)
  have hs1 := HB1.out.size
  obtain ⟨v, b, hv⟩ : ∃ v b, resN (atI (rSwi ts) z) = (v, b) := ⟨_, _, rfl⟩
  have HV := Lib.hid hv
  go_wp2_with fail
  refine (iRSwi_is _ At _ ct ts z ?_ (by omega) hct v b HV.out).mono ?_
  · exact tks_to HT.out (by repeat (first | with_reducible exact HD1.out | with_reducible refine Below.drew ?_ | with_reducible refine bl_drewN ?_ _ | with_reducible refine bl_alloc ?_ _))
  rintro e w2 ⟨rfl, hb⟩
  have hs2 := hb.size
  have HB2 := Lib.hid (show Below w.heap.size w w2 from bl_trans (by repeat (first | with_reducible exact HB1.out | with_reducible refine Below.drew ?_ | with_reducible refine bl_drewN ?_ _ | with_reducible refine bl_alloc ?_ _)) hb)
  have HD2 := Lib.hid (show Below w1.heap.size w1 w2 from bl_trans (by repeat (first | with_reducible exact HD1.out | with_reducible refine Below.drew ?_ | with_reducible refine bl_drewN ?_ _ | with_reducible refine bl_alloc ?_ _)) hb)
  clear hb
  go_wp2_with fail
  refine (sRSwi_is _ At _ ct ts z ?_ (by omega) v b HV.out).mono ?_
  · exact tks_to HT.out (by repeat (first | with_reducible exact HD2.out | with_reducible refine Below.drew ?_ | with_reducible refine bl_drewN ?_ _ | with_reducible refine bl_alloc ?_ _))
  rintro e w3 ⟨rfl, hb⟩
  have hs3 := hb.size
  have HB3 := Lib.hid (show Below w.heap.size w w3 from bl_trans (by repeat (first | with_reducible exact HB2.out | with_reducible refine Below.drew ?_ | with_reducible refine bl_drewN ?_ _ | with_reducible refine bl_alloc ?_ _)) hb)
  have HD3 := Lib.hid (show Below w1.heap.size w1 w3 from bl_trans (by repeat (first | with_reducible exact HD2.out | with_reducible refine Below.drew ?_ | with_reducible refine bl_drewN ?_ _ | with_reducible refine bl_alloc ?_ _)) hb)
  clear hb
  cases b
  · obtain ⟨hno, rfl⟩ := res_false hv
    clear hno hv
    go_wp2
    go_ret
    exact ⟨rfl, by repeat (first | with_reducible exact HB3.out | refine bl_drewN ?_ _ | refine Below.drew ?_ | refine bl_alloc ?_ _)⟩
  obtain ⟨k, rfl, hr⟩ := at_some (res_true hv)
  obtain ⟨hset, t, l, ht, hcr, hlow, hf⟩ := rSwi_some hr
  obtain ⟨x1, x2, x3, x4⟩ := swi_fix hf
  have hkl : k < ts.length := (List.getElem?_eq_some_iff.1 ht).1
  have h5 := setB_len hset
  have HSET := Lib.hid hset
  have HTA := Lib.hid ht
  have hok := set_ok hset (get_mem ht)
  have HLOW : Hid (resN (atI (rLow ts) (k : Int)) = (l, true)) := by show resN (atI _ _) = _; rw [at_nat, hlow]; rfl
  obtain ⟨gg, oo, rfl, hgl, _⟩ := HT.out.at_ k _ ht
  obtain ⟨l', r, hl', hr', hle1, hle2⟩ := swi_longest hr
  obtain rfl : l = l' := by rw [hlow] at hl'; exact Option.some.inj hl'
  have HHIGH : Hid (resN (atI (rHigh ts) (k : Int)) = (r, true)) := by show resN (atI _ _) = _; rw [at_nat, hr']; rfl
  obtain ⟨lo, hi, du, ev, cr, rfl, p1, p2, p3, p4, p5⟩ := task_nat hok
  have y3 : v ≤ du := x3
  have q1 : (l : Int) ≤ (v : Int) := by omega
  have q2 : (r : Int) ≤ (v : Int) := by omega
  have q3 : (v : Int) ≤ (du : Int) := by omega
  have i1 : (k : Int) < (ts.length : Int) := by omega
  clear hv hr hf ht hset x1 x4 x2 x3 hok hlow hcr hl' hr' 
  go_wp2_with fail
  refine (iRLow_is _ _ _ ct ts (k : Int) ?_ (by omega) hct l true HLOW.out).mono ?_
  · exact tks_to HT.out (by repeat (first | with_reducible exact HD3.out | with_reducible refine Below.drew ?_ | with_reducible refine bl_drewN ?_ _ | with_reducible refine bl_alloc ?_ _))
  rintro e w4 ⟨rfl, hb⟩
  have hs4 := hb.size
  have HB4 := Lib.hid (show Below w.heap.size w w4 from bl_trans (by repeat (first | with_reducible exact HB3.out | with_reducible refine Below.drew ?_ | with_reducible refine bl_drewN ?_ _ | with_reducible refine bl_alloc ?_ _)) hb)
  have HD4 := Lib.hid (show Below w1.heap.size w1 w4 from bl_trans (by repeat (first | with_reducible exact HD3.out | with_reducible refine Below.drew ?_ | with_reducible refine bl_drewN ?_ _ | with_reducible refine bl_alloc ?_ _)) hb)
  clear hb
  go_wp2_with fail
  refine (iRHigh_is _ _ _ ct ts (k : Int) ?_ (by omega) hct r true HHIGH.out).mono ?_
  · exact tks_to HT.out (by repeat (first | with_reducible exact HD4.out | with_reducible refine Below.drew ?_ | with_reducible refine bl_drewN ?_ _ | with_reducible refine bl_alloc ?_ _))
  rintro e w5 ⟨rfl, hb⟩
  have hs5 := hb.size
  have HB5 := Lib.hid (show Below w.heap.size w w5 from bl_trans (by repeat (first | with_reducible exact HB4.out | with_reducible refine Below.drew ?_ | with_reducible refine bl_drewN ?_ _ | with_reducible refine bl_alloc ?_ _)) hb)
  have HD5 := Lib.hid (show Below w1.heap.size w1 w5 from bl_trans (by repeat (first | with_reducible exact HD4.out | with_reducible refine Below.drew ?_ | with_reducible refine bl_drewN ?_ _ | with_reducible refine bl_alloc ?_ _)) hb)
  clear hb
  have CC := (Tks.get (tks_to HT.out HD5.out) HTA.out).2
  obtain ⟨c0, c1, c2, c3, c4⟩ := CC
  dsimp only at c0 c1 c2 c3 c4
  go_wp2
  go_ret
  exact ⟨rfl, by repeat (first | with_reducible exact HB5.out | refine bl_drewN ?_ _ | refine Below.drew ?_ | refine bl_alloc ?_ _)⟩

end Go.Proofs.Ytobkbbgllapcoaa
