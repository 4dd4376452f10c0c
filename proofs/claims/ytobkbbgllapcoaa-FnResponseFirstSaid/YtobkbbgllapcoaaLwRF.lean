/- The walk of the law that the first task goes first. -/
import Derived.Test.YtobkbbgllapcoaaLwK
import Derived.Test.YtobkbbgllapcoaaDr3
import Derived.Test.YtobkbbgllapcoaaHold
import Derived.Test.YtobkbbgllapcoaaRespS
namespace Go.Proofs.Ytobkbbgllapcoaa
open Go.RowKit
set_option linter.unusedVariables false

set_option maxRecDepth 100000 in
set_option maxHeartbeats 4000000 in
theorem fnResponseFirst_walk (w : World) (A : Option Addr) (n c : Nat) (f : Nat → Int) (h : Code w w.heap.size A n c f) :
    Calls Try.prog 12 #[.slice A n c] w fun e w' => e = .returned (.bool true) ∧ Below w.heap.size w w' := by
  have H := Lib.hid h
  have hle := h.le
  have hmax := h.max
  unfold maxLen at hmax
  clear h
  by_cases hn : 1048576 < n
  · go_enter Try.func12, Try.ntmps12
    go_wp2
    go_ret
    exact ⟨rfl, Below.refl _ _⟩
  go_enter Try.func12, Try.ntmps12
  go_wp2_with fail
  refine (dDrawResponseLow_any _ A n c f H.out).mono ?_
  rintro e w1 ⟨At, ct, ts, z, rfl, hl, z0, z1, ho, hb⟩
  have HB1 := Lib.hid hb
  have HO := Lib.hid ho
  have HT := Lib.hid ho.reads.2
  have hct := own_le ho
  clear hb ho H
  have HD1 := Lib.hid (Below.refl w1.heap.size w1)
  have hs1 := HB1.out.size
  obtain ⟨v, b, hv⟩ : ∃ v b, resN (atI (rLow ts) z) = (v, b) := ⟨_, _, rfl⟩
  have HV := Lib.hid hv
  go_wp2_with fail
  refine (iRLow_is _ At _ ct ts z ?_ (by omega) hct v b HV.out).mono ?_
  · exact tks_to HT.out (by repeat (first | with_reducible exact HD1.out | with_reducible refine Below.drew ?_ | with_reducible refine bl_drewN ?_ _ | with_reducible refine bl_alloc ?_ _))
  rintro e w2 ⟨rfl, hb⟩
  have hs2 := hb.size
  have HB2 := Lib.hid (show Below w.heap.size w w2 from bl_trans (by repeat (first | with_reducible exact HB1.out | with_reducible refine Below.drew ?_ | with_reducible refine bl_drewN ?_ _ | with_reducible refine bl_alloc ?_ _)) hb)
  have HD2 := Lib.hid (show Below w1.heap.size w1 w2 from bl_trans (by repeat (first | with_reducible exact HD1.out | with_reducible refine Below.drew ?_ | with_reducible refine bl_drewN ?_ _ | with_reducible refine bl_alloc ?_ _)) hb)
  clear hb
  go_wp2_with fail
  refine (sRLow_is _ At _ ct ts z ?_ (by omega) v b HV.out).mono ?_
  · exact tks_to HT.out (by repeat (first | with_reducible exact HD2.out | with_reducible refine Below.drew ?_ | with_reducible refine bl_drewN ?_ _ | with_reducible refine bl_alloc ?_ _))
  rintro e w3 ⟨rfl, hb⟩
  have hs3 := hb.size
  have HB3 := Lib.hid (show Below w.heap.size w w3 from bl_trans (by repeat (first | with_reducible exact HB2.out | with_reducible refine Below.drew ?_ | with_reducible refine bl_drewN ?_ _ | with_reducible refine bl_alloc ?_ _)) hb)
  have HD3 := Lib.hid (show Below w1.heap.size w1 w3 from bl_trans (by repeat (first | with_reducible exact HD2.out | with_reducible refine Below.drew ?_ | with_reducible refine bl_drewN ?_ _ | with_reducible refine bl_alloc ?_ _)) hb)
  clear hb
  go_wp2_with fail
  refine (iSetValid_any _ At _ ct ts ?_ (by omega)).mono ?_
  · exact tks_to HT.out (by repeat (first | with_reducible exact HD3.out | with_reducible refine Below.drew ?_ | with_reducible refine bl_drewN ?_ _ | with_reducible refine bl_alloc ?_ _))
  rintro e w4 ⟨rfl, hb⟩
  have hs4 := hb.size
  have HB4 := Lib.hid (show Below w.heap.size w w4 from bl_trans (by repeat (first | with_reducible exact HB3.out | with_reducible refine Below.drew ?_ | with_reducible refine bl_drewN ?_ _ | with_reducible refine bl_alloc ?_ _)) hb)
  have HD4 := Lib.hid (show Below w1.heap.size w1 w4 from bl_trans (by repeat (first | with_reducible exact HD3.out | with_reducible refine Below.drew ?_ | with_reducible refine bl_drewN ?_ _ | with_reducible refine bl_alloc ?_ _)) hb)
  clear hb
  cases hs : setB ts
  · clear hv
    go_wp2
    go_ret
    exact ⟨rfl, by repeat (first | with_reducible exact HB4.out | refine bl_drewN ?_ _ | refine Below.drew ?_ | refine bl_alloc ?_ _)⟩
  by_cases h0 : ts.length = 0
  · have h0i : (ts.length : Int) = 0 := by omega
    clear hv
    go_wp2
    go_ret
    exact ⟨rfl, by repeat (first | with_reducible exact HB4.out | refine bl_drewN ?_ _ | refine Below.drew ?_ | refine bl_alloc ?_ _)⟩
  obtain ⟨t, ht⟩ := get_at (n := ts.length) rfl (show 0 < ts.length by omega)
  obtain ⟨gg, oo, rfl, hgl, _⟩ := HT.out.at_ 0 _ ht
  have hok := set_ok hs (get_mem ht)
  have HTA := Lib.hid ht
  have HX : Hid (resN (atI (rLow ts) 0) = (t.lo.toNat, true)) := by show resN (atI (rLow ts) ((0 : Nat) : Int)) = _; rw [at_nat, first_low hs ht]; rfl
  have h0i : ¬ (ts.length : Int) = 0 := by omega
  have hcase : (t.cr = true ∧ resN (atI (rSwi ts) 0) = (t.hi.toNat, true)) ∨ (t.cr = false ∧ resN (atI (rSwi ts) 0) = (0, false)) := by
    cases hc : t.cr
    · exact .inr ⟨rfl, by show resN (atI (rSwi ts) ((0 : Nat) : Int)) = _; rw [at_nat, rSwi_not ht hc]; rfl⟩
    · exact .inl ⟨rfl, by show resN (atI (rSwi ts) ((0 : Nat) : Int)) = _; rw [at_nat, first_swi hs ht hc]; rfl⟩
  obtain ⟨lo, hi, du, ev, cr, rfl, p1, p2, p3, p4, p5⟩ := task_nat hok
  have HX' : Hid (resN (atI (rLow ts) 0) = (lo, true)) := HX.out
  clear hv hs ht hok
  go_wp2_with fail
  refine (iRLow_is _ _ _ ct ts 0 ?_ (by omega) hct lo true HX'.out).mono ?_
  · exact tks_to HT.out (by repeat (first | with_reducible exact HD4.out | with_reducible refine Below.drew ?_ | with_reducible refine bl_drewN ?_ _ | with_reducible refine bl_alloc ?_ _))
  rintro e w5 ⟨rfl, hb⟩
  have hs5 := hb.size
  have HB5 := Lib.hid (show Below w.heap.size w w5 from bl_trans (by repeat (first | with_reducible exact HB4.out | with_reducible refine Below.drew ?_ | with_reducible refine bl_drewN ?_ _ | with_reducible refine bl_alloc ?_ _)) hb)
  have HD5 := Lib.hid (show Below w1.heap.size w1 w5 from bl_trans (by repeat (first | with_reducible exact HD4.out | with_reducible refine Below.drew ?_ | with_reducible refine bl_drewN ?_ _ | with_reducible refine bl_alloc ?_ _)) hb)
  clear hb
  rcases hcase with ⟨rfl, hsw⟩ | ⟨rfl, hsw⟩
  · have HSW : Hid (resN (atI (rSwi ts) 0) = (hi, true)) := hsw
    clear hsw
    go_wp2_with fail
    refine (iRSwi_is _ _ _ ct ts 0 ?_ (by omega) hct hi true HSW.out).mono ?_
    · exact tks_to HT.out (by repeat (first | with_reducible exact HD5.out | with_reducible refine Below.drew ?_ | with_reducible refine bl_drewN ?_ _ | with_reducible refine bl_alloc ?_ _))
    rintro e w6 ⟨rfl, hb⟩
    have hs6 := hb.size
    have HB6 := Lib.hid (show Below w.heap.size w w6 from bl_trans (by repeat (first | with_reducible exact HB5.out | with_reducible refine Below.drew ?_ | with_reducible refine bl_drewN ?_ _ | with_reducible refine bl_alloc ?_ _)) hb)
    have HD6 := Lib.hid (show Below w1.heap.size w1 w6 from bl_trans (by repeat (first | with_reducible exact HD5.out | with_reducible refine Below.drew ?_ | with_reducible refine bl_drewN ?_ _ | with_reducible refine bl_alloc ?_ _)) hb)
    clear hb
    have CC := (Tks.get (tks_to HT.out HD6.out) HTA.out).2
    simp only [Nat.zero_mul, Nat.add_zero] at CC
    obtain ⟨c0, c1, c2, c3, c4⟩ := CC
    dsimp only at c0 c1 c2 c3 c4
    have i1 : (0 : Int) < (ts.length : Int) := by omega
    have i3 : 0 < ts.length := by omega
    go_wp2
    go_ret
    exact ⟨rfl, by repeat (first | with_reducible exact HB6.out | refine bl_drewN ?_ _ | refine Below.drew ?_ | refine bl_alloc ?_ _)⟩
  · have HSW : Hid (resN (atI (rSwi ts) 0) = (0, false)) := hsw
    clear hsw
    go_wp2_with fail
    refine (iRSwi_is _ _ _ ct ts 0 ?_ (by omega) hct 0 false HSW.out).mono ?_
    · exact tks_to HT.out (by repeat (first | with_reducible exact HD5.out | with_reducible refine Below.drew ?_ | with_reducible refine bl_drewN ?_ _ | with_reducible refine bl_alloc ?_ _))
    rintro e w6 ⟨rfl, hb⟩
    have hs6 := hb.size
    have HB6 := Lib.hid (show Below w.heap.size w w6 from bl_trans (by repeat (first | with_reducible exact HB5.out | with_reducible refine Below.drew ?_ | with_reducible refine bl_drewN ?_ _ | with_reducible refine bl_alloc ?_ _)) hb)
    have HD6 := Lib.hid (show Below w1.heap.size w1 w6 from bl_trans (by repeat (first | with_reducible exact HD5.out | with_reducible refine Below.drew ?_ | with_reducible refine bl_drewN ?_ _ | with_reducible refine bl_alloc ?_ _)) hb)
    clear hb
    have CC := (Tks.get (tks_to HT.out HD6.out) HTA.out).2
    simp only [Nat.zero_mul, Nat.add_zero] at CC
    obtain ⟨c0, c1, c2, c3, c4⟩ := CC
    dsimp only at c0 c1 c2 c3 c4
    have i1 : (0 : Int) < (ts.length : Int) := by omega
    have i3 : 0 < ts.length := by omega
    go_wp2
    go_ret
    exact ⟨rfl, by repeat (first | with_reducible exact HB6.out | refine bl_drewN ?_ _ | refine Below.drew ?_ | refine bl_alloc ?_ _)⟩

end Go.Proofs.Ytobkbbgllapcoaa
