/- The walk of the exact law of DueAt. -/
import Derived.Test.YthoaacgmpmdjnabExMark
import Derived.Test.YthoaacgmpmdjnabExJ
import Derived.Test.YthoaacgmpmdjnabM4
import Derived.Test.YthoaacgmpmdjnabM3
import Derived.Test.YthoaacgmpmdjnabM5
namespace Go.Proofs.Ythoaacgmpmdjnab
open Go.RowKit
set_option linter.unusedVariables false

set_option maxRecDepth 100000 in
set_option maxHeartbeats 4000000 in
theorem fnExactDueAt_walk (w : World) (A : Option Addr) (n c : Nat) (ts : List Tk) (h : Tks w w.heap.size A n ts) (hmax : n ≤ 9223372036854775807) (ta tm ne : Int) :
    Calls Try.prog 7 #[.slice A n c, .agg #[.int .i64 ta, .int .i64 tm, .int .i64 ne]] w fun e w' => e = .returned (.bool true) ∧ Below w.heap.size w w' := by
  have HT0 := Lib.hid h
  have HL := Lib.hid h.len
  clear h
  by_cases hn : 1048576 < n
  · go_enter Try.func7, Try.ntmps7
    go_wp2_with fail
    refine (sz_any _ A n c hmax).mono ?_
    rintro e w1 ⟨rfl, rfl⟩
    rw [if_pos (by omega)]
    go_wp2
    go_ret
    exact ⟨rfl, by repeat (first | with_reducible exact Below.refl _ _ | refine bl_alloc ?_ _)⟩
  have htl : ts.length ≤ 1048576 := by rw [HL.out]; omega
  obtain ⟨b, z, hr⟩ : ∃ b z, dueJ ts ⟨ta, tm, ne⟩ = (b, z) := ⟨_, _, rfl⟩
  go_enter Try.func7, Try.ntmps7
  go_wp2_with fail
  refine (sz_any _ A n c hmax).mono ?_
  rintro e w1 ⟨rfl, rfl⟩
  rw [if_neg (by omega)]
  have HB0 : Hid (Below w.heap.size w w) := Below.refl _ _
  have hs0 := HB0.out.size
  have BJ1 := Lib.hid (Blk.new w 52 #[.int .i64 ta, .int .i64 tm, .int .i64 ne])
  have HB1 := Lib.hid (show Below w.heap.size w (w.alloc (.cells #[.int .i64 ta, .int .i64 tm, .int .i64 ne] 52)) from bl_alloc (Below.refl _ _) _)
  have HT1 := Lib.hid (tks_to6 HT0.out (show Below w.heap.size w (w.alloc (.cells #[.int .i64 ta, .int .i64 tm, .int .i64 ne] 52)) from bl_alloc (Below.refl _ _) _))
  clear HB0 hs0 HT0
  generalize (w.alloc (.cells #[.int .i64 ta, .int .i64 tm, .int .i64 ne] 52)) = w1 at *
  generalize hbJ : w.heap.size = bJ at BJ1 ⊢
  have hs1 := HB1.out.size
  have E1 : w1.cell? ⟨bJ, 0, none⟩ = some (.int .i64 ta) ∧ w1.cell? ⟨bJ, 1, none⟩ = some (.int .i64 tm) ∧ w1.cell? ⟨bJ, 2, none⟩ = some (.int .i64 ne) := ⟨BJ1.out.cell 0, BJ1.out.cell 1, BJ1.out.cell 2⟩
  go_wp2_with fail
  go_region_held3 (fun W => W.cell? ⟨bJ, 0, none⟩ = some (.int .i64 ta) ∧ W.cell? ⟨bJ, 1, none⟩ = some (.int .i64 tm) ∧ W.cell? ⟨bJ, 2, none⟩ = some (.int .i64 ne)) (first | exact E1 | exact E2 | exact E3 | exact E4 | assumption | (simp [go_sem, *]; done))
    ((first | (go_at_call 22; refine (toTaskS_any _ A n c ts (tks_to6 HT1.out (by repeat (first | with_reducible exact Below.refl _ _ | with_reducible refine Below.drew ?_ | with_reducible refine bl_drewN ?_ _ | with_reducible refine bl_alloc ?_ _))) (by omega)).mono ?_; rintro e w2 ⟨AU, cU, rfl, ho, hb⟩; have HS2 := Lib.hid (show Below w1.heap.size w1 w2 from bl_trans (by repeat (first | with_reducible exact Below.refl _ _ | with_reducible refine Below.drew ?_ | with_reducible refine bl_drewN ?_ _ | with_reducible refine bl_alloc ?_ _)) hb); have HB2 := Lib.hid (bl_trans HB1.out HS2.out); have hs2 := HB2.out.size; have hq2 := HS2.out.size; have HT2 := Lib.hid (tks_to6 HT1.out HS2.out); have BJ2 := Lib.hid (Blk.below BJ1.out (by first | exact HS2.out | exact bl_trans (by repeat (first | with_reducible exact Below.refl _ _ | with_reducible refine Below.drew ?_ | with_reducible refine bl_drewN ?_ _ | with_reducible refine bl_alloc ?_ _)) hb) BJ1.out.lt); have HU2 := Lib.hid ho.reads.2; clear ho; clear hb; have E2 : w2.cell? ⟨bJ, 0, none⟩ = some (.int .i64 ta) ∧ w2.cell? ⟨bJ, 1, none⟩ = some (.int .i64 tm) ∧ w2.cell? ⟨bJ, 2, none⟩ = some (.int .i64 ne) := ⟨BJ2.out.cell 0, BJ2.out.cell 1, BJ2.out.cell 2⟩) | (go_at_call 33; refine (toJob_any ta tm ne _).mono ?_; rintro e w3 ⟨rfl, hb⟩; have HS3 := Lib.hid (show Below w2.heap.size w2 w3 from bl_trans (by repeat (first | with_reducible exact Below.refl _ _ | with_reducible refine Below.drew ?_ | with_reducible refine bl_drewN ?_ _ | with_reducible refine bl_alloc ?_ _)) hb); have HB3 := Lib.hid (bl_trans HB2.out HS3.out); have hs3 := HB3.out.size; have hq3 := HS3.out.size; have HT3 := Lib.hid (tks_to6 HT2.out HS3.out); have BJ3 := Lib.hid (Blk.below BJ2.out (by first | exact HS3.out | exact bl_trans (by repeat (first | with_reducible exact Below.refl _ _ | with_reducible refine Below.drew ?_ | with_reducible refine bl_drewN ?_ _ | with_reducible refine bl_alloc ?_ _)) hb) BJ2.out.lt); have HU3 := Lib.hid (tks_to6 HU2.out HS3.out); clear hb; have E3 : w3.cell? ⟨bJ, 0, none⟩ = some (.int .i64 ta) ∧ w3.cell? ⟨bJ, 1, none⟩ = some (.int .i64 tm) ∧ w3.cell? ⟨bJ, 2, none⟩ = some (.int .i64 ne) := ⟨BJ3.out.cell 0, BJ3.out.cell 1, BJ3.out.cell 2⟩) | (go_at_call 32; refine (sDueAt_is _ AU _ cU ts (tks_to6 HU3.out (by repeat (first | with_reducible exact Below.refl _ _ | with_reducible refine Below.drew ?_ | with_reducible refine bl_drewN ?_ _ | with_reducible refine bl_alloc ?_ _))) htl ⟨ta, tm, ne⟩ b z hr).mono ?_; rintro e w4 ⟨rfl, hb⟩; have HS4 := Lib.hid (show Below w3.heap.size w3 w4 from bl_trans (by repeat (first | with_reducible exact Below.refl _ _ | with_reducible refine Below.drew ?_ | with_reducible refine bl_drewN ?_ _ | with_reducible refine bl_alloc ?_ _)) hb); have HB4 := Lib.hid (bl_trans HB3.out HS4.out); have hs4 := HB4.out.size; have hq4 := HS4.out.size; have HT4 := Lib.hid (tks_to6 HT3.out HS4.out); have BJ4 := Lib.hid (Blk.below BJ3.out (by first | exact HS4.out | exact bl_trans (by repeat (first | with_reducible exact Below.refl _ _ | with_reducible refine Below.drew ?_ | with_reducible refine bl_drewN ?_ _ | with_reducible refine bl_alloc ?_ _)) hb) BJ3.out.lt); have HU4 := Lib.hid (tks_to6 HU3.out HS4.out); clear hb; have E4 : w4.cell? ⟨bJ, 0, none⟩ = some (.int .i64 ta) ∧ w4.cell? ⟨bJ, 1, none⟩ = some (.int .i64 tm) ∧ w4.cell? ⟨bJ, 2, none⟩ = some (.int .i64 ne) := ⟨BJ4.out.cell 0, BJ4.out.cell 1, BJ4.out.cell 2⟩)))
  go_wp2_with fail
  refine (toTaskS_any _ A n c ts (tks_to6 HT4.out (by repeat (first | with_reducible exact Below.refl _ _ | with_reducible refine Below.drew ?_ | with_reducible refine bl_drewN ?_ _ | with_reducible refine bl_alloc ?_ _))) (by omega)).mono ?_
  rintro e w5 ⟨AV, cV, rfl, ho, hb⟩
  have HS5 := Lib.hid (show Below w4.heap.size w4 w5 from bl_trans (by repeat (first | with_reducible exact Below.refl _ _ | with_reducible refine Below.drew ?_ | with_reducible refine bl_drewN ?_ _ | with_reducible refine bl_alloc ?_ _)) hb)
  have HB5 := Lib.hid (bl_trans HB4.out HS5.out)
  have hs5 := HB5.out.size
  have hq5 := HS5.out.size
  have HT5 := Lib.hid (tks_to6 HT4.out HS5.out)
  have BJ5 := Lib.hid (Blk.below BJ4.out (by first | exact HS5.out | exact bl_trans (by repeat (first | with_reducible exact Below.refl _ _ | with_reducible refine Below.drew ?_ | with_reducible refine bl_drewN ?_ _ | with_reducible refine bl_alloc ?_ _)) hb) BJ4.out.lt)
  have HV5 := Lib.hid ho.reads.2
  clear ho
  clear hb
  have cJ := BJ5.out.cell
  go_wp2_with fail
  refine (toJob_any ta tm ne _).mono ?_
  rintro e w6 ⟨rfl, hb⟩
  have HS6 := Lib.hid (show Below w5.heap.size w5 w6 from bl_trans (by repeat (first | with_reducible exact Below.refl _ _ | with_reducible refine Below.drew ?_ | with_reducible refine bl_drewN ?_ _ | with_reducible refine bl_alloc ?_ _)) hb)
  have HB6 := Lib.hid (bl_trans HB5.out HS6.out)
  have hs6 := HB6.out.size
  have hq6 := HS6.out.size
  have HT6 := Lib.hid (tks_to6 HT5.out HS6.out)
  have BJ6 := Lib.hid (Blk.below BJ5.out (by first | exact HS6.out | exact bl_trans (by repeat (first | with_reducible exact Below.refl _ _ | with_reducible refine Below.drew ?_ | with_reducible refine bl_drewN ?_ _ | with_reducible refine bl_alloc ?_ _)) hb) BJ5.out.lt)
  have HV6 := Lib.hid (tks_to6 HV5.out HS6.out)
  clear cJ
  clear hb
  go_wp2_with fail
  refine (iDueAt_is _ AV _ cV ts (tks_to6 HV6.out (by repeat (first | with_reducible exact Below.refl _ _ | with_reducible refine Below.drew ?_ | with_reducible refine bl_drewN ?_ _ | with_reducible refine bl_alloc ?_ _))) htl ⟨ta, tm, ne⟩ b z hr).mono ?_
  rintro e w7 ⟨rfl, hb⟩
  have HS7 := Lib.hid (show Below w6.heap.size w6 w7 from bl_trans (by repeat (first | with_reducible exact Below.refl _ _ | with_reducible refine Below.drew ?_ | with_reducible refine bl_drewN ?_ _ | with_reducible refine bl_alloc ?_ _)) hb)
  have HB7 := Lib.hid (bl_trans HB6.out HS7.out)
  have hs7 := HB7.out.size
  have hq7 := HS7.out.size
  have HT7 := Lib.hid (tks_to6 HT6.out HS7.out)
  have BJ7 := Lib.hid (Blk.below BJ6.out (by first | exact HS7.out | exact bl_trans (by repeat (first | with_reducible exact Below.refl _ _ | with_reducible refine Below.drew ?_ | with_reducible refine bl_drewN ?_ _ | with_reducible refine bl_alloc ?_ _)) hb) BJ6.out.lt)
  have HV7 := Lib.hid (tks_to6 HV6.out HS7.out)
  clear hb
  go_wp2_with fail
  refine (toTaskS_any _ A n c ts (tks_to6 HT7.out (by repeat (first | with_reducible exact Below.refl _ _ | with_reducible refine Below.drew ?_ | with_reducible refine bl_drewN ?_ _ | with_reducible refine bl_alloc ?_ _))) (by omega)).mono ?_
  rintro e w8 ⟨AW, cW, rfl, ho, hb⟩
  have HS8 := Lib.hid (show Below w7.heap.size w7 w8 from bl_trans (by repeat (first | with_reducible exact Below.refl _ _ | with_reducible refine Below.drew ?_ | with_reducible refine bl_drewN ?_ _ | with_reducible refine bl_alloc ?_ _)) hb)
  have HB8 := Lib.hid (bl_trans HB7.out HS8.out)
  have hs8 := HB8.out.size
  have hq8 := HS8.out.size
  have HT8 := Lib.hid (tks_to6 HT7.out HS8.out)
  have BJ8 := Lib.hid (Blk.below BJ7.out (by first | exact HS8.out | exact bl_trans (by repeat (first | with_reducible exact Below.refl _ _ | with_reducible refine Below.drew ?_ | with_reducible refine bl_drewN ?_ _ | with_reducible refine bl_alloc ?_ _)) hb) BJ7.out.lt)
  have HV8 := Lib.hid (tks_to6 HV7.out HS8.out)
  have HW8 := Lib.hid ho.reads.2
  clear ho
  clear hb
  go_wp2_with fail
  refine (eqTaskS_any _ AV AW _ cV cW ts (tks_to6 HV8.out (by repeat (first | with_reducible exact Below.refl _ _ | with_reducible refine Below.drew ?_ | with_reducible refine bl_drewN ?_ _ | with_reducible refine bl_alloc ?_ _))) (tks_to6 HW8.out (by repeat (first | with_reducible exact Below.refl _ _ | with_reducible refine Below.drew ?_ | with_reducible refine bl_drewN ?_ _ | with_reducible refine bl_alloc ?_ _))) (by omega)).mono ?_
  rintro e w9 ⟨rfl, hb⟩
  have HS9 := Lib.hid (show Below w8.heap.size w8 w9 from bl_trans (by repeat (first | with_reducible exact Below.refl _ _ | with_reducible refine Below.drew ?_ | with_reducible refine bl_drewN ?_ _ | with_reducible refine bl_alloc ?_ _)) hb)
  have HB9 := Lib.hid (bl_trans HB8.out HS9.out)
  have hs9 := HB9.out.size
  have hq9 := HS9.out.size
  have HT9 := Lib.hid (tks_to6 HT8.out HS9.out)
  have BJ9 := Lib.hid (Blk.below BJ8.out (by first | exact HS9.out | exact bl_trans (by repeat (first | with_reducible exact Below.refl _ _ | with_reducible refine Below.drew ?_ | with_reducible refine bl_drewN ?_ _ | with_reducible refine bl_alloc ?_ _)) hb) BJ8.out.lt)
  have HV9 := Lib.hid (tks_to6 HV8.out HS9.out)
  have HW9 := Lib.hid (tks_to6 HW8.out HS9.out)
  clear hb
  go_wp2
  go_ret
  exact ⟨rfl, by repeat (first | with_reducible exact HB9.out | refine bl_drewN ?_ _ | refine Below.drew ?_ | refine bl_alloc ?_ _)⟩

end Go.Proofs.Ythoaacgmpmdjnab
