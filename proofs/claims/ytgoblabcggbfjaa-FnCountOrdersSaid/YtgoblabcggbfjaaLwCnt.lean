/- The walk of the law FnCountOrders. -/
import Derived.Test.YtgoblabcggbfjaaMA
import Derived.Test.YtgoblabcggbfjaaMB
import Derived.Test.YtgoblabcggbfjaaLwX4z
namespace Go.Proofs.Ytgoblabcggbfjaa
open Go.RowKit
set_option linter.unusedVariables false

def fctN (k : Nat) : Nat := [1, 1, 2, 6, 24, 120, 720, 5040].getD k 0
theorem fct_mul {k : Nat} (h1 : 2 ≤ k) (h2 : k ≤ 6) : IntKind.i64.wrap ((fctN (k - 1) : Int) * (k : Int)) = (fctN k : Int) := by
  rcases (by omega : k = 2 ∨ k = 3 ∨ k = 4 ∨ k = 5 ∨ k = 6) with rfl | rfl | rfl | rfl | rfl <;> decide
theorem cnt_fct (ts : List Tk) : cntOf ts ≤ fctN ts.length := by
  rcases cnt_most (ts := ts) with h | h
  · refine Nat.le_trans h ?_
    unfold fctN
    by_cases hl : ts.length ≤ 5
    · rcases (by omega : ts.length = 0 ∨ ts.length = 1 ∨ ts.length = 2 ∨ ts.length = 3 ∨ ts.length = 4 ∨ ts.length = 5) with e | e | e | e | e | e <;> rw [e] <;> decide
    · have : [1, 1, 2, 6, 24, 120].getD ts.length 0 = 0 := by rw [List.getD_eq_getElem?_getD, List.getElem?_eq_none (by simp; omega)]; rfl
      rw [this]; exact Nat.zero_le _
  · rw [cnt_bad h]; exact Nat.zero_le _
theorem cnt_both {ts : List Tk} (h : hBoth ts = true) : 0 < cntOf ts := by
  have := cnt_any ts
  rw [any_self h] at this
  simpa using this

set_option maxRecDepth 100000 in
set_option maxHeartbeats 4000000 in
theorem fnCountOrders_walk (w : World) (A : Option Addr) (n c : Nat) (f : Nat → Int) (h : Code w w.heap.size A n c f) :
    Calls Try.prog 4 #[.slice A n c] w fun e w' => e = .returned (.bool true) ∧ Below w.heap.size w w' := by
  have H := Lib.hid h
  have hle := h.le
  have hmax := h.max
  unfold maxLen at hmax
  clear h
  by_cases hn : 1048576 < n
  · go_enter Try.func4, Try.ntmps4
    go_wp2
    go_ret
    exact ⟨rfl, Below.refl _ _⟩
  go_enter Try.func4, Try.ntmps4
  go_wp2_with fail
  refine (dDrawCountOrders_any _ A n c f H.out).mono ?_
  rintro e w1 ⟨At, ct, ts, rfl, hl, ho, hb⟩
  have HB1 := Lib.hid hb
  have HO := Lib.hid ho
  have HT := Lib.hid ho.reads.2
  have hct := own_le ho
  clear hb ho H
  have HD1 := Lib.hid (Below.refl w1.heap.size w1)
  have hs1 := HB1.out.size
  obtain ⟨r, hr⟩ : ∃ r, cntOf ts = r := ⟨_, rfl⟩
  have HR := Lib.hid hr
  go_wp2_with fail
  refine (iCount_is _ At _ ct ts ?_ (by omega) r HR.out).mono ?_
  · exact tks_to HT.out (by repeat (first | with_reducible exact HD1.out | with_reducible refine Below.drew ?_ | with_reducible refine bl_drewN ?_ _ | with_reducible refine bl_alloc ?_ _))
  rintro e w2 ⟨rfl, hb⟩
  have hs2 := hb.size
  have HB2 := Lib.hid (show Below w.heap.size w w2 from bl_trans (by repeat (first | with_reducible exact HB1.out | with_reducible refine Below.drew ?_ | with_reducible refine bl_drewN ?_ _ | with_reducible refine bl_alloc ?_ _)) hb)
  have HD2 := Lib.hid (show Below w1.heap.size w1 w2 from bl_trans (by repeat (first | with_reducible exact HD1.out | with_reducible refine Below.drew ?_ | with_reducible refine bl_drewN ?_ _ | with_reducible refine bl_alloc ?_ _)) hb)
  clear hb
  go_wp2_with fail
  refine (sCount_is _ At _ ct ts ?_ (by omega) r HR.out).mono ?_
  · exact tks_to HT.out (by repeat (first | with_reducible exact HD2.out | with_reducible refine Below.drew ?_ | with_reducible refine bl_drewN ?_ _ | with_reducible refine bl_alloc ?_ _))
  rintro e w3 ⟨rfl, hb⟩
  have hs3 := hb.size
  have HB3 := Lib.hid (show Below w.heap.size w w3 from bl_trans (by repeat (first | with_reducible exact HB2.out | with_reducible refine Below.drew ?_ | with_reducible refine bl_drewN ?_ _ | with_reducible refine bl_alloc ?_ _)) hb)
  have HD3 := Lib.hid (show Below w1.heap.size w1 w3 from bl_trans (by repeat (first | with_reducible exact HD2.out | with_reducible refine Below.drew ?_ | with_reducible refine bl_drewN ?_ _ | with_reducible refine bl_alloc ?_ _)) hb)
  clear hb
  obtain ⟨us, b, hu⟩ : ∃ us b, asgR (anyOf ts) = us ∧ (anyOf ts).isSome = b := ⟨_, _, rfl, rfl⟩
  have HU := Lib.hid hu
  have HBR : Hid (decide (0 < r) = b) := by show _ = _; rw [← hr, cnt_any]; exact hu.2
  have HF : Hid (r ≤ fctN ts.length) := by show _ ≤ _; rw [← hr]; exact cnt_fct ts
  have HH : Hid (hBoth ts = true → 0 < r) := fun h => by rw [← hr]; exact cnt_both h
  clear hr hu
  go_wp2_with fail
  refine (iAny_at _ At _ ct ts us b ?_ (by omega) HU.out).mono ?_
  · exact tks_to HT.out (by repeat (first | with_reducible exact HD3.out | with_reducible refine Below.drew ?_ | with_reducible refine bl_drewN ?_ _ | with_reducible refine bl_alloc ?_ _))
  rintro e w4 ⟨Aa, ca, rfl, ho, hb⟩
  have hs4 := hb.size
  have HB4 := Lib.hid (show Below w.heap.size w w4 from bl_trans (by repeat (first | with_reducible exact HB3.out | with_reducible refine Below.drew ?_ | with_reducible refine bl_drewN ?_ _ | with_reducible refine bl_alloc ?_ _)) hb)
  have HD4 := Lib.hid (show Below w1.heap.size w1 w4 from bl_trans (by repeat (first | with_reducible exact HD3.out | with_reducible refine Below.drew ?_ | with_reducible refine bl_drewN ?_ _ | with_reducible refine bl_alloc ?_ _)) hb)
  clear hb
  clear ho
  go_wp2
  go_loopw [7, 8] (fun m i wr => ∃ k : Nat, 2 ≤ k ∧ k ≤ 7 ∧ (k ≤ ts.length + 1 ∨ k = 2) ∧ i = .int .i64 k ∧ m = .int .i64 (fctN (k - 1) : Int) ∧ Below w.heap.size w wr ∧ Below w1.heap.size w1 wr) (fun _ i _ => 8 - (intOf i).toNat)
  case atStart => exact ⟨2, Nat.le_refl _, by omega, .inr rfl, rfl, rfl, HB4.out, HD4.out⟩
  case round =>
    obtain ⟨k, hk2, hk7, hkl, rfl, rfl, hb, hd⟩ := hrel
    have HB9 := Lib.hid hb
    have HD9 := Lib.hid hd
    clear hb hd
    by_cases hlt : k ≤ ts.length
    · have hki : (k : Int) ≤ (ts.length : Int) := by omega
      have hw := fct_mul hk2 (by omega : k ≤ 6)
      go_wp2
      go_roundw
      case rel => exact ⟨k + 1, by omega, by omega, .inl (by omega), by go_num, by rw [Nat.add_sub_cancel], HB9.out, HD9.out⟩
      case measure => simp [intOf]; omega
    · have hki : ¬ (k : Int) ≤ (ts.length : Int) := by omega
      have hf : fctN ts.length ≤ fctN (k - 1) := by
        rcases (by omega : ts.length = k - 1 ∨ (ts.length = 0 ∧ k = 2)) with e | ⟨e, rfl⟩
        · rw [e]; exact Nat.le_refl _
        · rw [e]; decide
      have hrm : (r : Int) ≤ (fctN (k - 1) : Int) := by have := HF.out; omega
      clear hf
      obtain ⟨m, hm⟩ : ∃ m, fctN (k - 1) = m := ⟨_, rfl⟩
      rw [hm] at hrm
      simp only [hm]
      clear hm
      obtain ⟨q, hq⟩ : ∃ q, hBoth ts = q := ⟨_, rfl⟩
      have HQ := Lib.hid hq
      have hH := HH.out
      rw [hq] at hH
      have hbr := HBR.out
      clear hq
      cases b
      · obtain rfl : r = 0 := by simpa using hbr
        obtain rfl : q = false := by cases q; rfl; exact absurd (hH rfl) (by omega)
        clear hbr hH
        go_wp2_with fail
        refine (iHBoth_is _ At _ ct ts (tks_to HT.out HD9.out) (by omega) hct false HQ.out).mono ?_
        rintro e w9 ⟨rfl, hb⟩
        have HBX := Lib.hid (bl_trans HB9.out hb)
        clear hb
        go_wp2
        go_ret
        exact ⟨rfl, HBX.out⟩
      · have hr0 : 0 < r := of_decide_eq_true hbr
        have hri : (0 : Int) < (r : Int) := by omega
        clear hbr hH
        go_wp2_with fail
        refine (iHBoth_is _ At _ ct ts (tks_to HT.out HD9.out) (by omega) hct q HQ.out).mono ?_
        rintro e w9 ⟨rfl, hb⟩
        have HBX := Lib.hid (bl_trans HB9.out hb)
        clear hb
        cases q
        · go_wp2
          go_ret
          exact ⟨rfl, HBX.out⟩
        · go_wp2
          go_ret
          exact ⟨rfl, HBX.out⟩

end Go.Proofs.Ytgoblabcggbfjaa
