/- The walk of the law on busy times. -/
import Derived.Test.YtobkbbgllapcoaaLwK
import Derived.Test.YtobkbbgllapcoaaDv
import Derived.Test.YtobkbbgllapcoaaBusy
import Derived.Test.YtobkbbgllapcoaaRespB
namespace Go.Proofs.Ytobkbbgllapcoaa
open Go.RowKit
set_option linter.unusedVariables false

theorem hyper_small {ts : List Tk} (hs : setB ts = true) (h : ∀ t ∈ ts, Dv.smallTk t) : lcmL ts ≤ 120 := by
  refine Nat.le_of_dvd (by decide) (lcmL_least fun t ht => ?_)
  have o := ok_parts (set_ok hs ht)
  have hsm := (h t ht).2.2.2.2
  have hd : Dv.evD t.ev := by
    rcases hsm with h | h | h
    · exact h
    · omega
    · omega
  obtain ⟨z, hz⟩ := Int.eq_ofNat_of_zero_le (show 0 ≤ t.ev by omega)
  have h1 := hd.1
  rw [hz] at h1 ⊢
  refine Nat.dvd_of_mod_eq_zero ?_
  show 120 % (z : Int).toNat = 0
  rw [Int.toNat_natCast]
  exact_mod_cast h1

set_option maxRecDepth 100000 in
set_option maxHeartbeats 4000000 in
theorem fnBusyLow_walk (w : World) (A : Option Addr) (n c : Nat) (f : Nat → Int) (h : Code w w.heap.size A n c f) :
    Calls Try.prog 9 #[.slice A n c] w fun e w' => e = .returned (.bool true) ∧ Below w.heap.size w w' := by
  have H := Lib.hid h
  have hle := h.le
  have hmax := h.max
  unfold maxLen at hmax
  clear h
  by_cases hn : 1048576 < n
  · go_enter Try.func9, Try.ntmps9
    go_wp2
    go_ret
    exact ⟨rfl, Below.refl _ _⟩
  go_enter Try.func9, Try.ntmps9
  go_wp2_with fail
  refine (Dv.dDrawBusyLow_any _ A n c f H.out).mono ?_
  rintro e w1 ⟨At, ct, ts, rfl, hl, hsm, ho, hb⟩
  have HSM := Lib.hid hsm
  clear hsm
  have HB1 := Lib.hid hb
  have HO := Lib.hid ho
  have HT := Lib.hid ho.reads.2
  have hct := own_le ho
  clear hb ho H
  have HD1 := Lib.hid (Below.refl w1.heap.size w1)
  have hs1 := HB1.out.size
  obtain ⟨v, b, hv⟩ : ∃ v b, resN (bLow ts) = (v, b) := ⟨_, _, rfl⟩
  have HV := Lib.hid hv
  go_wp2_with fail
  refine (iBusy_is _ At _ ct ts ?_ (by omega) v b HV.out).mono ?_
  · exact tks_to HT.out (by repeat (first | with_reducible exact HD1.out | with_reducible refine Below.drew ?_ | with_reducible refine bl_drewN ?_ _ | with_reducible refine bl_alloc ?_ _))
  rintro e w2 ⟨rfl, hb⟩
  have hs2 := hb.size
  have HB2 := Lib.hid (show Below w.heap.size w w2 from bl_trans (by repeat (first | with_reducible exact HB1.out | with_reducible refine Below.drew ?_ | with_reducible refine bl_drewN ?_ _ | with_reducible refine bl_alloc ?_ _)) hb)
  have HD2 := Lib.hid (show Below w1.heap.size w1 w2 from bl_trans (by repeat (first | with_reducible exact HD1.out | with_reducible refine Below.drew ?_ | with_reducible refine bl_drewN ?_ _ | with_reducible refine bl_alloc ?_ _)) hb)
  clear hb
  go_wp2_with fail
  refine (sBusy_is _ At _ ct ts ?_ (by omega) v b HV.out).mono ?_
  · exact tks_to HT.out (by repeat (first | with_reducible exact HD2.out | with_reducible refine Below.drew ?_ | with_reducible refine bl_drewN ?_ _ | with_reducible refine bl_alloc ?_ _))
  rintro e w3 ⟨rfl, hb⟩
  have hs3 := hb.size
  have HB3 := Lib.hid (show Below w.heap.size w w3 from bl_trans (by repeat (first | with_reducible exact HB2.out | with_reducible refine Below.drew ?_ | with_reducible refine bl_drewN ?_ _ | with_reducible refine bl_alloc ?_ _)) hb)
  have HD3 := Lib.hid (show Below w1.heap.size w1 w3 from bl_trans (by repeat (first | with_reducible exact HD2.out | with_reducible refine Below.drew ?_ | with_reducible refine bl_drewN ?_ _ | with_reducible refine bl_alloc ?_ _)) hb)
  clear hb
  cases b
  · obtain ⟨hno, rfl⟩ := res_false hv
    clear hno hv
    go_wp2
    go_ret
    exact ⟨rfl, by repeat (first | with_reducible exact HB3.out | refine bl_drewN ?_ _ | refine Below.drew ?_ | refine bl_alloc ?_ _)⟩
  have hr := res_true hv
  obtain ⟨hset, hne, n1, n2, n3, _⟩ := bLow_some hr
  have hv120 : v ≤ 120 := Nat.le_trans n2 (hyper_small hset HSM.out)
  have h5 := setB_len hset
  have HSET := Lib.hid hset
  have HR := Lib.hid hr
  have N3 := Lib.hid n3
  clear hv hr hset hne n3
  go_wp2
  go_loopw [8, 9] (fun s i wr => ∃ j m : Nat, j ≤ ts.length ∧ i = .int .i64 j ∧ s = .int .i64 (m : Int) ∧ Hid (m = dLow (ts.take j) v) ∧ Below w3.heap.size w3 wr) (fun _ i _ => ts.length - (intOf i).toNat)
  case atStart => exact ⟨0, 0, Nat.zero_le _, rfl, rfl, (show 0 = _ by simp [dLow]), Below.refl _ _⟩
  case round =>
    obtain ⟨j, m, hj, rfl, rfl, HM, hb⟩ := hrel
    have HD4 := Lib.hid (bl_trans HD3.out hb)
    have HB4 := Lib.hid (bl_trans HB3.out hb)
    have HW := Lib.hid hb
    have hs4 := hb.size
    clear hb
    by_cases hjk : j < ts.length
    · obtain ⟨u, hu⟩ := get_at (n := ts.length) rfl hjk
      obtain ⟨gg, oo, rfl, hgl, _⟩ := HT.out.at_ j _ hu
      have C3 := (Tks.get (tks_to HT.out HD4.out) hu).2
      have hvu := set_ok HSET.out (get_mem hu)
      have HTu := Lib.hid (dLow_take hu v)
      have hb1 := dLow_bound (set_take HSET.out j) v
      have hb2 := dmd_bound hvu v false
      obtain ⟨d, hd⟩ : ∃ d, dmd u v false = d := ⟨_, rfl⟩
      rw [hd] at hb2
      have HDM := Lib.hid (dm_ok hvu (by omega) hd)
      have hm1 : m ≤ 100 * (v + 20) := by rw [HM.out]; omega
      have HM' : Hid (m + d = dLow (ts.take (j + 1)) v) := by show _ = _; rw [HTu.out, hd, HM.out]
      obtain ⟨r, fine, hrf⟩ : ∃ r fine, resN (atI (rLow ts) (j : Int)) = (r, fine) := ⟨_, _, rfl⟩
      have HRF := Lib.hid hrf
      have hrn : fine = false ∨ (r : Int) ≤ (v : Int) := by
        cases hff : fine
        · exact .inl rfl
        · subst hff
          have := res_true hrf
          rw [at_nat] at this
          have := resp_busy HR.out this
          exact .inr (by omega)
      clear hd hu HTu hb1 hvu hrf
      obtain ⟨lo', hi', du', ev', cr'⟩ := u
      obtain ⟨g0, g1, g2, g3, g4⟩ := C3
      dsimp only at g0 g1 g2 g3 g4
      have i2 : (j : Int) < (ts.length : Int) := by omega
      go_wp2_with fail
      refine (iDemandOf_is _ lo' hi' du' ev' cr' (v : Int) false d true HDM.out).mono ?_
      rintro e w5 ⟨rfl, hb⟩
      have HD5 := Lib.hid (bl_trans HD4.out hb)
      have HW5 := Lib.hid (bl_trans HW.out hb)
      clear hb
      go_wp2_with fail
      refine (iRLow_is _ _ _ ct ts (j : Int) ?_ (by omega) hct r fine HRF.out).mono ?_
      · exact tks_to HT.out HD5.out
      rintro e w6 ⟨rfl, hb⟩
      have HW6 := Lib.hid (bl_trans HW5.out hb)
      clear hb
      rcases hrn with rfl | hrn
      · go_wp2
        go_roundw
        case rel => exact ⟨j + 1, m + d, by omega, by go_num, by go_num, HM', HW6.out⟩
        case measure => simp [intOf]; omega
      · have hrn' : ¬ (v : Int) < (r : Int) := by omega
        cases fine
        · go_wp2
          go_roundw
          case rel => exact ⟨j + 1, m + d, by omega, by go_num, by go_num, HM', HW6.out⟩
          case measure => simp [intOf]; omega
        · go_wp2
          go_roundw
          case rel => exact ⟨j + 1, m + d, by omega, by go_num, by go_num, HM', HW6.out⟩
          case measure => simp [intOf]; omega
    · have hm : m = v := by rw [HM.out, take_all (by omega)]; exact N3.out
      have hmi : (m : Int) = (v : Int) := by omega
      have i2 : ¬ (j : Int) < (ts.length : Int) := by omega
      go_wp2
      go_ret
      exact ⟨rfl, HB4.out⟩

end Go.Proofs.Ytobkbbgllapcoaa
