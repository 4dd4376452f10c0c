/- Contracts of BusyLow, in the program and in the reference. Nothing that was there is written. -/
import Derived.Test.YtobkbbgllapcoabSRLow
import Derived.Test.YtobkbbgllapcoabRespU
namespace Go.Proofs.Ytobkbbgllapcoab
open Go.RowKit
set_option linter.unusedVariables false

set_option maxHeartbeats 1000000 in
theorem iCloBusy_is (w : World) (Bs : Nat) (A : Option Addr) (n c : Nat) (ts : List Tk) (hS : w.cell? ⟨Bs, 0, none⟩ = some (.slice A n c)) (hTs : Tks w w.heap.size A n ts) (hs : setB ts = true) (x m : Nat) (hx : x ≤ 10000000) (hm : dLow ts x = m) :
    Calls Try.prog 56 #[.int .i64 (x : Int), .pointer (some ⟨Bs, 0, none⟩)] w (NumIs m w) := by
  have H := Lib.hid hTs
  have HS := Lib.hid hs
  have HM := Lib.hid hm
  clear hTs hs hm
  go_enter Try.func56, Try.ntmps56
  go_wp2_with (go_at_call 57; refine (iDemLow_is _ A n c ts H.out HS.out x m hx HM.out).mono ?_; rintro e w2 ⟨rfl, hb⟩)
  go_ret
  exact ⟨rfl, hb⟩
theorem cloBusy_next (w : World) (Bs : Nat) (A : Option Addr) (n c : Nat) (ts : List Tk) (lo hi : Nat) (hS : Blk w Bs 23 #[.slice A n c]) (hTs : Tks w w.heap.size A n ts) (hs : setB ts = true) (hdu : hi ≤ 10000000) :
    NextIs 56 #[.pointer (some ⟨Bs, 0, none⟩)] (dLow ts) lo hi w := fun W x h1 h2 hb =>
  iCloBusy_is W Bs A n c ts ((hb.cell (p := ⟨Bs, 0, none⟩) hS.lt).trans (hS.cell 0)) ((hTs.below hb).more hb.size) hs x _ (by omega) rfl

set_option maxRecDepth 100000 in
set_option maxHeartbeats 2000000 in
theorem iBusy_is (w : World) (A : Option Addr) (n c : Nat) (ts : List Tk) (h : Tks w w.heap.size A n ts) (hn : n ≤ 1048576) (v : Nat) (b : Bool) (hv : resN (bLow ts) = (v, b)) :
    Calls Try.prog 24 #[.slice A n c] w (NbRes v b w) := by
  have H := Lib.hid h
  have HL := Lib.hid h.len
  clear h
  by_cases h0 : n = 0
  · subst h0
    obtain rfl : ts = [] := List.eq_nil_of_length_eq_zero HL.out
    obtain ⟨rfl, rfl⟩ := Prod.mk.inj hv
    go_enter Try.func24, Try.ntmps24
    go_wp2
    go_ret2
    exact ⟨rfl, bl_alloc (Below.refl _ _) _⟩
  have hne : ts ≠ [] := by rintro rfl; exact h0 HL.out.symm
  have hi0 : ¬ (n : Int) = 0 := by omega
  have bS0 := Blk.new w 23 #[.slice A n c]
  have cS0 := bS0.cell
  cases hs : setB ts
  · rw [bLow_bad hs] at hv
    obtain ⟨rfl, rfl⟩ := Prod.mk.inj hv
    clear hv
    go_enter Try.func24, Try.ntmps24
    go_wp2_with (go_at_call 22; refine (iSetValid_any _ A n c ts ((H.out.below (bl_alloc (Below.refl w.heap.size w) _)).more (by simp)) hn).mono ?_; rintro e w1 ⟨rfl, hb⟩)
    go_ret2
    exact ⟨rfl, bl_trans (bl_alloc (Below.refl _ _) _) hb⟩
  rw [bLow_is hs hne] at hv
  have HV := Lib.hid hv
  have HS := Lib.hid hs
  have HNE : Hid (ts ≠ []) := hne
  obtain ⟨l1, l2⟩ := lcmL_le hs
  have hhy : hyperOf ts = lcmL ts := by simp [hyperOf, hs]
  have HY := Lib.hid hhy
  clear hv hs hne hhy
  go_enter Try.func24, Try.ntmps24
  go_wp2_with fail
  refine (iSetValid_any _ A n c ts ((H.out.below (bl_alloc (Below.refl w.heap.size w) _)).more (by simp)) hn).mono ?_
  rintro e w1 ⟨rfl, hb⟩
  rw [HS.out]
  have HB1 := Lib.hid (show Below w.heap.size w w1 from bl_trans (bl_alloc (Below.refl _ _) _) hb)
  have bS1 := Lib.hid (show Blk w1 w.heap.size 23 #[.slice A n c] from bS0.below hb bS0.lt)
  have cS1 := bS1.out.cell
  clear hb
  go_wp2_with fail
  refine (iHyperOf_any w1 A n c ts ((H.out.below HB1.out).more HB1.out.size) hn).mono ?_
  rintro e w2 ⟨rfl, hb⟩
  rw [HY.out]
  have HB2 := Lib.hid (bl_trans HB1.out hb)
  have bS2 := Lib.hid (show Blk w2 w.heap.size 23 #[.slice A n c] from bS1.out.below hb bS1.out.lt)
  clear hb cS1
  go_wp2_with fail
  refine (iLeast_is w2 1 (lcmL ts) 56 _ (dLow ts) v b HV.out (fun x y hxy => dLow_mono ts hxy) (fun x hx => dLow_pos HS.out HNE.out hx) (fun x hx => by have := dLow_bound HS.out x; omega) (by omega) (by omega) (fun _ _ => rfl) (cloBusy_next w2 _ A n c ts 1 _ bS2.out ((H.out.below HB2.out).more HB2.out.size) HS.out (by omega))).mono ?_
  rintro e w3 ⟨rfl, hb⟩
  go_wp2
  go_ret2
  exact ⟨rfl, bl_trans HB2.out hb⟩

set_option maxRecDepth 100000 in
set_option maxHeartbeats 2000000 in
theorem sBusy_is (w : World) (A : Option Addr) (n c : Nat) (ts : List Tk) (h : Tks w w.heap.size A n ts) (hn : n ≤ 1048576) (v : Nat) (b : Bool) (hv : resN (bLow ts) = (v, b)) :
    Calls Try.prog 25 #[.slice A n c] w (NbRes v b w) := by
  have H := Lib.hid h
  have HL := Lib.hid h.len
  clear h
  cases hs : setB ts
  · rw [bLow_bad hs] at hv
    obtain ⟨rfl, rfl⟩ := Prod.mk.inj hv
    clear hv
    go_enter Try.func25, Try.ntmps25
    go_wp2_with (go_at_call 50; refine (sSetValid_any _ A n c ts H.out hn).mono ?_; rintro e w1 ⟨rfl, hb⟩)
    go_ret2
    exact ⟨rfl, hb⟩
  by_cases h0 : n = 0
  · subst h0
    obtain rfl : ts = [] := List.eq_nil_of_length_eq_zero HL.out
    obtain ⟨rfl, rfl⟩ := Prod.mk.inj hv
    go_enter Try.func25, Try.ntmps25
    go_wp2_with (go_at_call 50; refine (sSetValid_any _ A 0 c [] H.out hn).mono ?_; rintro e w1 ⟨rfl, hb⟩)
    go_ret2
    exact ⟨rfl, hb⟩
  have hne : ts ≠ [] := by rintro rfl; exact h0 HL.out.symm
  have hi0 : ¬ (n : Int) = 0 := by omega
  have hib : ((n : Int) == 0) = false := by simpa using hi0
  rw [bLow_is hs hne] at hv
  have HV := Lib.hid hv
  have HS := Lib.hid hs
  have HNE : Hid (ts ≠ []) := hne
  obtain ⟨l1, l2⟩ := lcmL_le hs
  have hhy : hyperOf ts = lcmL ts := by simp [hyperOf, hs]
  have HY := Lib.hid hhy
  clear hv hs hne hhy
  go_enter Try.func25, Try.ntmps25
  go_wp2_with fail
  refine (sSetValid_any _ A n c ts H.out hn).mono ?_
  rintro e w1 ⟨rfl, hb⟩
  rw [HS.out]
  have HB1 := Lib.hid hb
  clear hb
  go_wp2
  go_loopw [4] (fun i wr => ∃ x : Nat, i = .int .i64 x ∧ x ≤ 1000000000000 ∧ Hid (NoneBelow (dLow ts) 1 x) ∧ Below w.heap.size w wr) (fun i _ => lcmL ts + 1 - (intOf i).toNat)
  case atStart => exact ⟨1, rfl, by omega, none_start _ 1, HB1.out⟩
  case round =>
    obtain ⟨x, rfl, hx, HN, hb⟩ := hrel
    have HB := Lib.hid hb
    clear hb
    by_cases hxd : x ≤ lcmL ts
    · have hxd' : (x : Int) ≤ (lcmL ts : Int) := by omega
      go_wp2_with fail
      refine (sHyperOf_any wr A n c ts ((H.out.below HB.out).more HB.out.size) hn).mono ?_
      rintro e w2 ⟨rfl, hb⟩
      rw [HY.out]
      have HB2 := Lib.hid (bl_trans HB.out hb)
      clear hb
      go_wp2
      go_loopw [5, 6] (fun s i wr => ∃ j m : Nat, j ≤ n ∧ i = .int .i64 j ∧ s = .int .i64 (m : Int) ∧ Hid (m = dLow (ts.take j) x) ∧ Below w.heap.size w wr) (fun _ i _ => n - (intOf i).toNat)
      case atStart => exact ⟨0, 0, Nat.zero_le _, rfl, rfl, (show 0 = _ by simp [dLow]), HB2.out⟩
      case round =>
        obtain ⟨j, m, hj, rfl, rfl, HM, hb3⟩ := hrel
        have HB3 := Lib.hid hb3
        have hsz3 := hb3.size
        clear hb3
        by_cases hjk : j < n
        · obtain ⟨u, hu⟩ := get_at HL.out hjk
          obtain ⟨bb, o, rfl, hbl, g0, g1, g2, g3, g4⟩ := (H.out.below HB3.out).at_ j u hu
          have HVu := Lib.hid (set_ok HS.out (get_mem hu))
          have HTu := Lib.hid (dLow_take hu x)
          have hb1 := dLow_bound (set_take HS.out j) x
          have hb2 := dmd_bound HVu.out x false
          obtain ⟨d, hd⟩ : ∃ d, dmd u x false = d := ⟨_, rfl⟩
          rw [hd] at hb2
          have hm1 : m ≤ 100 * (x + 20) := by rw [HM.out]; omega
          have HM' : Hid (m + d = dLow (ts.take (j + 1)) x) := by show _ = _; rw [HTu.out, hd, HM.out]
          have HD := Lib.hid hd
          clear hd hu HTu hb1
          obtain ⟨lo', hi', du', ev', cr'⟩ := u
          dsimp only at g0 g1 g2 g3 g4
          go_wp2_with (go_at_call 59; refine (sDemand_is _ lo' hi' du' ev' cr' x false d HVu.out (by omega) HD.out).mono ?_; rintro e w3 ⟨rfl, rfl⟩)
          go_roundw
          case rel => exact ⟨j + 1, m + d, by omega, by go_num, by go_num, HM', bl_alloc HB3.out _⟩
          case measure => simp [intOf]; omega
        · obtain rfl : j = n := by omega
          have HM2 : Hid (m = dLow ts x) := by show _ = _; rw [HM.out, take_all (by rw [HL.out]; omega)]
          have hmb : m ≤ 100 * (x + 20) := by have := dLow_bound HS.out x; rw [HM2.out]; omega
          by_cases he : m = x
          · have hei : (m : Int) = (x : Int) := by omega
            obtain ⟨rfl, rfl⟩ : x = v ∧ true = b := Prod.mk.inj (by rw [← HV.out, least_hit HN.out hxd (HM2.out.symm.trans he)]; rfl)
            go_wp2
            go_ret2
            exact ⟨rfl, HB3.out⟩
          · have hei : ¬ (m : Int) = (x : Int) := by omega
            have hnx := none_step (fun x y hxy => dLow_mono ts hxy) (fun y hy => dLow_pos HS.out HNE.out hy) HN.out
            have hlt := none_le (fun x y hxy => dLow_mono ts hxy) (fun y hy => dLow_pos HS.out HNE.out hy) HN.out
            have hnm : Hid (NoneBelow (dLow ts) 1 m) := by show NoneBelow _ _ _; rw [HM2.out]; exact hnx
            have hlm : x ≤ m := by rw [HM2.out]; exact hlt
            clear hnx hlt
            go_wp2
            go_roundw
            case rel => exact ⟨m, rfl, by omega, hnm, HB3.out⟩
            case measure => simp [intOf]; omega
    · have hxd' : ¬ (x : Int) ≤ (lcmL ts : Int) := by omega
      obtain ⟨rfl, rfl⟩ : 0 = v ∧ false = b := Prod.mk.inj (by rw [← HV.out, least_past HN.out (by omega)]; rfl)
      go_wp2_with fail
      refine (sHyperOf_any wr A n c ts ((H.out.below HB.out).more HB.out.size) hn).mono ?_
      rintro e w2 ⟨rfl, hb⟩
      rw [HY.out]
      have HB2 := Lib.hid (bl_trans HB.out hb)
      clear hb
      go_wp2
      go_ret2
      exact ⟨rfl, HB2.out⟩

end Go.Proofs.Ytobkbbgllapcoab
