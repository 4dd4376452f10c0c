/- Contracts of the program's OrderValid and PutOrder. Nothing that was there is written. -/
import Derived.Test.YtfjbkblodgdcnaaGreatDoorNB
namespace Go.Proofs.YtfjbkblodgdcnaaGreatDoor
open Go.RowKit
set_option linter.unusedVariables false

theorem seen_five : (seenL [] 5).toArray = #[Value.bool false, .bool false, .bool false, .bool false, .bool false] := rfl
theorem seen_start (w : World) : Blk (w.alloc (.cells #[Value.bool false, .bool false, .bool false, .bool false, .bool false] 85)) w.heap.size 85 (seenL [] 5).toArray := by
  rw [seen_five]; exact heap_alloc_new w _

set_option maxRecDepth 100000 in
set_option maxHeartbeats 4000000 in
theorem iOrdValid_is (w : World) (A : Option Addr) (n c : Nat) (ts : List Tk) (A2 : Option Addr) (n2 c2 : Nat) (zs : List Int) (h : Tks w w.heap.size A n ts) (hn : n ≤ 1048576) (h2 : Zs w w.heap.size A2 n2 zs) (b : Bool) (hb : (setB ts && ordB zs ts.length) = b) :
    Calls Tryz.prog 50 #[.slice A n c, .slice A2 n2 c2] w fun e w' => e = .returned (.bool b) ∧ Below w.heap.size w w' := by
  have H := Lib.hid h
  have H2 := Lib.hid h2
  have HL := Lib.hid h.len
  have HL2 := Lib.hid h2.len
  clear h h2
  cases hs : setB ts
  · obtain rfl : b = false := by rw [← hb, hs]; rfl
    clear hb
    go_enter Tryz.func50, Tryz.ntmps50
    go_wp2_with (go_at_call 42; refine (iSetValid_any _ A n c ts H.out hn).mono ?_; rintro e w1 ⟨rfl, hb1⟩)
    go_ret
    exact ⟨rfl, hb1⟩
  rw [hs, Bool.true_and, HL.out] at hb
  have HBB := Lib.hid hb
  have h5 : n ≤ 5 := by have := setB_len hs; rw [HL.out] at this; exact this
  have HS := Lib.hid hs
  clear hb hs
  by_cases hnm : n2 = n
  · subst hnm
    go_enter Tryz.func50, Tryz.ntmps50
    go_wp2_with fail
    refine (iSetValid_any _ A n2 c ts H.out hn).mono ?_
    rintro e w1 ⟨rfl, hb1⟩
    rw [HS.out]
    have HB1 := Lib.hid hb1
    have hsz1 := hb1.size
    clear hb1
    go_wp2
    go_loopw [20] (fun i wr => ∃ k : Nat, k ≤ n2 ∧ i = .int .i64 k ∧ Hid ((∀ z ∈ zs.take k, 0 ≤ z ∧ z < (n2 : Int)) ∧ (zs.take k).Nodup) ∧ Hid (Blk wr w1.heap.size 85 (seenL (zs.take k) 5).toArray) ∧ Below w.heap.size w wr) (fun i _ => n2 - (intOf i).toNat)
    case atStart => exact ⟨0, Nat.zero_le _, rfl, (show _ ∧ _ from ⟨fun z hz => by simp at hz, by simp⟩), seen_start w1, bl_alloc HB1.out _⟩
    case round =>
      obtain ⟨k, hk, rfl, HP, BS, hb⟩ := hrel
      have HB := Lib.hid hb
      have hsz := hb.size
      clear hb
      by_cases hlt : k < n2
      · have hlti : (k : Int) < (n2 : Int) := by omega
        obtain ⟨z, hz⟩ : ∃ z, zs[k]? = some z := ⟨zs[k]'(by rw [HL2.out]; exact hlt), List.getElem?_eq_getElem _⟩
        obtain ⟨bb, o, rfl, hbl, g0⟩ := (H2.out.below HB.out).at_ k z hz
        have hmem : z ∈ zs := List.mem_of_getElem? hz
        have HZ := Lib.hid hz
        have ht : Hid (zs.take (k + 1) = zs.take k ++ [z]) := by show _ = _; rw [List.take_add_one, hz]; rfl
        clear hz
        by_cases hz0 : z < 0
        · obtain rfl : b = false := by
            rw [← HBB.out]
            cases hx : ordB zs n2
            · rfl
            · have := (ordB_iff.1 hx).2.1 z hmem; omega
          go_wp2
          go_ret
          exact ⟨rfl, HB.out⟩
        by_cases hzn : (n2 : Int) ≤ z
        · obtain rfl : b = false := by
            rw [← HBB.out]
            cases hx : ordB zs n2
            · rfl
            · have := (ordB_iff.1 hx).2.1 z hmem; omega
          go_wp2
          go_ret
          exact ⟨rfl, HB.out⟩
        obtain ⟨x, rfl⟩ := Int.eq_ofNat_of_zero_le (show 0 ≤ z by omega)
        have hxn : x < n2 := by omega
        have hxi : (x : Int) < (n2 : Int) := by omega
        have hx5 : (x : Int) < 5 := by omega
        have cx : wr.cell? ⟨w1.heap.size, x, none⟩ = some (.bool ((zs.take k).contains (x : Int))) := (BS.out.cell x).trans (seen_get (by omega))
        have fx := BS.out.frozen x
        cases hc : (zs.take k).contains (x : Int)
        · rw [hc] at cx
          have HP' : Hid ((∀ z ∈ zs.take (k + 1), 0 ≤ z ∧ z < (n2 : Int)) ∧ (zs.take (k + 1)).Nodup) := by
            show _ ∧ _
            rw [ht.out]
            refine ⟨fun z hz => ?_, ?_⟩
            · rcases List.mem_append.1 hz with h | h
              · exact HP.out.1 z h
              · simp at h; subst h; omega
            · rw [List.nodup_append]
              refine ⟨HP.out.2, by simp, fun a ha b hb => ?_⟩
              simp at hb
              subst hb
              rintro rfl
              have : (zs.take k).contains (x : Int) = true := by simpa using ha
              rw [this] at hc; cases hc
          have BS' : Hid (Blk (wr.setCell ⟨w1.heap.size, x, none⟩ (.bool true)) w1.heap.size 85 (seenL (zs.take (k + 1)) 5).toArray) := by
            show Blk _ _ _ _
            rw [← seen_set HZ.out]; exact BS.out.set_ x (.bool true)
          clear hc
          go_wp2
          go_roundw
          case rel => exact ⟨k + 1, by omega, by go_num, HP', BS', bl_set HB.out (by dsimp only; omega) _⟩
          case measure => simp [intOf]; omega
        · obtain rfl : b = false := by
            rw [← HBB.out]
            cases hx : ordB zs n2
            · rfl
            · have hnd := (ordB_iff.1 hx).2.2
              rw [← List.take_append_drop (k + 1) zs, ht.out] at hnd
              have := (List.nodup_append.1 (List.nodup_append.1 hnd).1).2.2 (x : Int) (by simpa using hc) (x : Int) (by simp)
              exact absurd rfl this
          rw [hc] at cx
          clear hc
          go_wp2
          go_ret
          exact ⟨rfl, HB.out⟩
      · obtain rfl : k = n2 := by omega
        have hlti : ¬ (k : Int) < (k : Int) := by omega
        obtain rfl : b = true := by
          rw [← HBB.out, ordB_iff]
          have h := HP.out
          rw [List.take_of_length_le (by rw [HL2.out]; exact Nat.le_refl _)] at h
          exact ⟨HL2.out, h.1, h.2⟩
        go_wp2
        go_ret
        exact ⟨rfl, HB.out⟩
  · have hno : b = false := by
      rw [← HBB.out]
      unfold ordB
      rw [HL2.out, decide_eq_false hnm]; rfl
    subst hno
    have hni : ¬ (n2 : Int) = (n : Int) := by omega
    go_enter Tryz.func50, Tryz.ntmps50
    go_wp2_with fail
    refine (iSetValid_any _ A n c ts H.out hn).mono ?_
    rintro e w1 ⟨rfl, hb1⟩
    rw [HS.out]
    have HB1 := Lib.hid hb1
    clear hb1
    go_wp2
    go_ret
    exact ⟨rfl, HB1.out⟩

set_option maxHeartbeats 1000000 in
theorem iPutOrder_is (w : World) (A : Option Addr) (n c : Nat) (ts : List Tk) (A2 : Option Addr) (n2 c2 : Nat) (zs : List Int) (h : Tks w w.heap.size A n ts) (hn : n ≤ 1048576) (h2 : Zs w w.heap.size A2 n2 zs) (us : List Tk) (b : Bool)
    (hb : (setB ts && ordB zs ts.length) = b) (hu : us = if b then putN ts (zs.map Int.toNat) else []) :
    Calls Tryz.prog 18 #[.slice A n c, .slice A2 n2 c2] w (LsRes2 us b w) := by
  have H := Lib.hid h
  have H2 := Lib.hid h2
  have HBB := Lib.hid hb
  clear h h2
  cases b
  · obtain rfl : us = [] := by rw [hu]; rfl
    clear hb hu
    go_enter Tryz.func18, Tryz.ntmps18
    go_wp2_with (go_at_call 50; refine (iOrdValid_is _ A n c ts A2 n2 c2 zs H.out hn H2.out false HBB.out).mono ?_; rintro e w1 ⟨rfl, hb1⟩)
    go_ret2
    exact ⟨none, 0, rfl, Own.nil_ _ _, hb1⟩
  obtain rfl : us = putN ts (zs.map Int.toNat) := by rw [hu]; rfl
  rw [Bool.and_eq_true] at hb
  obtain ⟨o, rfl, ho1, ho2, ho3⟩ := ord_nat hb.2
  have hoz : (toZ o).map Int.toNat = o := by
    unfold toZ
    rw [List.map_map]
    conv => rhs; rw [← List.map_id o]
    exact List.map_congr_left fun x _ => rfl
  have h5 := setB_len hb.1
  have HI : Hid (InL ts o) := ho2
  have HZ := Lib.hid hoz
  clear hb hu hoz
  go_enter Tryz.func18, Tryz.ntmps18
  go_wp2_with fail
  refine (iOrdValid_is _ A n c ts A2 n2 c2 (toZ o) H.out hn H2.out true HBB.out).mono ?_
  rintro e w1 ⟨rfl, hb1⟩
  have HB1 := Lib.hid hb1
  clear hb1
  go_wp2_with fail
  refine (iTasksAt_is w1 A n c ts A2 n2 c2 o ((H.out.below HB1.out).more HB1.out.size) ((H2.out.below HB1.out).more HB1.out.size) HI.out (by omega)).mono ?_
  rintro e w2 ⟨A3, c3, rfl, ho, hb2⟩
  have HB2 := Lib.hid (bl_trans HB1.out hb2)
  have HO2 := Lib.hid (own_more ho HB1.out.size)
  clear hb2 ho
  go_wp2
  go_ret2
  rw [HZ.out]
  exact ⟨A3, c3, rfl, HO2.out, HB2.out⟩

end Go.Proofs.YtfjbkblodgdcnaaGreatDoor
