/- Contracts of GroupOf, the reference's and the program's. Nothing that was there is written. -/
import Derived.Test.YtfjbkblodgdcnaaDoorPk
import Derived.Test.YtfjbkblodgdcnaaDoorQPlI
import Derived.Test.YtfjbkblodgdcnaaDoorNB
namespace Go.Proofs.YtfjbkblodgdcnaaDoor
open Go.RowKit
set_option linter.unusedVariables false

/-- The places of a processor's tasks, among the first k. -/
def onB (ws : List Int) (p : Int) : Nat → Bool := fun i => decide (ws[i]? = some p)
def placesN (P : Nat → Bool) (k : Nat) : List Nat := (List.range k).filter P
theorem placesN_toZ (P : Nat → Bool) : ∀ k, placesI P k = toZ (placesN P k)
  | 0 => rfl
  | k + 1 => by
    unfold placesN
    rw [List.range_succ, List.filter_append]
    show (if P k then placesI P k ++ [(k : Int)] else placesI P k) = _
    rw [placesN_toZ P k]
    unfold toZ placesN
    cases h : P k
    · simp [h]
    · simp [h]
theorem placesN_lt {P : Nat → Bool} {k i : Nat} (h : i ∈ placesN P k) : i < k := List.mem_range.1 (List.mem_filter.1 h).1
theorem placesN_len (P : Nat → Bool) (k : Nat) : (placesN P k).length ≤ k := Nat.le_trans (List.length_filter_le _ _) (by rw [List.length_range]; exact Nat.le_refl _)
/-- A processor's tasks, among the first k. -/
def groupK (ts : List Tk) (ws : List Int) (p : Int) (k : Nat) : List Tk := putN ts (placesN (onB ws p) k)
def groupL (ts : List Tk) (ws : List Int) (p : Int) : List Tk := groupK ts ws p ts.length
theorem groupK_len (ts : List Tk) (ws : List Int) (p : Int) (k : Nat) : (groupK ts ws p k).length ≤ k := by unfold groupK; rw [put_len]; exact placesN_len _ _
theorem groupK_no {ts : List Tk} {ws : List Int} {p : Int} {k : Nat} (h : onB ws p k = false) : groupK ts ws p (k + 1) = groupK ts ws p k := by
  unfold groupK placesN
  rw [List.range_succ, List.filter_append]
  simp [h]
theorem groupK_yes {ts : List Tk} {ws : List Int} {p : Int} {k : Nat} {t : Tk} (ht : ts[k]? = some t) (h : onB ws p k = true) : groupK ts ws p (k + 1) = groupK ts ws p k ++ [t] := by
  unfold groupK placesN
  rw [List.range_succ, List.filter_append, put_app]
  simp [h, putN, List.getD, ht]

set_option maxHeartbeats 1000000 in
theorem onC_is (W : World) (q : Nat) (j p : Int) (b : Nat) (hc : W.cell? ⟨b, 0, none⟩ = some (.int .i64 p)) (r : Bool) (hr : decide (j = p) = r) :
    Calls Tryd.prog 101 (#[.int .i64 (q : Int), .int .i64 j] ++ #[.pointer (some ⟨b, 0, none⟩)]) W fun e W' => e = .returned (.bool r) ∧ Below W.heap.size W W' := by
  show Calls _ _ #[.int .i64 (q : Int), .int .i64 j, .pointer (some ⟨b, 0, none⟩)] _ _
  go_enter Tryd.func101, Tryd.ntmps101
  go_wp2
  go_ret
  exact ⟨by rw [← hr]; rfl, Below.refl _ _⟩

set_option maxRecDepth 100000 in
set_option maxHeartbeats 2000000 in
theorem iOn_is (w : World) (A : Option Addr) (n c : Nat) (ts : List Tk) (A2 : Option Addr) (c2 : Nat) (ws : List Int) (p : Int) (h : Tks w w.heap.size A n ts) (hn : n ≤ 100) (h2 : Zs w w.heap.size A2 n ws) :
    Calls Tryd.prog 70 #[.slice A n c, .slice A2 n c2, .int .i64 p] w (LsRes (groupL ts ws p) w) := by
  have H := Lib.hid h
  have HL := Lib.hid h.len
  have J := Lib.hid h2
  clear h h2
  go_enter Tryd.func70, Tryd.ntmps70
  go_wp2_with fail
  refine (iPlI_is _ A2 n c2 ws ((J.out.below (bl_alloc (Below.refl _ _) _)).more (by simp)) (by omega) 101 _ (onB ws p) (enters_of Tryd.func101 (by kernel_rfl) rfl) ?_).mono ?_
  · intro W q j hj hb
    refine onC_is W q j p w.heap.size ((hb.cell (p := ⟨w.heap.size, 0, none⟩) (by simp)).trans ?_) _ ?_
    · rw [cell_of_row _ w.heap.size 0 _ _ _ (heap_alloc_new w _)]; rfl
    · unfold onB; rw [hj]; simp
  rintro e w1 ⟨A3, c3, rfl, ho, hb⟩
  have HB1 := Lib.hid (bl_trans (bl_alloc (Below.refl _ w) _) (hb.mono (by simp)))
  have HZ := Lib.hid (show Zs w1 w1.heap.size A3 (placesI (onB ws p) n).length (toZ (placesN (onB ws p) n)) by
    have := ho.reads
    rw [placesN_toZ] at this ⊢
    exact this)
  clear ho hb
  go_wp2_with fail
  refine (iTasksAt_is w1 A n c ts A3 _ c3 (placesN (onB ws p) n) ((H.out.below HB1.out).more HB1.out.size) HZ.out (fun i hi => by rw [HL.out]; exact placesN_lt hi) (by have := placesN_len (onB ws p) n; omega)).mono ?_
  rintro e w2 ⟨A4, c4, rfl, ho, hb⟩
  have HB2 := Lib.hid (bl_trans HB1.out hb)
  have HO2 := Lib.hid (own_more ho HB1.out.size)
  have hg : putN ts (placesN (onB ws p) n) = groupL ts ws p := by unfold groupL groupK; rw [HL.out]
  rw [hg] at HO2 ⊢
  clear ho hb
  go_wp2
  go_ret
  exact ⟨A4, c4, rfl, HO2.out, HB2.out⟩

def groupB (ts : List Tk) (ws : List Int) (p : Int) : Bool := packB ts ws 3 && inPB p 3

set_option maxRecDepth 100000 in
set_option maxHeartbeats 2000000 in
theorem iGroup_is (w : World) (A : Option Addr) (n c : Nat) (ts : List Tk) (A2 : Option Addr) (m c2 : Nat) (ws : List Int) (p : Int) (us : List Tk) (b : Bool) (h : Tks w w.heap.size A n ts) (hn : n ≤ 1048576) (h2 : Zs w w.heap.size A2 m ws) (hm : m ≤ 1100000)
    (hb : groupB ts ws p = b) (hu : us = if b then groupL ts ws p else []) :
    Calls Tryd.prog 32 #[.slice A n c, .slice A2 m c2, .int .i64 p] w (LsRes2 us b w) := by
  have H := Lib.hid h
  have HL := Lib.hid h.len
  have J := Lib.hid h2
  have JL := Lib.hid h2.len
  clear h h2
  cases hp : packB ts ws 3
  · obtain rfl : b = false := by rw [← hb]; unfold groupB; rw [hp]; rfl
    obtain rfl : us = [] := by rw [hu]; rfl
    have HP := Lib.hid hp
    clear hb hu hp
    go_enter Tryd.func32, Tryd.ntmps32
    go_wp2_with (go_at_call 68; refine (iPack_is _ A n c ts A2 m c2 ws 3 false H.out hn J.out hm HP.out).mono ?_; rintro e w1 ⟨rfl, hb1⟩; have HB1 := Lib.hid hb1; clear hb1)
    go_ret2
    exact ⟨none, 0, rfl, Own.nil_ _ _, HB1.out⟩
  have HP := Lib.hid hp
  cases ha : inPB p 3
  · obtain rfl : b = false := by rw [← hb]; unfold groupB; rw [hp, ha]; rfl
    obtain rfl : us = [] := by rw [hu]; rfl
    have HA := Lib.hid ha
    clear hb hu hp ha
    go_enter Tryd.func32, Tryd.ntmps32
    go_wp2_with (first
      | (go_at_call 68; refine (iPack_is _ A n c ts A2 m c2 ws 3 true H.out hn J.out hm HP.out).mono ?_; rintro e w1 ⟨rfl, hb1⟩; have HB1 := Lib.hid hb1; clear hb1)
      | (go_at_call 69; refine (iIsP_is _ p 3 false HA.out).mono ?_; rintro e w2 ⟨rfl, rfl⟩))
    go_ret2
    exact ⟨none, 0, rfl, Own.nil_ _ _, HB1.out⟩
  have HA := Lib.hid ha
  obtain rfl : b = true := by rw [← hb]; unfold groupB; rw [hp, ha]; rfl
  obtain rfl : us = groupL ts ws p := by rw [hu]; rfl
  obtain ⟨hs, _, hl, _⟩ := packB_iff.1 hp
  obtain rfl : m = n := by rw [← JL.out, ← HL.out]; exact hl
  have h5 : m ≤ 5 := by have := setB_len hs; rw [HL.out] at this; exact this
  clear hb hu hp ha hs hl
  go_enter Tryd.func32, Tryd.ntmps32
  go_wp2_with (first
    | (go_at_call 68; refine (iPack_is _ A m c ts A2 m c2 ws 3 true H.out hn J.out hm HP.out).mono ?_; rintro e w1 ⟨rfl, hb1⟩; have HB1 := Lib.hid hb1; clear hb1)
    | (go_at_call 69; refine (iIsP_is _ p 3 true HA.out).mono ?_; rintro e w2 ⟨rfl, rfl⟩)
    | (go_at_call 70; refine (iOn_is _ A m c ts A2 c2 ws p ((H.out.below HB1.out).more HB1.out.size) (by omega) ((J.out.below HB1.out).more HB1.out.size)).mono ?_; rintro e w2 ⟨A3, c3, rfl, ho, hb2⟩; have HB2 := Lib.hid (bl_trans HB1.out hb2); have HO2 := Lib.hid (own_more ho HB1.out.size); clear ho hb2))
  go_ret2
  exact ⟨A3, c3, rfl, HO2.out, HB2.out⟩

set_option maxRecDepth 100000 in
set_option maxHeartbeats 2000000 in
theorem sGroupL_is (w : World) (A : Option Addr) (n c : Nat) (ts : List Tk) (A2 : Option Addr) (c2 : Nat) (ws : List Int) (p : Int) (h : Tks w w.heap.size A n ts) (hn : n ≤ 100) (h2 : Zs w w.heap.size A2 n ws) :
    Calls Tryd.prog 72 #[.slice A n c, .slice A2 n c2, .int .i64 p] w (LsRes (groupL ts ws p) w) := by
  obtain ⟨i0, hi, hz0, hz1, hz2⟩ := info_parts info_task
  have H := Lib.hid h
  have HL := Lib.hid h.len
  have J := Lib.hid h2
  have JL := Lib.hid h2.len
  clear h h2
  go_enter Tryd.func72, Tryd.ntmps72
  go_wp2
  go_loopw [7, 8] (fun v i wr => ∃ k : Nat, k ≤ n ∧ i = .int .i64 k ∧ Hid (Own wr w.heap.size v (groupK ts ws p k)) ∧ Hid (Below w.heap.size w wr)) (fun _ i _ => n - (intOf i).toNat)
  case atStart => exact ⟨0, Nat.zero_le _, rfl, Lib.hid (Own.empty _), Lib.hid (bl_alloc (Below.refl _ _) _)⟩
  case round =>
    obtain ⟨k, hk, rfl, HO, HB⟩ := hrel
    have hlen := groupK_len ts ws p k
    obtain ⟨xs, hxs⟩ : ∃ xs, groupK ts ws p k = xs := ⟨_, rfl⟩
    rw [hxs] at HO hlen
    obtain ⟨Ao, co, rfl⟩ := HO.out.form
    have HLN := Lib.hid hlen
    have HXS := Lib.hid hxs
    clear hlen hxs
    by_cases hlt : k < n
    · obtain ⟨z, hz⟩ : ∃ z, ws[k]? = some z := ⟨ws[k]'(by rw [JL.out]; exact hlt), List.getElem?_eq_getElem _⟩
      obtain ⟨t, ht⟩ : ∃ t, ts[k]? = some t := ⟨ts[k]'(by rw [HL.out]; exact hlt), List.getElem?_eq_getElem _⟩
      obtain ⟨bj, oj, rfl, hbj, a0⟩ := (J.out.below HB.out).at_ k z hz
      have q1 : (0 : Int) ≤ (k : Int) := by omega
      have q2 : (k : Int) < (n : Int) := by omega
      have hsz : w.heap.size ≤ wr.heap.size := HB.out.size
      by_cases hzp : z = p
      · subst hzp
        have HN := Lib.hid (groupK_yes (p := z) ht (show onB ws z k = true by unfold onB; rw [hz]; simp))
        obtain ⟨bb, o, rfl, hbl, c0, c1, c2', c3, c4⟩ := (H.out.below HB.out).at_ k t ht
        have HOL := Lib.hid (World.ownsRow.lt HO.out)
        clear ht hz
        obtain ⟨lo, hi', du, ev, cr⟩ := t
        dsimp only at c0 c1 c2' c3 c4
        have b1 : xs.length + 1 ≤ maxLen := by have := HLN.out; unfold maxLen; omega
        have b2 : (xs.length + 1) * 40 ≤ 140737488355328 := by have := HLN.out; omega
        go_wp2_with (at_builtin; refine wpList_append_own _ rfl (.tmp 22) (.tmp 27) 23 rfl w.heap.size 37 i0 _ 5 40 Tryd.underlying23 hi hz0 hz1 hz2 rfl (by decide) _ xs.length (xs.flatMap Tk.cells) rfl (HO.out.alloc _) ⟨wr.heap.size, 0, none⟩ 1 1 (Tk.cells ⟨lo, hi', du, ev, cr⟩) rfl rfl (cell_new5 _ ⟨lo, hi', du, ev, cr⟩ _) (by intro u hu; exact cells_one [⟨lo, hi', du, ev, cr⟩] u (by simpa using hu)) b1 b2 (by simp; omega) ?_; intro v' w7 hown' hgrow _)
        have HO7 := Lib.hid (Own.snoc hown')
        have HB7 : Hid (Below w.heap.size w w7) := Lib.hid ((bl_alloc HB.out _).grown hgrow (by simp; omega) (fun x e => (HOL.out x e).1))
        clear hown' hgrow b1 b2
        go_wp2
        go_roundw
        case rel => exact ⟨k + 1, by omega, by go_num, Lib.hid (by have := HO7.out; rw [HN.out, HXS.out]; exact this), HB7⟩
        case measure => simp [intOf]; omega
      · have HN := Lib.hid (groupK_no (ts := ts) (show onB ws p k = false by unfold onB; rw [hz]; simpa using hzp))
        clear ht hz
        go_wp2
        go_roundw
        case rel => exact ⟨k + 1, by omega, by go_num, Lib.hid (by have := HO.out; rw [HN.out, HXS.out]; exact this), HB⟩
        case measure => simp [intOf]; omega
    · obtain rfl : k = n := by omega
      have hg : groupL ts ws p = xs := by rw [← HXS.out]; unfold groupL; rw [HL.out]
      go_wp2
      go_ret
      exact ⟨Ao, co, by rw [hg]; rfl, by rw [hg]; exact HO.out, HB.out⟩

set_option maxRecDepth 100000 in
set_option maxHeartbeats 2000000 in
theorem sGroup_is (w : World) (A : Option Addr) (n c : Nat) (ts : List Tk) (A2 : Option Addr) (m c2 : Nat) (ws : List Int) (p : Int) (us : List Tk) (b : Bool) (h : Tks w w.heap.size A n ts) (hn : n ≤ 1048576) (h2 : Zs w w.heap.size A2 m ws) (hm : m ≤ 1100000)
    (hb : groupB ts ws p = b) (hu : us = if b then groupL ts ws p else []) :
    Calls Tryd.prog 33 #[.slice A n c, .slice A2 m c2, .int .i64 p] w (LsRes2 us b w) := by
  have H := Lib.hid h
  have HL := Lib.hid h.len
  have J := Lib.hid h2
  have JL := Lib.hid h2.len
  clear h h2
  cases hp : packB ts ws 3
  · obtain rfl : b = false := by rw [← hb]; unfold groupB; rw [hp]; rfl
    obtain rfl : us = [] := by rw [hu]; rfl
    have HP := Lib.hid hp
    clear hb hu hp
    go_enter Tryd.func33, Tryd.ntmps33
    go_wp2_with (go_at_call 71; refine (sPack_is _ A n c ts A2 m c2 ws 3 false H.out hn J.out hm HP.out).mono ?_; rintro e w1 ⟨rfl, hb1⟩; have HB1 := Lib.hid hb1; clear hb1)
    go_ret2
    exact ⟨_, _, rfl, own_more (Own.empty _) HB1.out.size, bl_alloc HB1.out _⟩
  have HP := Lib.hid hp
  by_cases p1 : p < 0
  · obtain rfl : b = false := by rw [← hb]; unfold groupB inPB; rw [decide_eq_false (show ¬ 0 ≤ p by omega)]; simp
    obtain rfl : us = [] := by rw [hu]; rfl
    have k1 : decide (p < 0) = true := decide_eq_true p1
    clear hb hu hp
    go_enter Tryd.func33, Tryd.ntmps33
    go_wp2_with (go_at_call 71; refine (sPack_is _ A n c ts A2 m c2 ws 3 true H.out hn J.out hm HP.out).mono ?_; rintro e w1 ⟨rfl, hb1⟩; have HB1 := Lib.hid hb1; clear hb1)
    go_ret2
    exact ⟨_, _, rfl, own_more (Own.empty _) HB1.out.size, bl_alloc HB1.out _⟩
  have k1 : decide (p < 0) = false := decide_eq_false p1
  by_cases p2 : p ≥ 3
  · obtain rfl : b = false := by rw [← hb]; unfold groupB inPB; rw [decide_eq_false (show ¬ p < 3 by omega)]; simp
    obtain rfl : us = [] := by rw [hu]; rfl
    have k2 : decide (p ≥ 3) = true := decide_eq_true p2
    clear hb hu hp
    go_enter Tryd.func33, Tryd.ntmps33
    go_wp2_with (go_at_call 71; refine (sPack_is _ A n c ts A2 m c2 ws 3 true H.out hn J.out hm HP.out).mono ?_; rintro e w1 ⟨rfl, hb1⟩; have HB1 := Lib.hid hb1; clear hb1)
    go_ret2
    exact ⟨_, _, rfl, own_more (Own.empty _) HB1.out.size, bl_alloc HB1.out _⟩
  have k2 : decide (p ≥ 3) = false := decide_eq_false p2
  obtain rfl : b = true := by rw [← hb]; unfold groupB inPB; rw [hp, decide_eq_true (show 0 ≤ p by omega), decide_eq_true (show p < 3 by omega)]; rfl
  obtain rfl : us = groupL ts ws p := by rw [hu]; rfl
  obtain ⟨hs, _, hl, _⟩ := packB_iff.1 hp
  obtain rfl : m = n := by rw [← JL.out, ← HL.out]; exact hl
  have h5 : m ≤ 5 := by have := setB_len hs; rw [HL.out] at this; exact this
  clear hb hu hp hs hl
  go_enter Tryd.func33, Tryd.ntmps33
  go_wp2_with (first
    | (go_at_call 71; refine (sPack_is _ A m c ts A2 m c2 ws 3 true H.out hn J.out hm HP.out).mono ?_; rintro e w1 ⟨rfl, hb1⟩; have HB1 := Lib.hid hb1; clear hb1)
    | (go_at_call 72; refine (sGroupL_is _ A m c ts A2 c2 ws p ((H.out.below HB1.out).more HB1.out.size) (by omega) ((J.out.below HB1.out).more HB1.out.size)).mono ?_; rintro e w2 ⟨A3, c3, rfl, ho, hb2⟩; have HB2 := Lib.hid (bl_trans HB1.out hb2); have HO2 := Lib.hid (own_more ho HB1.out.size); clear ho hb2))
  go_ret2
  exact ⟨A3, c3, rfl, HO2.out, HB2.out⟩

end Go.Proofs.YtfjbkblodgdcnaaDoor
