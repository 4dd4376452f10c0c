import Derived.Test.YtgponahmkjohiabGreatDoorT1Pk18
namespace Go.Proofs.YtgponahmkjohiabGreatDoor
open Go.RowKit
set_option linter.unusedVariables false
theorem news_kept {w w' : World} {B g : Nat} {l : List Value} (h : Below B w w') (hn : ∀ j u, l[j]? = some u → w.cell? ((⟨g, 0, none⟩ : Addr).add j) = some u) (hg : g < B) : ∀ j u, l[j]? = some u → w'.cell? ((⟨g, 0, none⟩ : Addr).add j) = some u := fun j u hu => by
  have := hn j u hu
  rw [addr_add] at this ⊢
  exact (h.cell (p := ⟨g, 0 + j, none⟩) hg).trans this
theorem news_drew {w : World} {g : Nat} {l : List Value} (hn : ∀ j u, l[j]? = some u → w.cell? ((⟨g, 0, none⟩ : Addr).add j) = some u) : ∀ j u, l[j]? = some u → w.drew.cell? ((⟨g, 0, none⟩ : Addr).add j) = some u := hn
theorem five_alloc {w : World} {g o : Nat} {x0 x1 x2 x3 x4 : Value} (h : w.cell? ⟨g, o, none⟩ = some x0 ∧ w.cell? ⟨g, o + 1, none⟩ = some x1 ∧ w.cell? ⟨g, o + 2, none⟩ = some x2 ∧ w.cell? ⟨g, o + 3, none⟩ = some x3 ∧ w.cell? ⟨g, o + 4, none⟩ = some x4) (b : Obj) :
    (w.alloc b).cell? ⟨g, o, none⟩ = some x0 ∧ (w.alloc b).cell? ⟨g, o + 1, none⟩ = some x1 ∧ (w.alloc b).cell? ⟨g, o + 2, none⟩ = some x2 ∧ (w.alloc b).cell? ⟨g, o + 3, none⟩ = some x3 ∧ (w.alloc b).cell? ⟨g, o + 4, none⟩ = some x4 :=
  have hl : g < w.heap.size := World.block_lt_of_cell? w _ h.1
  ⟨(World.cell?_alloc_lt w b _ hl).trans h.1, (World.cell?_alloc_lt w b _ hl).trans h.2.1, (World.cell?_alloc_lt w b _ hl).trans h.2.2.1, (World.cell?_alloc_lt w b _ hl).trans h.2.2.2.1, (World.cell?_alloc_lt w b _ hl).trans h.2.2.2.2⟩
theorem five_drew {w : World} {g o : Nat} {x0 x1 x2 x3 x4 : Value} (h : w.cell? ⟨g, o, none⟩ = some x0 ∧ w.cell? ⟨g, o + 1, none⟩ = some x1 ∧ w.cell? ⟨g, o + 2, none⟩ = some x2 ∧ w.cell? ⟨g, o + 3, none⟩ = some x3 ∧ w.cell? ⟨g, o + 4, none⟩ = some x4) :
    w.drew.cell? ⟨g, o, none⟩ = some x0 ∧ w.drew.cell? ⟨g, o + 1, none⟩ = some x1 ∧ w.drew.cell? ⟨g, o + 2, none⟩ = some x2 ∧ w.drew.cell? ⟨g, o + 3, none⟩ = some x3 ∧ w.drew.cell? ⟨g, o + 4, none⟩ = some x4 := h
theorem tk_five {w w' : World} {g o : Nat} {t : Tk} (h : TkAt w g o t) : w.cell? ⟨g, o, none⟩ = some (.int .i64 t.lo) ∧ w.cell? ⟨g, o + 1, none⟩ = some (.int .i64 t.hi) ∧ w.cell? ⟨g, o + 2, none⟩ = some (.int .i64 t.du) ∧ w.cell? ⟨g, o + 3, none⟩ = some (.int .i64 t.ev) ∧ w.cell? ⟨g, o + 4, none⟩ = some (.bool t.cr) := ⟨h.c0, h.c1, h.c2, h.c3, h.c4⟩
set_option maxRecDepth 100000 in
set_option maxHeartbeats 1000000 in
theorem sCan_is (w : World) (A : Option Addr) (n c : Nat) (ts : List Tk) (a : Int) (h : Tks w w.heap.size A n ts) (hn : n ≤ 1048576) (hnc : n ≤ c) (b : Bool) (hv : (decide (0 ≤ a) && canL ts a.toNat) = b) :
    Calls Tryz.prog 165 #[.slice A n c, .int .i64 a] w fun e w' => e = .returned (.bool b) ∧ Below w.heap.size w w' := by
  obtain ⟨i0, hi, hz0, hz1, hz2⟩ := info_parts info_task
  have H := Lib.hid h
  have HL := Lib.hid h.len
  clear h
  cases hh : (setB ts && (decide (0 ≤ a) && decide (a < (n : Int))))
  · obtain rfl : b = false := by
      rw [← hv]
      cases hs : setB ts
      · rw [can_bad _ hs, Bool.and_false]
      · rw [hs, Bool.true_and] at hh
        by_cases h0 : 0 ≤ a
        · rw [decide_eq_true h0, Bool.true_and] at hh
          have h1 : ¬ a < (n : Int) := of_decide_eq_false hh
          rw [can_past (List.getElem?_eq_none (by have := HL.out; omega)), Bool.and_false]
        · rw [decide_eq_false h0]; rfl
    have HH := Lib.hid hh
    clear hv hh
    go_enter Tryz.func165, Tryz.ntmps165
    go_wp2_with (go_at_call 168; refine (sAt_is _ A n c ts a H.out hn false HH.out).mono ?_; rintro e w1 ⟨rfl, hb⟩)
    go_ret
    exact ⟨rfl, hb⟩
  have HH := Lib.hid hh
  rw [Bool.and_eq_true, Bool.and_eq_true, decide_eq_true_iff, decide_eq_true_iff] at hh
  obtain ⟨hs, h0, h1⟩ := hh
  obtain ⟨k, rfl⟩ := Int.eq_ofNat_of_zero_le h0
  have hk : k < n := by omega
  obtain ⟨t, ht⟩ := get_at HL.out hk
  obtain ⟨bb, oo, rfl, hbl, _⟩ := H.out.at_ k _ ht
  rw [decide_eq_true h0, Bool.true_and, show ((k : Int)).toNat = k from rfl, can_end hs ht] at hv
  have h5 : n ≤ 5 := by have := setB_len hs; rw [HL.out] at this; exact this
  obtain ⟨us, hus⟩ : ∃ us, us = endOf ts k t := ⟨_, rfl⟩
  have hul : us.length = n := by rw [hus, (end_last ht).2.2, HL.out]
  have hsu : setB us = true := by rw [hus, set_perm (end_perm ht)]; exact hs
  rw [← hus, HL.out, ← hul] at hv
  have HV := Lib.hid hv
  have hu5 : us.length ≤ 5 := by omega
  have hu0 : 1 ≤ us.length := by omega
  clear hul
  have HT := Lib.hid ht
  have HU : Hid (us = ts.eraseIdx k ++ [t]) := hus
  have i1 : (k : Int) < (n : Int) := h1
  clear hv ht hs hus
  have hel : (ts.eraseIdx k).length = n - 1 := by rw [List.length_eraseIdx, if_pos (by rw [HL.out]; exact hk), HL.out]
  have HEL := Lib.hid hel
  clear hel
  go_enter Tryz.func165, Tryz.ntmps165
  go_wp2_with fail
  refine (sAt_is _ _ n c ts (k : Int) H.out hn true HH.out).mono ?_
  rintro e w1 ⟨rfl, hb⟩
  have HB1 := Lib.hid hb
  have hsz := hb.size
  have H1 := Lib.hid ((H.out.below hb).more hb.size)
  have hbl1 : bb < w1.heap.size := by omega
  have C1 := Tks.get H1.out HT.out
  obtain ⟨lo, hi', du, ev, cr⟩ := t
  obtain ⟨c0, c1, c2, c3, c4⟩ := C1.2
  dsimp only at c0 c1 c2 c3 c4
  have hS0 : w1.cell? ⟨bb, oo + k * 5, none⟩ = some (.int .i64 lo) ∧ w1.cell? ⟨bb, oo + k * 5 + 1, none⟩ = some (.int .i64 hi') ∧ w1.cell? ⟨bb, oo + k * 5 + 2, none⟩ = some (.int .i64 du) ∧ w1.cell? ⟨bb, oo + k * 5 + 3, none⟩ = some (.int .i64 ev) ∧ w1.cell? ⟨bb, oo + k * 5 + 4, none⟩ = some (.bool cr) := ⟨c0, c1, c2, c3, c4⟩
  clear hb C1
  go_wp2
  go_region_held3? (fun W => W.cell? ⟨bb, oo + k * 5, none⟩ = some (.int .i64 lo) ∧ W.cell? ⟨bb, oo + k * 5 + 1, none⟩ = some (.int .i64 hi') ∧ W.cell? ⟨bb, oo + k * 5 + 2, none⟩ = some (.int .i64 du) ∧ W.cell? ⟨bb, oo + k * 5 + 3, none⟩ = some (.int .i64 ev) ∧ W.cell? ⟨bb, oo + k * 5 + 4, none⟩ = some (.bool cr)) (first | with_reducible exact hS4 | with_reducible exact hS2 | with_reducible exact five_alloc hS2 _ | with_reducible exact hS0 | with_reducible exact five_alloc hS0 _ | with_reducible exact five_drew (five_alloc hS0 _) | with_reducible exact five_drew hS0)
    ((first
      | (go_at_call 169; refine (sWithout_is _ (some ⟨bb, oo, none⟩) n c ts k ?_ (by omega) hnc hk).mono ?_; exact tks_to H1.out (by repeat (first | with_reducible exact Below.refl w1.heap.size w1 | with_reducible refine Below.drew ?_ | with_reducible refine bl_drewN ?_ _ | with_reducible refine bl_alloc ?_ _)); rintro e w2 ⟨A2, c2, rfl, ho2, hb2⟩; have HB2 := Lib.hid (show Below w1.heap.size w1 w2 from bl_trans (by repeat (first | with_reducible exact Below.refl w1.heap.size w1 | with_reducible refine Below.drew ?_ | with_reducible refine bl_drewN ?_ _ | with_reducible refine bl_alloc ?_ _)) hb2); have hS2 : w2.cell? ⟨bb, oo + k * 5, none⟩ = some (.int .i64 lo) ∧ w2.cell? ⟨bb, oo + k * 5 + 1, none⟩ = some (.int .i64 hi') ∧ w2.cell? ⟨bb, oo + k * 5 + 2, none⟩ = some (.int .i64 du) ∧ w2.cell? ⟨bb, oo + k * 5 + 3, none⟩ = some (.int .i64 ev) ∧ w2.cell? ⟨bb, oo + k * 5 + 4, none⟩ = some (.bool cr) := tk_five (w' := w2) (Tks.get (tks_to H1.out HB2.out) HT.out).2; have HO2 := Lib.hid (own_more ho2 (by simp) : Own w2 w1.heap.size (.slice A2 (ts.eraseIdx k).length c2) (ts.eraseIdx k)); have HR2 : Hid (w2.ownsRow w1.heap.size 43 5 (.slice A2 (ts.eraseIdx k).length c2) (ts.eraseIdx k).length ((ts.eraseIdx k).flatMap Tk.cells)) := HO2.out; have HC2 := Lib.hid hb2; have hs2 := HB2.out.size; clear hb2 ho2)
      | (have uu := HO2; clear uu; refine step_append_own rfl (.tmp 12) (.tmp 17) 23 rfl w1.heap.size 43 i0 _ 5 40 Tryz.underlying23 hi hz0 hz1 hz2 rfl (by decide) (.slice A2 (ts.eraseIdx k).length c2) (ts.eraseIdx k).length ((ts.eraseIdx k).flatMap Tk.cells) rfl (by first | with_reducible exact HR2.out | with_reducible exact World.ownsRow.alloc HR2.out _) _ 1 1 (Tk.cells ⟨lo, hi', du, ev, cr⟩) rfl rfl (by first | with_reducible exact cell_new5 w2 ⟨lo, hi', du, ev, cr⟩ _ | exact news_kept HC2.out (news_drew (cell_new5_at w1 ⟨lo, hi', du, ev, cr⟩ _ w1.heap.size rfl)) (by simp)) (by intro u hu; exact cells_one [⟨lo, hi', du, ev, cr⟩] u (by simpa using hu)) (by have := HEL.out; unfold maxLen; omega) (by have := HEL.out; omega) (by first | omega | (simp; omega)) ?_; intro v4 w4 hown4 hgrow4 _; have HO4 := Lib.hid (show Own w4 w1.heap.size v4 us from by rw [HU.out]; exact Own.snoc hown4); have HB4 := Lib.hid (show Below w1.heap.size w1 w4 from (by repeat (first | with_reducible exact HB2.out | with_reducible refine bl_alloc ?_ _) : Below w1.heap.size w1 _).grown hgrow4 (by first | omega | (simp; omega)) (fun q e => (World.ownsRow.lt HO2.out q e).1)); have hS4 : w4.cell? ⟨bb, oo + k * 5, none⟩ = some (.int .i64 lo) ∧ w4.cell? ⟨bb, oo + k * 5 + 1, none⟩ = some (.int .i64 hi') ∧ w4.cell? ⟨bb, oo + k * 5 + 2, none⟩ = some (.int .i64 du) ∧ w4.cell? ⟨bb, oo + k * 5 + 3, none⟩ = some (.int .i64 ev) ∧ w4.cell? ⟨bb, oo + k * 5 + 4, none⟩ = some (.bool cr) := tk_five (w' := w4) (Tks.get (tks_to H1.out HB4.out) HT.out).2; clear hown4 hgrow4)))
  all_goals (
    obtain ⟨A5, c5, rfl⟩ := HO4.out.form
    have hu1 : (us.length : Int) - 1 = ((us.length - 1 : Nat) : Int) := by omega
    go_wp2_with fail
    refine (sBothAt_is w4 A5 _ c5 us (us.length - 1) HO4.out.reads.2 (by omega) (by omega) b HV.out).mono ?_
    rintro e w6 ⟨rfl, hb6⟩
    have HB6 := Lib.hid (bl_trans HB1.out (bl_trans HB4.out hb6))
    clear hb6
    go_wp2
    go_ret
    exact ⟨rfl, HB6.out⟩)
end Go.Proofs.YtgponahmkjohiabGreatDoor

namespace Go.Proofs.YtgponahmkjohiabGreatDoor
open Go.RowKit
set_option linter.unusedVariables false
theorem OwnZ.one (w : World) (B : Nat) (hB : B ≤ w.heap.size) (z : Int) : OwnZ (w.alloc (.cells #[.int .i64 z] 3)) B (.slice (some ⟨w.heap.size, 0, none⟩) 1 1) [z] :=
  ⟨rfl, .inr ⟨w.heap.size, 1, #[.int .i64 z], rfl, hB, heap_alloc_new w _, Nat.le_refl _, by decide, rfl, rfl⟩⟩
theorem Zs.cells {w : World} {B b o n : Nat} {zs : List Int} (h : Zs w B (some ⟨b, o, none⟩) n zs) : ∀ j u, (zs.map (Value.int .i64))[j]? = some u → w.cell? ((⟨b, o, none⟩ : Addr).add j) = some u := by
  intro j u hu
  rw [List.getElem?_map] at hu
  cases hz : zs[j]? with
  | none => rw [hz] at hu; cases hu
  | some z =>
    rw [hz] at hu
    injection hu with hu
    subst hu
    rw [addr_add]
    exact (h.get hz).2
theorem zs_one (zs : List Int) : ∀ u ∈ zs.map (Value.int .i64), u.oneCell' = true := by
  intro u hu
  obtain ⟨z, _, rfl⟩ := List.mem_map.1 hu
  rfl
theorem toZ_range (k : Nat) : toZ (List.range (k + 1)) = toZ (List.range k) ++ [(k : Int)] := by unfold toZ; rw [List.range_succ, List.map_append]; rfl
theorem toZ_erase (L : List Nat) (k : Nat) : toZ (L.eraseIdx k) = (toZ L).take k ++ (toZ L).drop (k + 1) := by
  unfold toZ
  rw [List.eraseIdx_eq_take_drop_succ, List.map_append, List.map_take, List.map_drop]
/-- What a search from the end has seen. -/
def Scan (us : List Tk) (k : Nat) (z : Int) : Prop :=
  (z = -1 ∧ ∀ j, k ≤ j → j < us.length → canL us j = false) ∨ (z = (k : Int) ∧ k < us.length ∧ canL us k = true ∧ ∀ j, k < j → j < us.length → canL us j = false)
theorem scan_start (us : List Tk) : Hid (Scan us us.length (-1)) := .inl ⟨rfl, fun j h1 h2 => by omega⟩
theorem scan_no {us : List Tk} {k : Nat} (h : Scan us (k + 1) (-1)) (hc : canL us k = false) : Scan us k (-1) := by
  rcases h with ⟨_, h⟩ | ⟨h, _⟩
  · refine .inl ⟨rfl, fun j h1 h2 => ?_⟩
    rcases Nat.lt_or_ge k j with hj | hj
    · exact h j hj h2
    · obtain rfl : j = k := by omega
      exact hc
  · omega
theorem scan_yes {us : List Tk} {k : Nat} (h : Scan us (k + 1) (-1)) (hk : k < us.length) (hc : canL us k = true) : Scan us k (k : Int) := by
  rcases h with ⟨_, h⟩ | ⟨h, _⟩
  · exact .inr ⟨rfl, hk, hc, fun j h1 h2 => h j h1 h2⟩
  · omega
theorem scan_none {ts : List Tk} {L : List Nat} (h : Scan (putN ts L) 0 (-1)) : pickL ts L = none := by
  cases hp : pickL ts L with
  | none => rfl
  | some i =>
    obtain ⟨h1, h2, _⟩ := pick_some hp
    rcases h with ⟨_, h⟩ | ⟨h, _⟩
    · rw [h i (Nat.zero_le _) (by rw [put_len]; exact h1)] at h2; cases h2
    · omega
theorem scan_some {ts : List Tk} {L : List Nat} {k : Nat} (h : Scan (putN ts L) k (k : Int)) : pickL ts L = some k := by
  rcases h with ⟨h, _⟩ | ⟨_, h1, h2, h3⟩
  · omega
  · rw [put_len] at h1 h3
    exact find_rev.2 ⟨h1, h2, h3⟩
theorem asg_stop {ts : List Tk} {L acc : List Nat} {r : Option (List Nat)} (h : asg ts L.length L acc = r) (hl : 0 < L.length) (hp : pickL ts L = none) : r = none := by
  obtain ⟨m, hm⟩ : ∃ m, L.length = m + 1 := ⟨L.length - 1, by omega⟩
  rw [hm] at h
  unfold asg at h
  rw [hp] at h
  exact h.symm
theorem asg_go {ts : List Tk} {L acc : List Nat} {r : Option (List Nat)} {k x : Nat} (h : asg ts L.length L acc = r) (hx : L[k]? = some x) (hp : pickL ts L = some k) : asg ts (L.eraseIdx k).length (L.eraseIdx k) (x :: acc) = r := by
  have hk := (List.getElem?_eq_some_iff.1 hx).1
  have hm : L.length = (L.eraseIdx k).length + 1 := by rw [List.length_eraseIdx, if_pos hk]; omega
  have hg : L.getD k 0 = x := by rw [List.getD_eq_getElem?_getD, hx]; rfl
  rw [hm] at h
  unfold asg at h
  rw [hp] at h
  simp only [hg] at h
  exact h
def asgR (r : Option (List Nat)) : List Int := match r with | some o => toZ o | none => []
set_option maxRecDepth 100000 in
set_option maxHeartbeats 4000000 in
theorem sAssign_is (w : World) (A : Option Addr) (n c : Nat) (ts : List Tk) (h : Tks w w.heap.size A n ts) (hn : n ≤ 1048576) (r : Option (List Nat)) (hr : assignOf ts = r) :
    Calls Tryz.prog 156 #[.slice A n c] w (ZsRes2 (asgR r) r.isSome w) := by
  obtain ⟨i0, hi, hz0, hz1, hz2⟩ := info_parts info_int
  have H := Lib.hid h
  have HL := Lib.hid h.len
  clear h
  cases hs : setB ts
  · obtain rfl : r = none := by rw [← hr]; unfold assignOf; rw [hs]; rfl
    have HS := Lib.hid hs
    clear hr hs
    go_enter Tryz.func156, Tryz.ntmps156
    go_wp2_with fail
    refine (sSetValid_any _ A n c ts H.out hn).mono ?_
    rintro e w1 ⟨rfl, hb1⟩
    rw [HS.out]
    have HB1 := Lib.hid hb1
    clear hb1
    go_wp2
    go_ret2
    exact ⟨_, _, rfl, (OwnZ.empty w1).less HB1.out.size, bl_alloc HB1.out _⟩
  have h5 := setB_len hs
  rw [HL.out] at h5
  have hr' : asg ts n (List.range n) [] = r := by rw [← hr]; unfold assignOf; rw [if_pos hs, HL.out]
  have HR := Lib.hid hr'
  have HS := Lib.hid hs
  clear hr hr' hs
  go_enter Tryz.func156, Tryz.ntmps156
  go_wp2_with fail
  refine (sSetValid_any _ A n c ts H.out hn).mono ?_
  rintro e w1 ⟨rfl, hb1⟩
  rw [HS.out]
  have HB1 := Lib.hid hb1
  clear hb1
  go_wp2
  go_loopw [4, 5] (fun v i wr => ∃ k : Nat, k ≤ n ∧ i = .int .i64 k ∧ OwnZ wr w.heap.size v (toZ (List.range k)) ∧ Below w.heap.size w wr) (fun _ i _ => n - (intOf i).toNat)
  case atStart => exact ⟨0, Nat.zero_le _, rfl, (OwnZ.empty w1).less HB1.out.size, bl_alloc HB1.out _⟩
  case round =>
    obtain ⟨k, hk, rfl, ho, hb⟩ := hrel
    have HO := Lib.hid ho
    have HB := Lib.hid hb
    have hsz : w.heap.size ≤ wr.heap.size := hb.size
    clear ho hb
    by_cases hlt : k < n
    · have hlti : (k : Int) < (n : Int) := by omega
      have HLK : Hid ((toZ (List.range k)).length = k) := by show _ = _; rw [toZ_len, List.length_range]
      have b1 : (toZ (List.range k)).length + 1 ≤ maxLen := by rw [HLK.out]; unfold maxLen; omega
      have b2 : ((toZ (List.range k)).length + 1) * 8 ≤ 140737488355328 := by rw [HLK.out]; omega
      go_wp2_with (at_builtin; refine wpList_append_own _ rfl (.tmp 21) (.tmp 23) 27 rfl w.heap.size 3 i0 _ 1 8 Tryz.underlying27 hi hz0 hz1 hz2 rfl (by decide) _ (toZ (List.range k)).length ((toZ (List.range k)).map (Value.int .i64)) rfl (World.ownsRow.alloc HO.out _) ⟨wr.heap.size, 0, none⟩ 1 1 [.int .i64 (k : Int)] rfl rfl (by have hx := cell_one_new wr (.int .i64 (k : Int)) 3; simpa using hx) (by intro u hu; simp at hu; subst hu; rfl) b1 b2 (by simp; omega) ?_; intro v' w4 hown' hgrow _)
      have HO4 := Lib.hid (OwnZ.snoc hown')
      have HB4 := Lib.hid ((bl_alloc HB.out _).grown hgrow (by simp; omega) (fun k e => (World.ownsRow.lt HO.out k e).1))
      clear hown' hgrow b1 b2
      go_wp2
      go_roundw
      case rel => exact ⟨k + 1, by omega, by go_num, by rw [toZ_range]; exact HO4.out, HB4.out⟩
      case measure => simp [intOf]; omega
    · obtain rfl : k = n := by omega
      have hlti : ¬ (k : Int) < (k : Int) := by omega
      go_wp2
      go_loopw [4, 6] (fun v u wr => ∃ (L acc : List Nat) (A4 : Option Addr) (c4 g c6 : Nat), v = .slice A4 L.length c4 ∧ u = .slice (some ⟨g, 0, none⟩) acc.length c6 ∧ acc.length + L.length = k ∧ Hid (InL ts L) ∧ Hid (asg ts L.length L acc = r) ∧ OwnZ wr w.heap.size v (toZ L) ∧ OwnZ wr w.heap.size u (toZ acc) ∧ Below w.heap.size w wr) (fun v _ _ => sliceLen v)
      case atStart =>
        obtain ⟨A4, c4, e⟩ := HO.out.form
        rw [toZ_len] at e
        exact ⟨List.range k, [], A4, c4, wr.heap.size, 0, e, rfl, by simp, (fun i hi => by rw [HL.out]; exact List.mem_range.1 hi), by show _ = _; rw [List.length_range]; exact HR.out, HO.out.alloc _, (OwnZ.empty wr).less hsz, bl_alloc HB.out _⟩
      case round =>
        obtain ⟨L, acc, A4, c4, g, c6, rfl, rfl, hL, HI, HA, ho4, ho6, hb2⟩ := hrel
        have HO4 := Lib.hid ho4
        have HO6 := Lib.hid ho6
        have HB2 := Lib.hid hb2
        have hsz2 := hb2.size
        clear ho4 ho6 hb2 HO HB hsz
        by_cases h0 : L.length = 0
        · have hLn : L = [] := List.eq_nil_of_length_eq_zero h0
          subst hLn
          have hrr : r = some acc := by rw [← HA.out]; rfl
          subst hrr
          go_wp2
          go_ret2
          exact ⟨some ⟨g, 0, none⟩, c6, by show _ = Ending.returned (.tuple #[.slice _ (toZ acc).length c6, _]); rw [toZ_len]; rfl, by show OwnZ _ _ (.slice _ (toZ acc).length c6) _; rw [toZ_len]; exact HO6.out, HB2.out⟩
        have hLp : 0 < L.length := by omega
        have hLi : (0 : Int) < (L.length : Int) := by omega
        obtain ⟨g4, rfl, hcap, hcm⟩ : ∃ g4, A4 = some ⟨g4, 0, none⟩ ∧ L.length ≤ c4 ∧ c4 ≤ maxLen := by
          rcases HO4.out.2 with ⟨e, h0⟩ | ⟨g', cap, cur, e, _, _, h1, h2, _⟩
          · rw [toZ_len] at h0; omega
          · injection e with e1 e2 e3
            subst e3
            rw [toZ_len] at h1
            exact ⟨g', e1, h1, h2⟩
        have HZ4 : Hid (Zs wr wr.heap.size (some ⟨g4, 0, none⟩) L.length (toZ L)) := by
          have hh := HO4.out
          rw [← toZ_len L] at hh
          have := hh.reads
          rw [toZ_len] at this
          exact this
        go_wp2_with fail
        refine (sPut_is wr A k c ts (some ⟨g4, 0, none⟩) L.length c4 L ((H.out.below HB2.out).more HB2.out.size) HZ4.out HI.out (by omega)).mono ?_
        rintro e w2 ⟨A8, c8, rfl, ho8, hb8⟩
        obtain ⟨us, hus⟩ : ∃ us, us = putN ts L := ⟨_, rfl⟩
        have hul : us.length = L.length := by rw [hus, put_len]
        rw [← hus] at ho8 ⊢
        have HUS := Lib.hid hus
        have HUL := Lib.hid hul
        have HO8 := Lib.hid ho8
        have HB8 := Lib.hid hb8
        have HT8 := Lib.hid ho8.reads.2
        have hs8 := hb8.size
        clear hus ho8 hb8
        have hus5 : us.length ≤ 5 := by omega
        have hu8 : us.length ≤ c8 := by
          rcases HO8.out.2 with ⟨e, h0⟩ | ⟨g', cap, cur, e, _, _, h1, h2, _⟩
          · omega
          · injection e with e1 e2 e3
            subst e3
            exact h1
        have hlm : (L.length : Int) - 1 = (us.length : Int) - 1 := by omega
        clear hul
        go_wp2
        go_loopw [7, 9] (fun a i wr => ∃ (q : Nat) (z y : Int), q ≤ us.length ∧ a = .int .i64 z ∧ i = .int .i64 y ∧ y = (q : Int) - 1 ∧ Hid (Scan us q z) ∧ Below w2.heap.size w2 wr) (fun _ i _ => (intOf i + 1).toNat)
        case atStart => exact ⟨us.length, -1, _, Nat.le_refl _, rfl, by go_num, by omega, scan_start us, Below.refl _ _⟩
        case round =>
          obtain ⟨q, z, y, hq, rfl, rfl, hy, HC, hb9⟩ := hrel
          have HB9 := Lib.hid hb9
          have hs9 := hb9.size
          clear hb9
          by_cases hgo : z = -1 ∧ 0 < q
          · obtain ⟨rfl, hq0⟩ := hgo
            obtain ⟨q, rfl⟩ : ∃ q', q = q' + 1 := ⟨q - 1, by omega⟩
            obtain rfl : y = (q : Int) := by omega
            clear hy
            have hq1 : q < us.length := by omega
            have y0 : (0 : Int) ≤ (q : Int) := by omega
            go_wp2_with fail
            refine (sCan_is _ A8 us.length c8 us (q : Int) (tks_to HT8.out HB9.out) (by omega) hu8 (canL us q) (by simp)).mono ?_
            rintro e w10 ⟨rfl, hb10⟩
            have HB10 := Lib.hid (bl_trans HB9.out hb10)
            clear hb10
            cases hc : canL us q
            · have HC' := Lib.hid (scan_no HC.out hc)
              clear hc
              go_wp2
              go_roundw
              case rel => exact ⟨q, -1, _, by omega, rfl, by go_num, by omega, HC', HB10.out⟩
              case measure => simp [intOf]
            · have HC' := Lib.hid (scan_yes HC.out hq1 hc)
              clear hc
              go_wp2
              go_roundw
              case rel => exact ⟨q, (q : Int), _, by omega, rfl, by go_num, by omega, HC', HB10.out⟩
              case measure => simp [intOf]
          by_cases hz1 : z = -1
          · subst hz1
            obtain rfl : q = 0 := by
              by_cases h : 0 < q
              · exact absurd ⟨rfl, h⟩ hgo
              · omega
            obtain rfl : y = -1 := by omega
            have HP : Hid (pickL ts L = none) := scan_none (by rw [← HUS.out]; exact HC.out)
            have hrr := asg_stop HA.out hLp HP.out
            subst hrr
            have HBX := Lib.hid (bl_trans HB2.out (bl_trans HB8.out HB9.out))
            clear hgo hy
            go_wp2
            go_ret2
            exact ⟨_, _, rfl, (OwnZ.empty _).less HBX.out.size, bl_alloc HBX.out _⟩
          obtain ⟨rfl, hqu⟩ : z = (q : Int) ∧ q < us.length := by
            rcases HC.out with ⟨e, _⟩ | ⟨e, h, _⟩
            · exact absurd e hz1
            · exact ⟨e, h⟩
          have hqL : q < L.length := by have := HUL.out; omega
          clear hgo hz1
          have HP : Hid (pickL ts L = some q) := scan_some (by rw [← HUS.out]; exact HC.out)
          obtain ⟨x, hx⟩ : ∃ x, L[q]? = some x := ⟨L[q]'hqL, List.getElem?_eq_getElem _⟩
          have HA' := Lib.hid (asg_go HA.out hx HP.out)
          have HI' : Hid (InL ts (L.eraseIdx q)) := fun i hi => HI.out i ((List.eraseIdx_sublist L q).subset hi)
          have hel : (L.eraseIdx q).length = L.length - 1 := by rw [List.length_eraseIdx, if_pos hqL]
          have HEL := Lib.hid hel
          have HBX := Lib.hid (bl_trans HB8.out HB9.out)
          have HBW := Lib.hid (bl_trans HB2.out HBX.out)
          have HO4q := Lib.hid (HO4.out.below HBX.out)
          have HO6q := Lib.hid (HO6.out.below HBX.out)
          have HZ4q := Lib.hid ((HZ4.out.below HBX.out).more HBX.out.size)
          have HZ6q : Hid (Zs wr wr.heap.size (some ⟨g, 0, none⟩) acc.length (toZ acc)) := by
            have hh := HO6q.out
            rw [← toZ_len acc] at hh
            have := hh.reads
            rw [toZ_len] at this
            exact this
          have c0 := (HZ4q.out.get (toZ_get hx)).2
          rw [Nat.zero_add] at c0
          have hsq := HBW.out.size
          have h4q := HZ4q.out.get (toZ_get hx)
          have h4l := h4q.1
          have qn : ¬ (q : Int) < 0 := by omega
          have qL : (q : Int) < (L.length : Int) := by omega
          have q0 : (0 : Int) ≤ (q : Int) := by omega
          clear hel hx h4q hs8 hs9
          have HX : Hid (y = (q : Int) - 1) := hy
          clear hy
          have hyy : (0 ≤ y) ∨ ¬ (0 ≤ y) := Classical.em _
          have hxn : (toZ acc).length = acc.length := toZ_len acc
          have HXN := Lib.hid hxn
          clear hxn
          rcases hyy with hy0 | hy0
          all_goals (
            go_wp2_with (at_builtin; refine wpList_append_own _ rfl (.tmp 54) (.tmp 55) 27 rfl w.heap.size 3 i0 _ 1 8 Tryz.underlying27 hi hz0 hz1 hz2 rfl (by decide) _ 1 [.int .i64 (x : Int)] rfl (OwnZ.one wr w.heap.size hsq (x : Int)) ⟨g, 0, none⟩ acc.length c6 ((toZ acc).map (Value.int .i64)) rfl (by rw [List.length_map, HXN.out]; omega) (Zs.cells (HZ6q.out.below (bl_alloc (Below.refl _ _) _))) (zs_one _) (by unfold maxLen; omega) (by omega) (by simp; omega) ?_; intro v5 w5 hown5 hgrow5 _; have HB5q := Lib.hid (show Below wr.heap.size wr w5 from (bl_alloc (Below.refl wr.heap.size wr) _).grown hgrow5 (by simp) (fun q e => Nat.le_of_eq (Option.some.inj e))); have HO5 := Lib.hid (show OwnZ w5 w.heap.size v5 (toZ (x :: acc)) from by unfold OwnZ; rw [toZ_len, List.length_cons, Nat.add_comm]; exact hown5); clear hown5 hgrow5)
            obtain ⟨g5, c5, rfl⟩ : ∃ g5 c5, v5 = .slice (some ⟨g5, 0, none⟩) (x :: acc).length c5 := by
              rcases HO5.out.2 with ⟨e, h0⟩ | ⟨g', cap, cur, e, _⟩
              · rw [toZ_len] at h0; simp at h0
              · exact ⟨g', cap, by rw [e, toZ_len]⟩
            have HB5 := Lib.hid (bl_trans HBW.out HB5q.out)
            have HZ5 := Lib.hid ((HZ4q.out.below HB5q.out).more HB5q.out.size)
            have i1 : (q : Int) ≤ (c4 : Int) := by omega
            have i2 : (q : Int) + 1 ≤ (L.length : Int) := by omega
            have i3 : (q : Int) + 1 ≤ (c4 : Int) := by omega
            have i4 : (L.length : Int) ≤ (c4 : Int) := by omega
            have i5 : (0 : Int) ≤ (q : Int) + 1 := by omega
            have kw : IntKind.i64.wrap ((q : Int) + 1) = (q : Int) + 1 := IntWalk.i64_in _ (by omega)
            have kn : ((q : Int) + 1).toNat = q + 1 := by omega
            by_cases hkc : q + 1 = c4
            · subst hkc
              have hLq : L.length = q + 1 := by omega
              have i7 : (q : Int) ≤ (q : Int) + 1 := by omega
              go_wp2
              go_region_law (first | (refine step_append_own rfl (.tmp 57) (.tmp 60) 27 rfl w5.heap.size 3 i0 _ 1 8 Tryz.underlying27 hi hz0 hz1 hz2 rfl (by decide) _ 0 [] rfl (OwnZ.empty _) ⟨g4, 0, none⟩ q (q + 1) (((toZ L).take q).map (Value.int .i64)) rfl (by rw [List.length_map, List.length_take, toZ_len]; rw [Nat.min_eq_left (by omega)]; omega) (Zs.cells (Zs.take (HZ5.out.below (by repeat (first | with_reducible exact Below.refl w5.heap.size w5 | with_reducible refine Below.drew ?_ | with_reducible refine bl_alloc ?_ _))) (by omega))) (zs_one _) (by unfold maxLen; omega) (by omega) (by simp) ?_; intro v6 w6 hown6 hgrow6 _; have HO6a := Lib.hid (show OwnZ w6 w5.heap.size v6 ((toZ L).take q) from by unfold OwnZ; rw [List.length_take, toZ_len, Nat.min_eq_left (by omega)]; simpa using hown6); have HB6 := Lib.hid (show Below w5.heap.size w5 w6 from (by repeat (first | with_reducible exact Below.refl w5.heap.size w5 | with_reducible refine Below.drew ?_ | with_reducible refine bl_alloc ?_ _) : Below w5.heap.size w5 _).grown hgrow6 (by simp) (fun q e => Nat.le_of_eq (Option.some.inj e))); have HS6 := HB6.out.size; clear hown6 hgrow6) | (have uu := HO6a; clear uu; refine step_append_own rfl (.tmp 61) (.tmp 65) 27 rfl w5.heap.size 3 i0 _ 1 8 Tryz.underlying27 hi hz0 hz1 hz2 rfl (by decide) v6 ((toZ L).take q).length (((toZ L).take q).map (Value.int .i64)) rfl HO6a.out ⟨g4, 0, none⟩ 0 0 [] rfl rfl (fun j u hu => by simp at hu) (fun u hu => by simp at hu) (by unfold maxLen; rw [List.length_take, toZ_len]; omega) (by rw [List.length_take, toZ_len]; omega) HS6 ?_; intro v7 w7 hown7 hgrow7 _; have HB7 := Lib.hid (show Below w5.heap.size w5 w7 from HB6.out.grown hgrow7 HS6 (fun q e => (World.ownsRow.lt HO6a.out q e).1)); have HO7 := Lib.hid (show OwnZ w7 w5.heap.size v7 ((toZ L).take q) from by unfold OwnZ; simpa using hown7); clear hown7 hgrow7))
              have HE7 : Hid ((toZ L).take q = toZ (L.eraseIdx q)) := by
                show _ = _
                rw [toZ_erase, List.drop_eq_nil_of_le (by rw [toZ_len]; omega), List.append_nil]
              have HO7' : Hid (OwnZ w7 w5.heap.size v7 (toZ (L.eraseIdx q))) := by show OwnZ _ _ _ _; rw [← HE7.out]; exact HO7.out
              obtain ⟨A7, c7, rfl⟩ : ∃ A7 c7, v7 = .slice A7 (L.eraseIdx q).length c7 := by
                obtain ⟨A7, c7, e⟩ := HO7'.out.form
                rw [toZ_len] at e
                exact ⟨A7, c7, e⟩
              have HO5' := Lib.hid (HO5.out.below HB7.out)
              have HB7' := Lib.hid (bl_trans HB5.out HB7.out)
              have HO7'' := Lib.hid (HO7'.out.less HB5.out.size)
              go_wp2
              refine ⟨⟨_, _, _, _, ⟨L.eraseIdx q, ⟨A7, c7, rfl⟩, x :: acc, ⟨g5, c5, rfl⟩, by rw [HEL.out]; simp; omega, HI', HA', HO7''.out, HO5'.out, HB7'.out⟩, rfl, rfl, rfl, rfl⟩, ?_⟩
              simp [sliceLen, HEL.out]
              try omega
            · have j1 : ((q : Int) + 1 == (c4 : Int)) = false := by rw [beq_eq_false_iff_ne]; omega
              have j2 : ¬ (q : Int) + 1 = (c4 : Int) := by omega
              have j4 : ¬ c4 = q + 1 := by omega
              go_wp2
              go_region_law (first | (refine step_append_own rfl (.tmp 57) (.tmp 60) 27 rfl w5.heap.size 3 i0 _ 1 8 Tryz.underlying27 hi hz0 hz1 hz2 rfl (by decide) _ 0 [] rfl (OwnZ.empty _) ⟨g4, 0, none⟩ q c4 (((toZ L).take q).map (Value.int .i64)) rfl (by rw [List.length_map, List.length_take, toZ_len]; rw [Nat.min_eq_left (by omega)]; omega) (Zs.cells (Zs.take (HZ5.out.below (by repeat (first | with_reducible exact Below.refl w5.heap.size w5 | with_reducible refine Below.drew ?_ | with_reducible refine bl_alloc ?_ _))) (by omega))) (zs_one _) (by unfold maxLen; omega) (by omega) (by simp) ?_; intro v6 w6 hown6 hgrow6 _; have HO6a := Lib.hid (show OwnZ w6 w5.heap.size v6 ((toZ L).take q) from by unfold OwnZ; rw [List.length_take, toZ_len, Nat.min_eq_left (by omega)]; simpa using hown6); have HB6 := Lib.hid (show Below w5.heap.size w5 w6 from (by repeat (first | with_reducible exact Below.refl w5.heap.size w5 | with_reducible refine Below.drew ?_ | with_reducible refine bl_alloc ?_ _) : Below w5.heap.size w5 _).grown hgrow6 (by simp) (fun q e => Nat.le_of_eq (Option.some.inj e))); have HS6 := HB6.out.size; clear hown6 hgrow6) | (have uu := HO6a; clear uu; refine step_append_own rfl (.tmp 61) (.tmp 65) 27 rfl w5.heap.size 3 i0 _ 1 8 Tryz.underlying27 hi hz0 hz1 hz2 rfl (by decide) v6 ((toZ L).take q).length (((toZ L).take q).map (Value.int .i64)) rfl HO6a.out ⟨g4, q + 1, none⟩ (L.length - (q + 1)) (c4 - (q + 1)) (((toZ L).drop (q + 1)).map (Value.int .i64)) rfl (by rw [List.length_map, List.length_drop, toZ_len]; omega) (Zs.cells (Zs.drop (k := q + 1) (HZ5.out.below HB6.out) (Nat.zero_add _).symm)) (zs_one _) (by unfold maxLen; rw [List.length_take, toZ_len]; omega) (by rw [List.length_take, toZ_len]; omega) HS6 ?_; intro v7 w7 hown7 hgrow7 _; have HB7 := Lib.hid (show Below w5.heap.size w5 w7 from HB6.out.grown hgrow7 HS6 (fun q e => (World.ownsRow.lt HO6a.out q e).1)); have HO7 := Lib.hid (show OwnZ w7 w5.heap.size v7 ((toZ L).take q ++ (toZ L).drop (q + 1)) from by unfold OwnZ; rw [List.length_append, List.length_drop, toZ_len, List.map_append]; exact hown7); clear hown7 hgrow7))
              have HE7 : Hid ((toZ L).take q ++ (toZ L).drop (q + 1) = toZ (L.eraseIdx q)) := (toZ_erase L q).symm
              have HO7' : Hid (OwnZ w7 w5.heap.size v7 (toZ (L.eraseIdx q))) := by show OwnZ _ _ _ _; rw [← HE7.out]; exact HO7.out
              obtain ⟨A7, c7, rfl⟩ : ∃ A7 c7, v7 = .slice A7 (L.eraseIdx q).length c7 := by
                obtain ⟨A7, c7, e⟩ := HO7'.out.form
                rw [toZ_len] at e
                exact ⟨A7, c7, e⟩
              have HO5' := Lib.hid (HO5.out.below HB7.out)
              have HB7' := Lib.hid (bl_trans HB5.out HB7.out)
              have HO7'' := Lib.hid (HO7'.out.less HB5.out.size)
              go_wp2
              refine ⟨?_, ?_⟩
              · repeat apply Exists.intro
                refine ⟨?_, rfl⟩
                exact ⟨L.eraseIdx q, x :: acc, A7, c7, g5, c5, rfl, rfl, by rw [HEL.out]; simp; omega, HI', HA', HO7''.out, HO5'.out, HB7'.out⟩
              · show sliceLen (Value.slice A7 (L.eraseIdx q).length c7) < sliceLen (Value.slice (some ⟨g4, 0, none⟩) L.length c4)
                simp [sliceLen, HEL.out]
                try omega)
end Go.Proofs.YtgponahmkjohiabGreatDoor
