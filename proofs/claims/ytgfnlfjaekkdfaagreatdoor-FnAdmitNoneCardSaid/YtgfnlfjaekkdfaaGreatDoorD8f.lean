/- The draw of AdmitAll's arguments. -/
import Derived.Test.YtgfnlfjaekkdfaaGreatDoorD8c
import Derived.Laws.AppendOwnNone
namespace Go.Proofs.YtgfnlfjaekkdfaaGreatDoor
open Go.RowKit
set_option linter.unusedVariables false

def DrewLIx (w : World) (e : Ending) (w' : World) : Prop :=
  ∃ (A : Option Addr) (c : Nat) (ts : List Tk) (pol : Int), e = .returned (.tuple #[.slice A ts.length c, .int .i64 pol]) ∧ ts.length ≤ 11 ∧ (0 ≤ pol ∧ pol ≤ 2) ∧ Own w' w.heap.size (.slice A ts.length c) ts ∧ Below w.heap.size w w'
set_option maxRecDepth 100000 in
set_option maxHeartbeats 4000000 in
theorem dDrawAdmitAll_any (w : World) (A : Option Addr) (n c : Nat) (f : Nat → Int) (h : Code w w.heap.size A n c f) :
    Calls Tryz.prog 15 #[.slice A n c] w (DrewLIx w) := by
  obtain ⟨i0, hi, hz0, hz1, hz2⟩ := info_parts info_task
  have H := Lib.hid h
  clear h
  go_enter Tryz.func15, Tryz.ntmps15
  go_wp2_with fail
  refine (open_any _ A n c f H.out).mono ?_
  rintro e w1 ⟨rfl, m, hr, hb⟩
  have hgl := hr.lt
  have HR1 := Lib.hid hr
  have HB1 := Lib.hid hb
  clear hr hb
  go_wp2_with fail
  refine (num_any _ _ _ _ _ _ _ _ _ 7 0 2 (HR1.out.alloc _) (by omega) (by omega) (by omega) (by omega) ?_).mono ?_
  · exact lit_cells_at _ _ _ _ _ _ (by simp) (fun i hi => by rcases (by omega : i = 0 ∨ i = 1 ∨ i = 2 ∨ i = 3 ∨ i = 4 ∨ i = 5 ∨ i = 6) with rfl | rfl | rfl | rfl | rfl | rfl | rfl <;> exact ⟨_, rfl, by decide, by decide⟩)
  rintro e w2 ⟨pol, rfl, pol0, pol1, hr, hg⟩
  have hgb : w1.grownBy w2 (some w.heap.size) := gb_trans (gb_alloc (World.grownBy.refl w1 _) _) hg (fun x e => .inl (by injection e with e; exact e.symm))
  have HR2 := Lib.hid hr
  have HB2 := Lib.hid (below_of_gb HB1.out hgb HB1.out.size (Nat.le_refl _))
  have hs2 : w.heap.size < w2.heap.size := hr.lt
  clear hr hg hgb
  go_wp2_with fail
  refine (some_any _ _ _ _ _ _ _ _ HR2.out (by omega)).mono ?_
  rintro e w3 ⟨v, ts1, q1, rfl, hl1, _, hq1, hr, hg, ho⟩
  obtain ⟨A3, c3, rfl⟩ := ho.form
  have HR3 := Lib.hid hr
  have HB3 := Lib.hid (below_of_gb HB2.out hg HB2.out.size (Nat.le_refl _))
  have HO3 := Lib.hid ho
  have HL3 := Lib.hid (fun k e => World.ownsRow.lt ho k e)
  have hs3 : w2.heap.size ≤ w3.heap.size := hg.size
  clear hr hg ho
  go_wp2_with fail
  refine (set_any _ _ _ _ _ _ _ _ HR3.out (by omega)).mono ?_
  rintro e w4 ⟨v, ts2, q2, rfl, hl2, _, hq2, hr, hg, ho⟩
  obtain ⟨A4, c4, rfl⟩ := ho.form
  have HB4 := Lib.hid (below_of_gb HB3.out hg HB3.out.size (Nat.le_refl _))
  have HO4 := Lib.hid (show Own w4 w.heap.size (.slice A3 ts1.length c3) ts1 from own_more (World.ownsRow.kept HO3.out hg (by
    rcases he : (Value.slice A3 ts1.length c3).ownBlock with _ | k
    · exact .inl rfl
    · right
      intro e
      have h1 := (HL3.out k he).1
      injection e with e
      omega)) (by omega))
  have HT4 := Lib.hid ho.reads.2
  have hs4 : w3.heap.size ≤ w4.heap.size := hg.size
  have hle3 := own_le HO4.out
  clear HO3
  rcases ho.2 with ⟨e, h0⟩ | ⟨g4, cap4, cur4, e, _⟩
  · injection e with e1 e2 e3
    subst e1 e3
    clear hr hg ho e2
    obtain rfl : ts2 = [] := List.eq_nil_of_length_eq_zero h0
    go_wp2_with (at_builtin; refine wpList_append_own_none rfl (.tmp 14) (.tmp 16) 23 rfl w.heap.size 25 i0 5 Tryz.underlying23 hi (.slice A3 ts1.length c3) ts1.length (ts1.flatMap Tk.cells) rfl (by exact HO4.out) rfl ?_)
    obtain ⟨v5, hv5⟩ : ∃ v5, v5 = Value.slice A3 ts1.length c3 := ⟨_, rfl⟩
    have HO5 : Hid (Own w4 w.heap.size v5 (ts1 ++ [])) := Lib.hid (by rw [List.append_nil, hv5]; exact HO4.out)
    have HB5 := HB4
    rw [← hv5]
    clear hv5
    obtain ⟨Av, cv, rfl⟩ := HO5.out.form
    obtain ⟨us, hus⟩ : ∃ us, us = ts1 ++ ([] : List Tk) := ⟨_, rfl⟩
    rw [← hus] at HO5 ⊢
    have hul : us.length ≤ 11 := by rw [hus, List.length_append]; omega
    clear hus
    by_cases hpol : pol = 1
    · subst hpol
      rcases HO5.out.2 with ⟨e, h0⟩ | ⟨gg, cap, cur, e, hgg, _⟩
      · injection e with e1 e2 e3
        subst e1 e3
        obtain rfl : us = [] := List.eq_nil_of_length_eq_zero h0
        clear e2
        go_wp2
        go_loopw [7] (fun i wr => i = .int .i64 0 ∧ wr = w4) (fun i _ => 0)
        case atStart => exact ⟨rfl, rfl⟩
        case round =>
          obtain ⟨rfl, rfl⟩ := hrel
          go_wp2
          go_ret2
          exact ⟨none, 0, [], 1, rfl, Nat.zero_le _, ⟨by omega, by omega⟩, HO5.out, HB5.out⟩
      · injection e with e1 e2 e3
        subst e1 e3
        clear e2
        go_wp2
        go_loopw [7] (fun i wr => ∃ (j : Nat) (vs : List Tk), j ≤ us.length ∧ i = .int .i64 j ∧ Hid (vs.length = us.length) ∧ Hid (Own wr w.heap.size (.slice (some ⟨gg, 0, none⟩) us.length cv) vs) ∧ Hid (Below w.heap.size w wr)) (fun i _ => us.length - (intOf i).toNat)
        case atStart => exact ⟨0, us, Nat.zero_le _, rfl, Lib.hid rfl, HO5, HB5⟩
        case round =>
          obtain ⟨j, vs, hj, rfl, HUS, HOR, HBR⟩ := hrel
          by_cases hlt : j < us.length
          · obtain ⟨t, ht⟩ : ∃ t, vs[j]? = some t := ⟨vs[j]'(by rw [HUS.out]; exact hlt), List.getElem?_eq_getElem _⟩
            obtain ⟨b, o, eA, hbl, c0, c1', c2', c3', c4⟩ := HOR.out.reads.2.at_ j t ht
            injection eA with eA
            injection eA with eA1 eA2
            subst eA1 eA2
            simp only [Nat.zero_add] at c0 c1' c2' c3' c4
            have hfz := HOR.out.frozen
            have HX := Lib.hid (HOR.out.due j t t.ev ht)
            have HXB := Lib.hid (Below.setCell HBR.out (p := ⟨gg, j * 5 + 2, none⟩) (by dsimp only; exact hgg) (.int .i64 t.ev))
            have HL : Hid ((vs.set j { t with du := t.ev }).length = us.length) := by show _ = _; rw [List.length_set]; exact HUS.out
            have hji : (j : Int) < (us.length : Int) := by omega
            have hj0 : (0 : Int) ≤ (j : Int) := by omega
            clear ht
            go_wp2
            go_roundw
            case rel => exact ⟨j + 1, _, by omega, by go_num, HL, HX, HXB⟩
            case measure => simp [intOf]; omega
          · obtain rfl : j = us.length := by omega
            have hvl : vs.length ≤ 11 := by rw [HUS.out]; exact hul
            have HO6 : Hid (Own wr w.heap.size (.slice (some ⟨gg, 0, none⟩) vs.length cv) vs) := by show Own _ _ _ _; rw [HUS.out]; exact HOR.out
            have HEQ := Lib.hid (show us.length = vs.length from HUS.out.symm)
            go_wp2
            rw [HEQ.out]
            go_ret2
            exact ⟨some ⟨gg, 0, none⟩, cv, vs, 1, rfl, hvl, ⟨by omega, by omega⟩, HO6.out, HBR.out⟩
    · have hpb : (pol == 1) = false := by simpa using hpol
      go_wp2
      go_loopw [7] (fun i wr => i = .int .i64 0 ∧ wr = w4) (fun i _ => 0)
      case atStart => exact ⟨rfl, rfl⟩
      case round =>
        obtain ⟨rfl, rfl⟩ := hrel
        by_cases hpos : (0 : Int) < (us.length : Int)
        · go_wp2
          go_ret2
          exact ⟨Av, cv, us, pol, rfl, hul, ⟨by omega, by omega⟩, HO5.out, HB5.out⟩
        · go_wp2
          go_ret2
          exact ⟨Av, cv, us, pol, rfl, hul, ⟨by omega, by omega⟩, HO5.out, HB5.out⟩
  · injection e with e1 e2 e3
    subst e1 e3
    clear hr hg ho e2
    go_wp2_with (at_builtin; refine wpList_append_own _ rfl (.tmp 14) (.tmp 16) 23 rfl w.heap.size 25 i0 _ 5 40 Tryz.underlying23 hi hz0 hz1 hz2 rfl (by decide) (.slice A3 ts1.length c3) ts1.length (ts1.flatMap Tk.cells) rfl (by exact HO4.out) ⟨g4, 0, none⟩ ts2.length c4 (ts2.flatMap Tk.cells) rfl (by rw [cells_length]) (Tks.cells HT4.out) (cells_one _) (by unfold maxLen; omega) (by omega) (by omega) ?_; intro v5 w5 hown hgrow _)
    have HO5 : Hid (Own w5 w.heap.size v5 (ts1 ++ ts2)) := Lib.hid (by unfold Own; rw [List.length_append, List.flatMap_append]; exact hown)
    have HB5 := Lib.hid (HB4.out.grown hgrow HB4.out.size (fun q e => (World.ownsRow.lt HO4.out q e).1))
    clear hown hgrow
    obtain ⟨Av, cv, rfl⟩ := HO5.out.form
    obtain ⟨us, hus⟩ : ∃ us, us = ts1 ++ ts2 := ⟨_, rfl⟩
    rw [← hus] at HO5 ⊢
    have hul : us.length ≤ 11 := by rw [hus, List.length_append]; omega
    clear hus
    by_cases hpol : pol = 1
    · subst hpol
      rcases HO5.out.2 with ⟨e, h0⟩ | ⟨gg, cap, cur, e, hgg, _⟩
      · injection e with e1 e2 e3
        subst e1 e3
        obtain rfl : us = [] := List.eq_nil_of_length_eq_zero h0
        clear e2
        go_wp2
        go_loopw [7] (fun i wr => i = .int .i64 0 ∧ wr = w5) (fun i _ => 0)
        case atStart => exact ⟨rfl, rfl⟩
        case round =>
          obtain ⟨rfl, rfl⟩ := hrel
          go_wp2
          go_ret2
          exact ⟨none, 0, [], 1, rfl, Nat.zero_le _, ⟨by omega, by omega⟩, HO5.out, HB5.out⟩
      · injection e with e1 e2 e3
        subst e1 e3
        clear e2
        go_wp2
        go_loopw [7] (fun i wr => ∃ (j : Nat) (vs : List Tk), j ≤ us.length ∧ i = .int .i64 j ∧ Hid (vs.length = us.length) ∧ Hid (Own wr w.heap.size (.slice (some ⟨gg, 0, none⟩) us.length cv) vs) ∧ Hid (Below w.heap.size w wr)) (fun i _ => us.length - (intOf i).toNat)
        case atStart => exact ⟨0, us, Nat.zero_le _, rfl, Lib.hid rfl, HO5, HB5⟩
        case round =>
          obtain ⟨j, vs, hj, rfl, HUS, HOR, HBR⟩ := hrel
          by_cases hlt : j < us.length
          · obtain ⟨t, ht⟩ : ∃ t, vs[j]? = some t := ⟨vs[j]'(by rw [HUS.out]; exact hlt), List.getElem?_eq_getElem _⟩
            obtain ⟨b, o, eA, hbl, c0, c1', c2', c3', c4⟩ := HOR.out.reads.2.at_ j t ht
            injection eA with eA
            injection eA with eA1 eA2
            subst eA1 eA2
            simp only [Nat.zero_add] at c0 c1' c2' c3' c4
            have hfz := HOR.out.frozen
            have HX := Lib.hid (HOR.out.due j t t.ev ht)
            have HXB := Lib.hid (Below.setCell HBR.out (p := ⟨gg, j * 5 + 2, none⟩) (by dsimp only; exact hgg) (.int .i64 t.ev))
            have HL : Hid ((vs.set j { t with du := t.ev }).length = us.length) := by show _ = _; rw [List.length_set]; exact HUS.out
            have hji : (j : Int) < (us.length : Int) := by omega
            have hj0 : (0 : Int) ≤ (j : Int) := by omega
            clear ht
            go_wp2
            go_roundw
            case rel => exact ⟨j + 1, _, by omega, by go_num, HL, HX, HXB⟩
            case measure => simp [intOf]; omega
          · obtain rfl : j = us.length := by omega
            have hvl : vs.length ≤ 11 := by rw [HUS.out]; exact hul
            have HO6 : Hid (Own wr w.heap.size (.slice (some ⟨gg, 0, none⟩) vs.length cv) vs) := by show Own _ _ _ _; rw [HUS.out]; exact HOR.out
            have HEQ := Lib.hid (show us.length = vs.length from HUS.out.symm)
            go_wp2
            rw [HEQ.out]
            go_ret2
            exact ⟨some ⟨gg, 0, none⟩, cv, vs, 1, rfl, hvl, ⟨by omega, by omega⟩, HO6.out, HBR.out⟩
    · have hpb : (pol == 1) = false := by simpa using hpol
      go_wp2
      go_loopw [7] (fun i wr => i = .int .i64 0 ∧ wr = w5) (fun i _ => 0)
      case atStart => exact ⟨rfl, rfl⟩
      case round =>
        obtain ⟨rfl, rfl⟩ := hrel
        by_cases hpos : (0 : Int) < (us.length : Int)
        · go_wp2
          go_ret2
          exact ⟨Av, cv, us, pol, rfl, hul, ⟨by omega, by omega⟩, HO5.out, HB5.out⟩
        · go_wp2
          go_ret2
          exact ⟨Av, cv, us, pol, rfl, hul, ⟨by omega, by omega⟩, HO5.out, HB5.out⟩

end Go.Proofs.YtgfnlfjaekkdfaaGreatDoor
