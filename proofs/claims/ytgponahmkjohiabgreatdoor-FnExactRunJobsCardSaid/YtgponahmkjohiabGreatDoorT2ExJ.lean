import Derived.Deep.RegionHeld3
import Derived.LoopTactic
import Derived.Test.YtgponahmkjohiabGreatDoorT2SDb
import Derived.Test.YtgponahmkjohiabGreatDoorT2JbP
import Derived.Test.YtgponahmkjohiabGreatDoorT2Dm
namespace Go.Proofs.YtgponahmkjohiabGreatDoor
open Go.RowKit
set_option linter.unusedVariables false
set_option maxHeartbeats 1000000 in
theorem toJob_any (ta tm ne : Int) (w : World) :
    Calls Tryz.prog 77 #[.agg #[.int .i64 ta, .int .i64 tm, .int .i64 ne]] w fun e w' => e = .returned (.agg #[.int .i64 ta, .int .i64 tm, .int .i64 ne]) ∧ Below w.heap.size w w' := by
  go_enter Tryz.func77, Tryz.ntmps77
  go_wp2
  refine bodyPost_ret (v := .agg #[.int .i64 ta, .int .i64 tm, .int .i64 ne]) (by simp [results, Tryz.results77, go_sem]) rfl ⟨rfl, ?_⟩
  repeat (first | exact Below.refl _ _ | refine bl_alloc ?_ _ | refine bl_set ?_ (by dsimp only; omega) _)
theorem eqJob_any (w : World) (ta tm ne : Int) :
    Calls Tryz.prog 80 #[.agg #[.int .i64 ta, .int .i64 tm, .int .i64 ne], .agg #[.int .i64 ta, .int .i64 tm, .int .i64 ne]] w fun e w' => e = .returned (.bool true) ∧ Below w.heap.size w w' := by
  go_enter Tryz.func80, Tryz.ntmps80
  go_wp2
  go_ret
  exact ⟨rfl, bl_alloc (bl_alloc (Below.refl _ _) _) _⟩
set_option maxHeartbeats 400000 in
theorem szJ_any (w : World) (A : Option Addr) (n c : Nat) (hn : n ≤ 9223372036854775807) (l : Int) (h0 : 0 ≤ l) (h1 : l ≤ 1048576) :
    Calls Tryz.prog 31 #[.slice A n c, .int .i64 l] w fun e w' => e = .returned (.int .i64 (if l < (n : Int) then -1 else l - (n : Int))) ∧ w = w' := by
  have kw : IntKind.i64.wrap (l - (n : Int)) = l - (n : Int) := IntWalk.i64_in _ (by omega)
  by_cases h : l < (n : Int)
  · have d1 : l - (n : Int) < 0 := by omega
    rw [if_pos h]
    go_enter Tryz.func31, Tryz.ntmps31
    go_wp2
    go_ret
    exact ⟨rfl, rfl⟩
  · have d1 : ¬ l - (n : Int) < 0 := by omega
    rw [if_neg h]
    go_enter Tryz.func31, Tryz.ntmps31
    go_wp2
    go_ret
    exact ⟨rfl, rfl⟩
theorem OwnJ.frozen {w : World} {B g n c : Nat} {ts : List Jb} (h : OwnJ w B (.slice (some ⟨g, 0, none⟩) n c) ts) : ∀ i, w.frozen? ⟨g, i, none⟩ = false := by
  obtain ⟨_, _, cur, hcur, _⟩ := jown_block h
  exact fun i => Blk.frozen (w := w) (g := g) (cs := cur) hcur i
def zeroJb : Jb := ⟨0, 0, 0⟩
theorem jzero_cells (n : Nat) : (madeCells (Value.agg #[.int .i64 0, .int .i64 0, .int .i64 0]).cells (n * 3)).toList = (List.replicate n zeroJb).flatMap Jb.cells := by
  have hl : ∀ m : Nat, (List.replicate m zeroJb).flatMap Jb.cells = (List.range (m * 3)).map fun j => Value.int .i64 0 := by
    intro m
    induction m with
    | zero => rfl
    | succ m ih =>
      rw [List.replicate_succ', List.flatMap_append, ih]
      have e : (m + 1) * 3 = m * 3 + 1 + 1 + 1 := by omega
      rw [e, List.range_succ, List.range_succ, List.range_succ]
      simp only [List.map_append, List.map_cons, List.map_nil, List.append_assoc, List.flatMap_cons, List.flatMap_nil, List.append_nil]
      rfl
  rw [hl]
  have hz : (Value.agg #[.int .i64 0, .int .i64 0, .int .i64 0]).cells = #[.int .i64 0, .int .i64 0, .int .i64 0] := rfl
  unfold madeCells
  rw [hz, Array.toList_map, Array.toList_range]
  refine List.map_congr_left fun j _ => ?_
  show (#[Value.int .i64 0, .int .i64 0, .int .i64 0])[j % 3]! = _
  rcases (by omega : j % 3 = 0 ∨ j % 3 = 1 ∨ j % 3 = 2) with h | h | h <;> rw [h] <;> rfl
theorem jtake_put {ts : List Jb} {k : Nat} {t : Jb} (h : ts[k]? = some t) : (ts.take k ++ List.replicate (ts.length - k) zeroJb).set k t = ts.take (k + 1) ++ List.replicate (ts.length - (k + 1)) zeroJb := by
  obtain ⟨hk, rfl⟩ := List.getElem?_eq_some_iff.1 h
  rw [List.take_succ_eq_append_getElem hk]
  have e : ts.length - k = (ts.length - (k + 1)) + 1 := by omega
  rw [e, List.replicate_succ, List.set_append_right _ _ (by rw [List.length_take]; omega)]
  have e2 : k - (ts.take k).length = 0 := by rw [List.length_take]; omega
  rw [e2, List.set_cons_zero, List.append_assoc]
  rfl
/-- The copy: its address is known. -/
def JsCopy (js : List Jb) (w : World) (e : Ending) (w' : World) : Prop :=
  ∃ g : Nat, e = .returned (.slice (some ⟨g, 0, none⟩) js.length js.length) ∧ OwnJ w' w.heap.size (.slice (some ⟨g, 0, none⟩) js.length js.length) js ∧ Below w.heap.size w w'
set_option maxHeartbeats 1000000 in
theorem toJobS_any (w : World) (A : Option Addr) (n c : Nat) (ts : List Jb) (h : Jbs w w.heap.size A n ts) (hn : n ≤ 1048576) :
    Calls Tryz.prog 33 #[.slice A n c] w (JsCopy ts w) := by
  obtain ⟨i0, hi, hz0, hz1, hz2⟩ := info_parts info_job
  have H := Lib.hid h
  have HL := Lib.hid h.len
  clear h
  go_enter Tryz.func33, Tryz.ntmps33
  go_wp2_with (at_make; refine wpList_make_full _ rfl _ _ 24 rfl w.heap.size 46 i0 _ 3 Tryz.underlying24 hi hz0 hz1 .i64 .i64 _ _ n rfl rfl rfl rfl (by rw [hz2]; omega) (by unfold maxLen; omega) (Nat.le_refl _) ?_; intro w2 hown0 hgrow0)
  have HO0 : Hid (OwnJ w2 w.heap.size (.slice (some ⟨w.heap.size, 0, none⟩) n n) (List.replicate n zeroJb)) := by
    show w2.ownsRow _ _ _ _ _ _
    rw [← jzero_cells, List.length_replicate]
    exact hown0
  have HB2 := Lib.hid ((Below.refl _ w).grown hgrow0 (Nat.le_refl _) (fun k e => by cases e))
  clear hown0 hgrow0
  go_loopw [4] (fun i wr => ∃ k : Nat, k ≤ n ∧ i = .int .i64 k ∧ Hid (OwnJ wr w.heap.size (.slice (some ⟨w.heap.size, 0, none⟩) n n) (ts.take k ++ List.replicate (ts.length - k) zeroJb)) ∧ Hid (Below w.heap.size w wr)) (fun i _ => n - (intOf i).toNat)
  case atStart => exact ⟨0, Nat.zero_le _, rfl, by rw [HL.out]; exact HO0, HB2⟩
  case round =>
    obtain ⟨k, hk, rfl, HO, HB⟩ := hrel
    by_cases hlt : k < n
    · obtain ⟨t, ht⟩ : ∃ t, ts[k]? = some t := ⟨ts[k]'(by rw [HL.out]; exact hlt), List.getElem?_eq_getElem _⟩
      obtain ⟨b, o, rfl, hbl, c0, c1, c2⟩ := (H.out.below HB.out).at_ k t ht
      have HP := Lib.hid (jtake_put ht)
      obtain ⟨ta, tm, ne⟩ := t
      dsimp only at c0 c1 c2
      clear ht
      go_wp2_with fail
      refine (toJob_any ta tm ne wr).mono ?_
      rintro e w3 ⟨rfl, hb3⟩
      clear c0 c1 c2
      have HB3 := Lib.hid (bl_trans HB.out hb3)
      have HO3 := Lib.hid (HO.out.below hb3)
      clear hb3
      have hlen : (ts.take k ++ List.replicate (ts.length - k) zeroJb).length = n := by simp [HL.out]; omega
      obtain ⟨t', ht'⟩ : ∃ t', (ts.take k ++ List.replicate (ts.length - k) zeroJb)[k]? = some t' := ⟨_, List.getElem?_eq_getElem (by omega)⟩
      have hfz := OwnJ.frozen HO3.out
      obtain ⟨hbl', _, c0, c1, c2⟩ := ownJ_get HO3.out ht'
      have HLN := Lib.hid hlen
      have HPUT := Lib.hid (OwnJ.put3 HO3.out k ⟨ta, tm, ne⟩ (by rw [HLN.out]; exact hlt))
      clear ht' hlen
      go_wp2
      go_roundw
      case rel => exact ⟨k + 1, by omega, by go_num, Lib.hid (by rw [← HP.out]; exact HPUT.out), Lib.hid (by repeat (first | exact HB3.out | refine bl_set ?_ (by dsimp only; omega) _))⟩
      case measure => simp [intOf]; omega
    · obtain rfl : k = n := by omega
      have hall : ts.take k ++ List.replicate (ts.length - k) zeroJb = ts := by rw [HL.out, List.take_of_length_le (by rw [HL.out]; omega)]; simp
      rw [hall] at HO
      go_wp2
      go_ret
      exact ⟨w.heap.size, by rw [HL.out]; rfl, by rw [HL.out]; exact HO.out, HB.out⟩
set_option maxHeartbeats 2000000 in
theorem eqJobS_any (w : World) (A A' : Option Addr) (n c c' : Nat) (js : List Jb) (h : Jbs w w.heap.size A n js) (h' : Jbs w w.heap.size A' n js) (hn : n ≤ 1048576) :
    Calls Tryz.prog 36 #[.slice A n c, .slice A' n c'] w fun e w' => e = .returned (.bool true) ∧ Below w.heap.size w w' := by
  have H := Lib.hid h
  have H' := Lib.hid h'
  have HL := Lib.hid h.len
  clear h h'
  go_enter Tryz.func36, Tryz.ntmps36
  go_wp2
  go_loopw [5] (fun i wr => ∃ k : Nat, k ≤ n ∧ i = .int .i64 k ∧ Hid (Below w.heap.size w wr)) (fun i _ => n - (intOf i).toNat)
  case atStart => exact ⟨0, Nat.zero_le _, rfl, Lib.hid (Below.refl _ _)⟩
  case round =>
    obtain ⟨k, hk, rfl, HB⟩ := hrel
    have hsz := HB.out.size
    by_cases hlt : k < n
    · obtain ⟨j, hj⟩ : ∃ j, js[k]? = some j := ⟨js[k]'(by rw [HL.out]; exact hlt), List.getElem?_eq_getElem _⟩
      obtain ⟨b, o, rfl, hbl, c0, c1, c2⟩ := (H.out.below HB.out).at_ k j hj
      obtain ⟨b', o', rfl, hbl', d0, d1, d2⟩ := (H'.out.below HB.out).at_ k j hj
      obtain ⟨ta, tm, ne⟩ := j
      dsimp only at c0 c1 c2 d0 d1 d2
      clear hj
      have i1 : (0 : Int) ≤ (k : Int) := by omega
      have i2 : (k : Int) < (n : Int) := by omega
      go_wp2
      go_region_held3 (fun W => W.cell? ⟨b, o + k * 3, none⟩ = some (.int .i64 ta) ∧ W.cell? ⟨b, o + k * 3 + 1, none⟩ = some (.int .i64 tm) ∧ W.cell? ⟨b, o + k * 3 + 2, none⟩ = some (.int .i64 ne) ∧ W.cell? ⟨b', o' + k * 3, none⟩ = some (.int .i64 ta) ∧ W.cell? ⟨b', o' + k * 3 + 1, none⟩ = some (.int .i64 tm) ∧ W.cell? ⟨b', o' + k * 3 + 2, none⟩ = some (.int .i64 ne)) (first | exact ⟨c0, c1, c2, d0, d1, d2⟩ | assumption | (simp [go_sem, *]; done))
        ((go_at_call 80; refine (eqJob_any _ ta tm ne).mono ?_; rintro e w' ⟨rfl, hb⟩; have HB3 := Lib.hid (show Below w.heap.size w w' from bl_trans (by repeat (first | with_reducible exact HB.out | with_reducible refine Below.drew ?_ | with_reducible refine bl_drewN ?_ _)) hb); have c0' := (hb.cell (p := ⟨b, o + k * 3, none⟩) (Nat.lt_of_lt_of_le hbl hsz)).trans c0; have c1' := (hb.cell (p := ⟨b, o + k * 3 + 1, none⟩) (Nat.lt_of_lt_of_le hbl hsz)).trans c1; have c2' := (hb.cell (p := ⟨b, o + k * 3 + 2, none⟩) (Nat.lt_of_lt_of_le hbl hsz)).trans c2; have d0' := (hb.cell (p := ⟨b', o' + k * 3, none⟩) (Nat.lt_of_lt_of_le hbl' hsz)).trans d0; have d1' := (hb.cell (p := ⟨b', o' + k * 3 + 1, none⟩) (Nat.lt_of_lt_of_le hbl' hsz)).trans d1; have d2' := (hb.cell (p := ⟨b', o' + k * 3 + 2, none⟩) (Nat.lt_of_lt_of_le hbl' hsz)).trans d2; clear hb))
      go_wp2
      go_roundw
      case rel => exact ⟨k + 1, by omega, by go_num, Lib.hid (by repeat (first | with_reducible exact HB3.out | refine bl_drewN ?_ _ | refine Below.drew ?_))⟩
      case measure => simp [intOf]; omega
    · obtain rfl : k = n := by omega
      go_wp2
      go_ret
      exact ⟨rfl, HB.out⟩
def markJb (k0 j : Nat) : Jb := ⟨(k0 + j * 3 : Nat), (k0 + j * 3 + 1 : Nat), (k0 + j * 3 + 2 : Nat)⟩
def jmarks (k0 n : Nat) : List Jb := (List.range n).map (markJb k0)
theorem jmarks_len (k0 n : Nat) : (jmarks k0 n).length = n := by simp [jmarks]
theorem jmarks_succ (k0 j : Nat) : jmarks k0 (j + 1) = jmarks k0 j ++ [markJb k0 j] := by
  unfold jmarks; rw [List.range_succ, List.map_append]; rfl
theorem jmarks_put {ts : List Jb} {k0 j : Nat} (h : j < ts.length) : (jmarks k0 j ++ ts.drop j).set j (markJb k0 j) = jmarks k0 (j + 1) ++ ts.drop (j + 1) := by
  rw [List.set_append_right _ _ (by rw [jmarks_len]; omega), jmarks_len, Nat.sub_self, List.drop_eq_getElem_cons h, List.set_cons_zero, jmarks_succ, List.append_assoc]
  rfl
set_option maxHeartbeats 2000000 in
theorem jmark_own (w : World) (B : Nat) (A : Option Addr) (n c k0 : Nat) (ts : List Jb) (h : OwnJ w B (.slice A n c) ts) (hn : n ≤ 1048576) (hk0 : k0 ≤ 6000000) :
    Calls Tryz.prog 38 #[.slice A n c, .int .i64 k0] w fun e w' => e = .returned (.int .i64 ((k0 + n * 3 : Nat) : Int)) ∧ OwnJ w' B (.slice A n c) (jmarks k0 n) ∧ w.grownBy w' (Value.slice A n c).ownBlock := by
  by_cases h0 : n = 0
  · subst h0
    have hts : ts = [] := List.eq_nil_of_length_eq_zero h.len_.symm
    subst hts
    have H := Lib.hid h
    clear h
    go_enter Tryz.func38, Tryz.ntmps38
    go_wp2
    go_loop [1, 5] (fun q i => q = .int .i64 k0 ∧ i = .int .i64 0) (fun _ _ => 0)
    case atStart => exact ⟨rfl, rfl⟩
    case round =>
      obtain ⟨rfl, rfl⟩ := hrel
      go_wp2
      go_ret
      exact ⟨rfl, H.out, World.grownBy.refl _ _⟩
  obtain ⟨g, c2, ev⟩ := h.some_ (by have := h.len_; omega)
  injection ev with eA eN eC
  subst eA
  have H := Lib.hid h
  have HL := Lib.hid h.len_
  clear h eN eC h0
  go_enter Tryz.func38, Tryz.ntmps38
  go_wp2
  go_loopw [1, 5] (fun q i wr => ∃ j : Nat, j ≤ n ∧ i = .int .i64 j ∧ q = .int .i64 ((k0 + j * 3 : Nat) : Int) ∧ Hid (OwnJ wr B (.slice (some ⟨g, 0, none⟩) n c) (jmarks k0 j ++ ts.drop j)) ∧ Hid (w.grownBy wr (some g))) (fun _ i _ => n - (intOf i).toNat)
  case atStart => exact ⟨0, Nat.zero_le _, rfl, rfl, H, Lib.hid (World.grownBy.refl _ _)⟩
  case round =>
    obtain ⟨j, hj, rfl, rfl, HO, HG⟩ := hrel
    by_cases hlt : j < n
    · have hjl : j < ts.length := by rw [← HL.out]; exact hlt
      have HP := Lib.hid (jmarks_put (k0 := k0) hjl)
      obtain ⟨t, ht⟩ : ∃ t, (jmarks k0 j ++ ts.drop j)[j]? = some t := ⟨_, List.getElem?_eq_getElem (by simp [jmarks_len]; omega)⟩
      have hlen : j < (jmarks k0 j ++ ts.drop j).length := by simp [jmarks_len]; omega
      obtain ⟨_, _, c0, c1, c2⟩ := ownJ_get HO.out ht
      have hfz := HO.out.frozen
      have HPUT := Lib.hid (OwnJ.put3 HO.out j (markJb k0 j) hlen)
      clear ht hlen
      go_wp2
      go_roundw
      case rel =>
        refine ⟨j + 1, by omega, by go_num, by go_num, Lib.hid ?_, Lib.hid ?_⟩
        · rw [← HP.out]
          exact HPUT.out
        · repeat (first | exact HG.out | refine gb_set ?_ (.inl rfl) _)
      case measure => simp [intOf]; omega
    · obtain rfl : j = n := by omega
      go_wp2
      go_ret
      exact ⟨rfl, by have h := HO.out; rw [List.drop_eq_nil_of_le (by rw [← HL.out]; omega), List.append_nil] at h; exact h, HG.out⟩
end Go.Proofs.YtgponahmkjohiabGreatDoor
