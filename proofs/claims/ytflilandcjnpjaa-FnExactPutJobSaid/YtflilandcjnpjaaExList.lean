/- Contracts of what the exact laws do with lists: count, copy, compare, mark, and look at the marks again. -/
import Derived.Test.YtflilandcjnpjaaToTask
import Derived.Test.YtflilandcjnpjaaM1
import Derived.Deep.RegionHeld3
namespace Go.Proofs.Ytflilandcjnpjaa
open Go.RowKit

set_option maxHeartbeats 400000 in
theorem sz_any (w : World) (A : Option Addr) (n c : Nat) (hn : n ≤ 9223372036854775807) :
    Calls Try.prog 27 #[.slice A n c, .int .i64 1048576] w fun e w' => e = .returned (.int .i64 (if 1048576 < (n : Int) then -1 else 1048576 - (n : Int))) ∧ w = w' := by
  by_cases h : 1048576 < n
  · go_enter Try.func27, Try.ntmps27
    go_wp2
    go_ret
    exact ⟨rfl, rfl⟩
  · go_enter Try.func27, Try.ntmps27
    go_wp2
    go_ret
    exact ⟨rfl, rfl⟩

theorem Own.frozen {w : World} {B g n c : Nat} {ts : List Tk} (h : Own w B (.slice (some ⟨g, 0, none⟩) n c) ts) : ∀ i, w.frozen? ⟨g, i, none⟩ = false := by
  have hn := h.reads.1
  subst hn
  exact World.ownsRow.frozenAt h

def zeroTk : Tk := ⟨0, 0, 0, 0, false⟩

theorem info_zero : zeroTk.cells = [.int .i64 0, .int .i64 0, .int .i64 0, .int .i64 0, .bool false] := rfl

theorem zero_cells (n : Nat) : (madeCells (Value.agg #[.int .i64 0, .int .i64 0, .int .i64 0, .int .i64 0, .bool false]).cells (n * 5)).toList = (List.replicate n zeroTk).flatMap Tk.cells := by
  have hl : ∀ m : Nat, (List.replicate m zeroTk).flatMap Tk.cells = (List.range (m * 5)).map fun j => if j % 5 = 4 then Value.bool false else .int .i64 0 := by
    intro m
    induction m with
    | zero => rfl
    | succ m ih =>
      rw [List.replicate_succ', List.flatMap_append, ih]
      have e : (m + 1) * 5 = m * 5 + 1 + 1 + 1 + 1 + 1 := by omega
      rw [e, List.range_succ, List.range_succ, List.range_succ, List.range_succ, List.range_succ]
      have q0 : ¬ (m * 5) % 5 = 4 := by omega
      have q1 : ¬ (m * 5 + 1) % 5 = 4 := by omega
      have q2 : ¬ (m * 5 + 1 + 1) % 5 = 4 := by omega
      have q3 : ¬ (m * 5 + 1 + 1 + 1) % 5 = 4 := by omega
      have q4 : (m * 5 + 1 + 1 + 1 + 1) % 5 = 4 := by omega
      simp only [List.map_append, List.map_cons, List.map_nil, q0, q1, q2, q3, q4, if_true, if_false, List.append_assoc, List.flatMap_cons, List.flatMap_nil, List.append_nil]
      rfl
  rw [hl]
  have hz : (Value.agg #[.int .i64 0, .int .i64 0, .int .i64 0, .int .i64 0, .bool false]).cells = #[.int .i64 0, .int .i64 0, .int .i64 0, .int .i64 0, .bool false] := rfl
  unfold madeCells
  rw [hz, Array.toList_map, Array.toList_range]
  refine List.map_congr_left fun j _ => ?_
  show (#[Value.int .i64 0, .int .i64 0, .int .i64 0, .int .i64 0, .bool false])[j % 5]! = _
  rcases (by omega : j % 5 = 0 ∨ j % 5 = 1 ∨ j % 5 = 2 ∨ j % 5 = 3 ∨ j % 5 = 4) with h | h | h | h | h <;> rw [h] <;> rfl

/-- The list of the laws' own tasks reads as the tasks ts (of another type of the same fields). -/
theorem take_put {ts : List Tk} {k : Nat} {t : Tk} (h : ts[k]? = some t) : (ts.take k ++ List.replicate (ts.length - k) zeroTk).set k t = ts.take (k + 1) ++ List.replicate (ts.length - (k + 1)) zeroTk := by
  obtain ⟨hk, rfl⟩ := List.getElem?_eq_some_iff.1 h
  rw [List.take_succ_eq_append_getElem hk]
  have e : ts.length - k = (ts.length - (k + 1)) + 1 := by omega
  rw [e, List.replicate_succ, List.set_append_right _ _ (by rw [List.length_take]; omega)]
  have e2 : k - (ts.take k).length = 0 := by rw [List.length_take]; omega
  rw [e2, List.set_cons_zero, List.append_assoc]
  rfl

set_option maxHeartbeats 1000000 in
theorem toTaskS_any (w : World) (A : Option Addr) (n c : Nat) (ts : List Tk) (h : Tks w w.heap.size A n ts) (hn : n ≤ 1048576) :
    Calls Try.prog 29 #[.slice A n c] w (LsRes ts w) := by
  obtain ⟨i0, hi, hz0, hz1, hz2⟩ := info_parts info_task
  have H := Lib.hid h
  have HL := Lib.hid h.len
  clear h
  go_enter Try.func29, Try.ntmps29
  go_wp2_with (at_make; refine wpList_make_full _ rfl _ _ 23 rfl w.heap.size 31 i0 _ 5 Try.underlying23 hi hz0 hz1 .i64 .i64 _ _ n rfl rfl rfl rfl (by rw [hz2]; omega) (by unfold maxLen; omega) (Nat.le_refl _) ?_; intro w2 hown0 hgrow0)
  have HO0 : Hid (Own w2 w.heap.size (.slice (some ⟨w.heap.size, 0, none⟩) n n) (List.replicate n zeroTk)) := by
    show w2.ownsRow _ _ _ _ _ _
    rw [← zero_cells, List.length_replicate]
    exact hown0
  have HB2 := Lib.hid ((Below.refl _ w).grown hgrow0 (Nat.le_refl _) (fun k e => by cases e))
  clear hown0 hgrow0
  go_loopw [4] (fun i wr => ∃ k : Nat, k ≤ n ∧ i = .int .i64 k ∧ Own wr w.heap.size (.slice (some ⟨w.heap.size, 0, none⟩) n n) (ts.take k ++ List.replicate (ts.length - k) zeroTk) ∧ Below w.heap.size w wr) (fun i _ => n - (intOf i).toNat)
  case atStart => exact ⟨0, Nat.zero_le _, rfl, by rw [HL.out]; exact HO0.out, HB2.out⟩
  case round =>
    obtain ⟨k, hk, rfl, ho, hb⟩ := hrel
    have HO := Lib.hid ho
    have HB := Lib.hid hb
    clear ho hb
    by_cases hlt : k < n
    · obtain ⟨t, ht⟩ : ∃ t, ts[k]? = some t := ⟨ts[k]'(by rw [HL.out]; exact hlt), List.getElem?_eq_getElem _⟩
      obtain ⟨b, o, rfl, hbl, c0, c1, c2, c3, c4⟩ := (H.out.below HB.out).at_ k t ht
      have HP := Lib.hid (take_put ht)
      obtain ⟨lo, hi', du, ev, cr⟩ := t
      dsimp only at c0 c1 c2 c3 c4
      clear ht
      go_wp2_with fail
      refine (toTask_any lo hi' du ev cr wr).mono ?_
      rintro e w3 ⟨rfl, hb3⟩
      clear c0 c1 c2 c3 c4
      have HB3 := Lib.hid (bl_trans HB.out hb3)
      have HO3 := Lib.hid (HO.out.below hb3)
      clear hb3
      have hlen : (ts.take k ++ List.replicate (ts.length - k) zeroTk).length = n := by simp [HL.out]; omega
      obtain ⟨t', ht'⟩ : ∃ t', (ts.take k ++ List.replicate (ts.length - k) zeroTk)[k]? = some t' := ⟨_, List.getElem?_eq_getElem (by omega)⟩
      have hfz := Own.frozen HO3.out
      obtain ⟨b', o', eA, hbl', c0, c1, c2, c3, c4⟩ := HO3.out.reads.2.at_ k t' ht'
      injection eA with eA
      injection eA with eA1 eA2
      subst eA1 eA2
      simp only [Nat.zero_add] at c0 c1 c2 c3 c4
      have HLN := Lib.hid hlen
      clear ht' hlen
      go_wp2
      go_roundw
      case rel => exact ⟨k + 1, by omega, by go_num, by rw [← HP.out]; exact HO3.out.put k ⟨lo, hi', du, ev, cr⟩ (by rw [HLN.out]; exact hlt), by repeat (first | exact HB3.out | refine bl_set ?_ (by dsimp only; omega) _)⟩
      case measure => simp [intOf]; omega
    · obtain rfl : k = n := by omega
      go_wp2
      go_ret
      exact lsRes_of HO.out HB.out (by rw [HL.out, List.take_of_length_le (by rw [HL.out]; omega)]; simp)

end Go.Proofs.Ytflilandcjnpjaa
