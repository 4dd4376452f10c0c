/- Contracts of what the exact laws do with results: compare two lists, write marks into one, and look at the marks again. -/
import Derived.Test.YtflilandcjnpjaaExList
import Derived.Test.YtflilandcjnpjaaSame
namespace Go.Proofs.Ytflilandcjnpjaa
open Go.RowKit

set_option maxHeartbeats 1000000 in
theorem eqTask_any (w : World) (lo hi du ev : Int) (cr : Bool) :
    Calls Try.prog 59 #[.agg #[.int .i64 lo, .int .i64 hi, .int .i64 du, .int .i64 ev, .bool cr], .agg #[.int .i64 lo, .int .i64 hi, .int .i64 du, .int .i64 ev, .bool cr]] w fun e w' =>
      e = .returned (.bool true) ∧ Below w.heap.size w w' := by
  go_enter Try.func59, Try.ntmps59
  go_wp2
  go_ret
  exact ⟨rfl, bl_alloc (bl_alloc (Below.refl _ _) _) _⟩

set_option maxHeartbeats 2000000 in
theorem eqTaskS_any (w : World) (A A' : Option Addr) (n c c' : Nat) (ts : List Tk) (h : Tks w w.heap.size A n ts) (h' : Tks w w.heap.size A' n ts) (hn : n ≤ 1048576) :
    Calls Try.prog 31 #[.slice A n c, .slice A' n c'] w (Same w) := by
  have H := Lib.hid h
  have H' := Lib.hid h'
  have HL := Lib.hid h.len
  clear h h'
  go_enter Try.func31, Try.ntmps31
  go_wp2
  go_loopw [5] (fun i wr => ∃ k : Nat, k ≤ n ∧ i = .int .i64 k ∧ Below w.heap.size w wr) (fun i _ => n - (intOf i).toNat)
  case atStart => exact ⟨0, Nat.zero_le _, rfl, Below.refl _ _⟩
  case round =>
    obtain ⟨k, hk, rfl, hb⟩ := hrel
    have HB := Lib.hid hb
    have hsz := hb.size
    clear hb
    by_cases hlt : k < n
    · obtain ⟨t, ht⟩ : ∃ t, ts[k]? = some t := ⟨ts[k]'(by rw [HL.out]; exact hlt), List.getElem?_eq_getElem _⟩
      obtain ⟨b, o, rfl, hbl, c0, c1, c2, c3, c4⟩ := (H.out.below HB.out).at_ k t ht
      obtain ⟨b', o', rfl, hbl', d0, d1, d2, d3, d4⟩ := (H'.out.below HB.out).at_ k t ht
      obtain ⟨lo, hi, du, ev, cr⟩ := t
      dsimp only at c0 c1 c2 c3 c4 d0 d1 d2 d3 d4
      clear ht
      have i1 : (0 : Int) ≤ (k : Int) := by omega
      have i2 : (k : Int) < (n : Int) := by omega
      go_wp2
      go_region_held3 (fun W => (W.cell? ⟨b, o + k * 5, none⟩ = some (.int .i64 lo) ∧ W.cell? ⟨b, o + k * 5 + 1, none⟩ = some (.int .i64 hi) ∧ W.cell? ⟨b, o + k * 5 + 2, none⟩ = some (.int .i64 du) ∧ W.cell? ⟨b, o + k * 5 + 3, none⟩ = some (.int .i64 ev) ∧ W.cell? ⟨b, o + k * 5 + 4, none⟩ = some (.bool cr)) ∧ W.cell? ⟨b', o' + k * 5, none⟩ = some (.int .i64 lo) ∧ W.cell? ⟨b', o' + k * 5 + 1, none⟩ = some (.int .i64 hi) ∧ W.cell? ⟨b', o' + k * 5 + 2, none⟩ = some (.int .i64 du) ∧ W.cell? ⟨b', o' + k * 5 + 3, none⟩ = some (.int .i64 ev) ∧ W.cell? ⟨b', o' + k * 5 + 4, none⟩ = some (.bool cr)) (first | assumption | (simp [go_sem, *]; done))
        ((go_at_call 59; refine (eqTask_any _ lo hi du ev cr).mono ?_; rintro e w' ⟨rfl, hb⟩; have c0' := (hb.cell (p := ⟨b, o + k * 5, none⟩) (Nat.lt_of_lt_of_le hbl hsz)).trans c0; have c1' := (hb.cell (p := ⟨b, o + k * 5 + 1, none⟩) (Nat.lt_of_lt_of_le hbl hsz)).trans c1; have c2' := (hb.cell (p := ⟨b, o + k * 5 + 2, none⟩) (Nat.lt_of_lt_of_le hbl hsz)).trans c2; have c3' := (hb.cell (p := ⟨b, o + k * 5 + 3, none⟩) (Nat.lt_of_lt_of_le hbl hsz)).trans c3; have c4' := (hb.cell (p := ⟨b, o + k * 5 + 4, none⟩) (Nat.lt_of_lt_of_le hbl hsz)).trans c4; have d0' := (hb.cell (p := ⟨b', o' + k * 5, none⟩) (Nat.lt_of_lt_of_le hbl' hsz)).trans d0; have d1' := (hb.cell (p := ⟨b', o' + k * 5 + 1, none⟩) (Nat.lt_of_lt_of_le hbl' hsz)).trans d1; have d2' := (hb.cell (p := ⟨b', o' + k * 5 + 2, none⟩) (Nat.lt_of_lt_of_le hbl' hsz)).trans d2; have d3' := (hb.cell (p := ⟨b', o' + k * 5 + 3, none⟩) (Nat.lt_of_lt_of_le hbl' hsz)).trans d3; have d4' := (hb.cell (p := ⟨b', o' + k * 5 + 4, none⟩) (Nat.lt_of_lt_of_le hbl' hsz)).trans d4; have HB3 : Hid (Below w.heap.size w w') := HB.out.trans ((show Below wr.heap.size wr w' from ⟨hb.os, hb.tape, hb.output, hb.size, hb.block⟩).mono hsz); clear hb))
      go_wp2
      go_roundw
      case rel => exact ⟨k + 1, by omega, by go_num, HB3.out⟩
      case measure => simp [intOf]; omega
    · obtain rfl : k = n := by omega
      go_wp2
      go_ret
      exact ⟨rfl, HB.out⟩

def markTk (k0 j : Nat) : Tk := ⟨(k0 + j * 5 : Nat), (k0 + j * 5 + 1 : Nat), (k0 + j * 5 + 2 : Nat), (k0 + j * 5 + 3 : Nat), ((k0 + j * 5 + 4 : Nat) : Int) % 3 == 0⟩
def marks (k0 n : Nat) : List Tk := (List.range n).map (markTk k0)

theorem marks_len (k0 n : Nat) : (marks k0 n).length = n := by simp [marks]
theorem marks_get {k0 n j : Nat} (h : j < n) : (marks k0 n)[j]? = some (markTk k0 j) := by
  unfold marks; rw [List.getElem?_map, List.getElem?_range h]; rfl
theorem marks_succ (k0 j : Nat) : marks k0 (j + 1) = marks k0 j ++ [markTk k0 j] := by
  unfold marks; rw [List.range_succ, List.map_append]; rfl
theorem marks_put {ts : List Tk} {k0 j : Nat} (h : j < ts.length) : (marks k0 j ++ ts.drop j).set j (markTk k0 j) = marks k0 (j + 1) ++ ts.drop (j + 1) := by
  rw [List.set_append_right _ _ (by rw [marks_len]; omega), marks_len, Nat.sub_self, List.drop_eq_getElem_cons h, List.set_cons_zero, marks_succ, List.append_assoc]
  rfl

def MarkRes (k0 n g : Nat) (B : Nat) (v : Value) (w : World) (e : Ending) (w' : World) : Prop :=
  e = .returned (.int .i64 ((k0 + n * 5 : Nat) : Int)) ∧ Own w' B v (marks k0 n) ∧ w.grownBy w' (some g)

set_option maxHeartbeats 2000000 in
theorem mark_any (w : World) (B g n c k0 : Nat) (ts : List Tk) (h : Own w B (.slice (some ⟨g, 0, none⟩) n c) ts) (hn : n ≤ 1048576) (hk0 : k0 ≤ 10) :
    Calls Try.prog 33 #[.slice (some ⟨g, 0, none⟩) n c, .int .i64 k0] w (MarkRes k0 n g B (.slice (some ⟨g, 0, none⟩) n c) w) := by
  have H := Lib.hid h
  have HL := Lib.hid h.reads.1
  clear h
  go_enter Try.func33, Try.ntmps33
  go_wp2
  go_loopw [1, 5] (fun q i wr => ∃ j : Nat, j ≤ n ∧ i = .int .i64 j ∧ q = .int .i64 ((k0 + j * 5 : Nat) : Int) ∧ Own wr B (.slice (some ⟨g, 0, none⟩) n c) (marks k0 j ++ ts.drop j) ∧ w.grownBy wr (some g)) (fun _ i _ => n - (intOf i).toNat)
  case atStart => exact ⟨0, Nat.zero_le _, rfl, rfl, H.out, World.grownBy.refl _ _⟩
  case round =>
    obtain ⟨j, hj, rfl, rfl, ho, hg⟩ := hrel
    have HO := Lib.hid ho
    have HG := Lib.hid hg
    clear ho hg
    by_cases hlt : j < n
    · have hjl : j < ts.length := by rw [← HL.out]; exact hlt
      have HP := Lib.hid (marks_put (k0 := k0) hjl)
      obtain ⟨t, ht⟩ : ∃ t, (marks k0 j ++ ts.drop j)[j]? = some t := ⟨_, List.getElem?_eq_getElem (by simp [marks_len]; omega)⟩
      have hlen : j < (marks k0 j ++ ts.drop j).length := by simp [marks_len]; omega
      obtain ⟨b, o, eA, hbl, c0, c1, c2, c3, c4⟩ := HO.out.reads.2.at_ j t ht
      injection eA with eA
      injection eA with eA1 eA2
      subst eA1 eA2
      simp only [Nat.zero_add] at c0 c1 c2 c3 c4
      have hfz := HO.out.frozen
      have HH := Lib.hid hlen
      clear ht hlen
      go_wp2
      go_roundw
      case rel =>
        refine ⟨j + 1, by omega, by go_num, by go_num, ?_, ?_⟩
        · rw [← HP.out]
          have hx := HO.out.put j (markTk k0 j) HH.out
          exact hx
        · repeat (first | exact HG.out | refine gb_set ?_ (.inl rfl) _)
      case measure => simp [intOf]; omega
    · obtain rfl : j = n := by omega
      go_wp2
      go_ret
      exact ⟨rfl, by have h := HO.out; rw [List.drop_eq_nil_of_le (by rw [← HL.out]; omega), List.append_nil] at h; exact h, HG.out⟩

end Go.Proofs.Ytflilandcjnpjaa
