/- Contracts of RanOf and IdleOf, the program's and the reference's. -/
import Derived.Test.YtjondedkgkohfaaZm
import Derived.LoopTactic
namespace Go.Proofs.Ytjondedkgkohfaa
open Go.RowKit
set_option linter.unusedVariables false

/-- At how many places a number stands. -/
def ranZ (z : Int) (l : List Int) : Nat := (l.filter (fun x => x == z)).length
theorem ran_yes {z : Int} {l : List Int} {k m : Nat} (hx : l[k]? = some z) (h : ranZ z (l.take k) = m) : ranZ z (l.take (k + 1)) = m + 1 := by
  obtain ⟨hk, rfl⟩ := List.getElem?_eq_some_iff.1 hx
  rw [List.take_succ_eq_append_getElem hk, ranZ, List.filter_append, List.length_append]
  simp
  exact h
theorem ran_no {z x : Int} {l : List Int} {k m : Nat} (hx : l[k]? = some x) (hne : (x == z) = false) (h : ranZ z (l.take k) = m) : ranZ z (l.take (k + 1)) = m := by
  obtain ⟨hk, rfl⟩ := List.getElem?_eq_some_iff.1 hx
  rw [List.take_succ_eq_append_getElem hk, ranZ, List.filter_append, List.length_append]
  simp [hne]
  exact h
def RanRes (z : Int) (tr : List Int) (w : World) (e : Ending) (w' : World) : Prop := e = .returned (.int .i64 (ranZ z tr : Nat)) ∧ Below w.heap.size w w'

set_option maxHeartbeats 1000000 in
theorem iRan_is (w : World) (A1 : Option Addr) (n1 c1 : Nat) (A2 : Option Addr) (n2 c2 : Nat) (A3 : Option Addr) (n3 c3 : Nat) (hi : Bool) (tr : List Int) (h : Zs w w.heap.size A2 n2 tr) (hn : n2 ≤ 1100000) (z : Int) :
    Calls Try.prog 29 #[.agg #[.slice A1 n1 c1, .slice A2 n2 c2, .slice A3 n3 c3, .bool hi], .int .i64 z] w (RanRes z tr w) := by
  have H := Lib.hid h
  have HL := Lib.hid h.len
  clear h
  go_enter Try.func29, Try.ntmps29
  go_wp2
  go_loop [5, 11] (fun s i => ∃ k m : Nat, k ≤ n2 ∧ i = .int .i64 k ∧ s = .int .i64 m ∧ m ≤ k ∧ Hid (ranZ z (tr.take k) = m)) (fun _ i => n2 - (intOf i).toNat)
  case atStart => exact ⟨0, 0, Nat.zero_le _, rfl, rfl, Nat.le_refl _, Lib.hid rfl⟩
  case round =>
    obtain ⟨k, m, hk, rfl, rfl, hmk, HM⟩ := hrel
    by_cases hlt : k < n2
    · have q2 : (k : Int) < (n2 : Int) := by omega
      obtain ⟨x, hx⟩ := zs_at H.out hlt
      obtain ⟨b, o, rfl, hbl, c0⟩ := H.out.at_ k x hx
      have c1 := ((bl_alloc (Below.refl w.heap.size w) (.cells #[.slice A1 n1 c1, .slice (some ⟨b, o, none⟩) n2 c2, .slice A3 n3 c3, .bool hi] 27)).cell (p := ⟨b, o + k, none⟩) hbl).trans c0
      by_cases hxz : x = z
      · subst hxz
        have HN := Lib.hid (ran_yes hx HM.out)
        go_wp2
        go_round
        case rel => exact ⟨k + 1, m + 1, by omega, by go_num, by go_num, by omega, HN⟩
        case measure => simp [intOf]; omega
      · have tz : (x == z) = false := by simpa using hxz
        have HN := Lib.hid (ran_no hx tz HM.out)
        go_wp2
        go_round
        case rel => exact ⟨k + 1, m, by omega, by go_num, rfl, by omega, HN⟩
        case measure => simp [intOf]; omega
    · obtain rfl : k = n2 := by omega
      go_wp2
      go_ret
      refine ⟨?_, bl_alloc (Below.refl _ w) _⟩
      have h := HM.out
      rw [List.take_of_length_le (by rw [HL.out]; exact Nat.le_refl _)] at h
      rw [h]
      rfl

set_option maxHeartbeats 1000000 in
theorem sRan_is (w : World) (A1 : Option Addr) (n1 c1 : Nat) (A2 : Option Addr) (n2 c2 : Nat) (A3 : Option Addr) (n3 c3 : Nat) (hi : Bool) (tr : List Int) (h : Zs w w.heap.size A2 n2 tr) (hn : n2 ≤ 1100000) (z : Int) :
    Calls Try.prog 30 #[.agg #[.slice A1 n1 c1, .slice A2 n2 c2, .slice A3 n3 c3, .bool hi], .int .i64 z] w (RanRes z tr w) := by
  have H := Lib.hid h
  have HL := Lib.hid h.len
  clear h
  go_enter Try.func30, Try.ntmps30
  go_wp2
  go_loop [5, 6] (fun s i => ∃ k m : Nat, k ≤ n2 ∧ i = .int .i64 k ∧ s = .int .i64 m ∧ m ≤ k ∧ Hid (ranZ z (tr.take k) = m)) (fun _ i => n2 - (intOf i).toNat)
  case atStart => exact ⟨0, 0, Nat.zero_le _, rfl, rfl, Nat.le_refl _, Lib.hid rfl⟩
  case round =>
    obtain ⟨k, m, hk, rfl, rfl, hmk, HM⟩ := hrel
    by_cases hlt : k < n2
    · have q2 : (k : Int) < (n2 : Int) := by omega
      obtain ⟨x, hx⟩ := zs_at H.out hlt
      obtain ⟨b, o, rfl, hbl, c0⟩ := H.out.at_ k x hx
      have c1 := ((bl_alloc (Below.refl w.heap.size w) (.cells #[.slice A1 n1 c1, .slice (some ⟨b, o, none⟩) n2 c2, .slice A3 n3 c3, .bool hi] 27)).cell (p := ⟨b, o + k, none⟩) hbl).trans c0
      by_cases hxz : x = z
      · subst hxz
        have HN := Lib.hid (ran_yes hx HM.out)
        go_wp2
        go_round
        case rel => exact ⟨k + 1, m + 1, by omega, by go_num, by go_num, by omega, HN⟩
        case measure => simp [intOf]; omega
      · have tz : (x == z) = false := by simpa using hxz
        have HN := Lib.hid (ran_no hx tz HM.out)
        go_wp2
        go_round
        case rel => exact ⟨k + 1, m, by omega, by go_num, rfl, by omega, HN⟩
        case measure => simp [intOf]; omega
    · obtain rfl : k = n2 := by omega
      go_wp2
      go_ret
      refine ⟨?_, bl_alloc (Below.refl _ w) _⟩
      have h := HM.out
      rw [List.take_of_length_le (by rw [HL.out]; exact Nat.le_refl _)] at h
      rw [h]
      rfl

theorem iIdle_is (w : World) (A1 : Option Addr) (n1 c1 : Nat) (A2 : Option Addr) (n2 c2 : Nat) (A3 : Option Addr) (n3 c3 : Nat) (hi : Bool) (tr : List Int) (h : Zs w w.heap.size A2 n2 tr) (hn : n2 ≤ 1100000) :
    Calls Try.prog 31 #[.agg #[.slice A1 n1 c1, .slice A2 n2 c2, .slice A3 n3 c3, .bool hi]] w (RanRes (-1) tr w) := by
  go_enter Try.func31, Try.ntmps31
  go_wp2_with fail
  refine (iRan_is _ A1 n1 c1 A2 n2 c2 A3 n3 c3 hi tr ((h.below (bl_alloc (Below.refl _ w) _)).more (by simp)) hn (-1)).mono ?_
  rintro e w1 ⟨rfl, hb⟩
  go_wp2
  go_ret
  exact ⟨rfl, bl_trans (bl_alloc (Below.refl _ w) _) hb⟩
theorem sIdle_is (w : World) (A1 : Option Addr) (n1 c1 : Nat) (A2 : Option Addr) (n2 c2 : Nat) (A3 : Option Addr) (n3 c3 : Nat) (hi : Bool) (tr : List Int) (h : Zs w w.heap.size A2 n2 tr) (hn : n2 ≤ 1100000) :
    Calls Try.prog 32 #[.agg #[.slice A1 n1 c1, .slice A2 n2 c2, .slice A3 n3 c3, .bool hi]] w (RanRes (-1) tr w) := by
  go_enter Try.func32, Try.ntmps32
  go_wp2_with fail
  refine (sRan_is _ A1 n1 c1 A2 n2 c2 A3 n3 c3 hi tr ((h.below (bl_alloc (Below.refl _ w) _)).more (by simp)) hn (-1)).mono ?_
  rintro e w1 ⟨rfl, hb⟩
  go_wp2
  go_ret
  exact ⟨rfl, bl_trans (bl_alloc (Below.refl _ w) _) hb⟩

end Go.Proofs.Ytjondedkgkohfaa
