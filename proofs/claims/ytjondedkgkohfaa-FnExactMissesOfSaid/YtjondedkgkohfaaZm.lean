/- What the laws do with lists of numbers: compare, copy, mark. -/
import Derived.Test.YtjondedkgkohfaaZs
import Derived.Deep.QuietTactic
import Derived.BigQuiet
namespace Go.Proofs.Ytjondedkgkohfaa
open Go.RowKit
set_option linter.unusedVariables false

theorem zs_at {w : World} {B : Nat} {A : Option Addr} {n k : Nat} {zs : List Int} (h : Zs w B A n zs) (hk : k < n) : ∃ z, zs[k]? = some z := ⟨zs[k]'(by rw [h.len]; exact hk), List.getElem?_eq_getElem _⟩
theorem OwnZ.put {w : World} {B g n c : Nat} {zs : List Int} (h : OwnZ w B (.slice (some ⟨g, 0, none⟩) n c) zs) (k : Nat) (z : Int) : OwnZ (w.setCell ⟨g, k, none⟩ (.int .i64 z)) B (.slice (some ⟨g, 0, none⟩) n c) (zs.set k z) := by
  unfold OwnZ
  rw [List.length_set, List.map_set]
  refine ⟨by rw [List.length_set]; exact h.1, ?_⟩
  rcases h.2 with ⟨e, h0⟩ | ⟨g', cap, cur, e, hb, hg, h1, h2, h3, h4⟩
  · cases e
  · injection e with e1 e2 e3
    injection e1 with e1
    injection e1 with e1
    subst e1
    refine .inr ⟨g, cap, cur.setIfInBounds k (.int .i64 z), by rw [e2, e3], hb, ?_, h1, h2, by rw [Array.size_setIfInBounds]; exact h3, ?_⟩
    · simp [World.setCell, Array.getElem?_modify, hg]
    · rw [Array.toList_setIfInBounds, ← h4, List.take_set]
theorem OwnZ.frozen {w : World} {B g n c : Nat} {zs : List Int} (h : OwnZ w B (.slice (some ⟨g, 0, none⟩) n c) zs) : ∀ i, w.frozen? ⟨g, i, none⟩ = false := by
  have hn : n = zs.length := by
    rcases h.2 with ⟨e, h0⟩ | ⟨g', cap, cur, e, _⟩
    · cases e
    · injection e
  subst hn
  exact World.ownsRow.frozenAt h
theorem OwnZ.lt {w : World} {B g n c : Nat} {zs : List Int} (h : OwnZ w B (.slice (some ⟨g, 0, none⟩) n c) zs) : B ≤ g ∧ g < w.heap.size := World.ownsRow.lt h g rfl

set_option maxHeartbeats 1000000 in
theorem dmInts_any (w : World) (A A' : Option Addr) (n c c' : Nat) (zs : List Int) (h : Zs w w.heap.size A n zs) (h' : Zs w w.heap.size A' n zs) (hn : n ≤ 1048576) :
    Calls Try.prog 19 #[.slice A n c, .slice A' n c'] w fun e w' => e = .returned (.bool true) ∧ Below w.heap.size w w' := by
  have H := Lib.hid h
  have H' := Lib.hid h'
  clear h h'
  go_enter Try.func19, Try.ntmps19
  go_wp2
  go_loopw [5] (fun i wr => ∃ k : Nat, k ≤ n ∧ i = .int .i64 k ∧ Below w.heap.size w wr) (fun i _ => n - (intOf i).toNat)
  case atStart => exact ⟨0, Nat.zero_le _, rfl, Below.refl _ _⟩
  case round =>
    obtain ⟨k, hk, rfl, hb⟩ := hrel
    have HB := Lib.hid hb
    clear hb
    by_cases hlt : k < n
    · obtain ⟨z, hz⟩ := zs_at H.out hlt
      obtain ⟨b, o, rfl, hbl, c0⟩ := (H.out.below HB.out).at_ k z hz
      obtain ⟨b', o', rfl, hbl', d0⟩ := (H'.out.below HB.out).at_ k z hz
      clear hz
      have i1 : (0 : Int) ≤ (k : Int) := by omega
      have i2 : (k : Int) < (n : Int) := by omega
      go_wp2
      go_quiet (fail)
      go_wp2
      go_roundw
      case rel => exact ⟨k + 1, by omega, by go_num, bl_drewN HB.out _⟩
      case measure => simp [intOf]; omega
    · obtain rfl : k = n := by omega
      go_wp2
      go_ret
      exact ⟨rfl, HB.out⟩

end Go.Proofs.Ytjondedkgkohfaa
