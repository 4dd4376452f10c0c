/- dmJobs at equal lists, and what the walks of chapter 6's laws share. -/
import Derived.Test.YthdclaljgimclaaDoorM2
import Derived.Test.YthdclaljgimclaaDoorSDc
import Derived.Test.YthdclaljgimclaaDoorSDw
import Derived.Test.YthdclaljgimclaaDoorM1
import Derived.LoopTactic
namespace Go.Proofs.YthdclaljgimclaaDoor
open Go.RowKit
set_option linter.unusedVariables false

theorem tks_to6 {w1 W : World} {A : Option Addr} {n : Nat} {ts : List Tk} (h : Tks w1 w1.heap.size A n ts) (hb : Below w1.heap.size w1 W) : Tks W W.heap.size A n ts := (h.below hb).more hb.size
theorem jbs_to {w1 W : World} {A : Option Addr} {n : Nat} {js : List Jb} (h : Jbs w1 w1.heap.size A n js) (hb : Below w1.heap.size w1 W) : Jbs W W.heap.size A n js := (h.below hb).more hb.size
theorem zs_to {w1 W : World} {A : Option Addr} {n : Nat} {zs : List Int} (h : Zs w1 w1.heap.size A n zs) (hb : Below w1.heap.size w1 W) : Zs W W.heap.size A n zs := (h.below hb).more hb.size
set_option maxHeartbeats 2000000 in
theorem dmJobs_any (w : World) (A A' : Option Addr) (n c c' : Nat) (js : List Jb) (h : Jbs w w.heap.size A n js) (h' : Jbs w w.heap.size A' n js) (hn : n ≤ 1048576) :
    Calls Tryd.prog 14 #[.slice A n c, .slice A' n c'] w fun e w' => e = .returned (.bool true) ∧ Below w.heap.size w w' := by
  have H := Lib.hid h
  have H' := Lib.hid h'
  have HL := Lib.hid h.len
  clear h h'
  go_enter Tryd.func14, Tryd.ntmps14
  go_wp2
  go_loopw [5] (fun i wr => ∃ k : Nat, k ≤ n ∧ i = .int .i64 k ∧ Below w.heap.size w wr) (fun i _ => n - (intOf i).toNat)
  case atStart => exact ⟨0, Nat.zero_le _, rfl, Below.refl _ _⟩
  case round =>
    obtain ⟨k, hk, rfl, hb⟩ := hrel
    have HB := Lib.hid hb
    clear hb
    by_cases hlt : k < n
    · obtain ⟨j, hj⟩ : ∃ j, js[k]? = some j := ⟨js[k]'(by rw [HL.out]; exact hlt), List.getElem?_eq_getElem _⟩
      obtain ⟨b, o, rfl, hbl, c0, c1, c2⟩ := (H.out.below HB.out).at_ k j hj
      obtain ⟨b', o', rfl, hbl', d0, d1, d2⟩ := (H'.out.below HB.out).at_ k j hj
      obtain ⟨ta, tm, ne⟩ := j
      dsimp only at c0 c1 c2 d0 d1 d2
      clear hj
      have i1 : (0 : Int) ≤ (k : Int) := by omega
      have i2 : (k : Int) < (n : Int) := by omega
      go_wp2
      go_quiet (fail)
      go_wp2
      go_roundw
      case rel => exact ⟨k + 1, by omega, by go_num, bl_drewN HB.out _⟩
      case measure => simp [intOf]; omega
    · obtain rfl : k = n := by omega
      go_wp2
      go_ret
      exact ⟨rfl, HB.out⟩
theorem ownJ_get {w : World} {B c g n : Nat} {js : List Jb} (h : OwnJ w B (.slice (some ⟨g, 0, none⟩) n c) js) {k : Nat} {j : Jb} (hj : js[k]? = some j) :
    B ≤ g ∧ g < w.heap.size ∧ w.cell? ⟨g, k * 3, none⟩ = some (.int .i64 j.ta) ∧ w.cell? ⟨g, k * 3 + 1, none⟩ = some (.int .i64 j.tm) ∧ w.cell? ⟨g, k * 3 + 2, none⟩ = some (.int .i64 j.ne) := by
  obtain ⟨h1, h2⟩ := World.ownsRow.lt h g rfl
  obtain ⟨_, c0, c1, c2⟩ := h.reads.2.get hj
  simp only [Nat.zero_add] at c0 c1 c2
  exact ⟨h1, h2, c0, c1, c2⟩

end Go.Proofs.YthdclaljgimclaaDoor
