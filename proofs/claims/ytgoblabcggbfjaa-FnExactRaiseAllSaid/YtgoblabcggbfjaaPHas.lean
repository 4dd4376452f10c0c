/- Contract of the program's hasTask. Nothing that was there is written. -/
import Derived.Test.YtgoblabcggbfjaaMA
import Derived.RegionTactic
import Derived.ChangeAlike
namespace Go.Proofs.Ytgoblabcggbfjaa
open Go.RowKit
set_option linter.unusedVariables false

set_option maxHeartbeats 1000000 in
theorem iHas5_is (w : World) (A : Option Addr) (n c : Nat) (ts : List Tk) (a : Int) (h : Tks w w.heap.size A n ts) (hn : n ≤ 1048576) (b : Bool) (hb : (setB ts && (decide (0 ≤ a) && decide (a < (n : Int)))) = b) :
    Calls Try.prog 79 #[.slice A n c, .int .i64 a] w fun e w' => e = .returned (.bool b) ∧ Below w.heap.size w w' := by
  have H := Lib.hid h
  clear h
  cases hs : setB ts
  · subst hb
    go_enter Try.func79, Try.ntmps79
    go_wp2_with (go_at_call 30; refine (iSetValid_any _ A n c ts H.out hn).mono ?_; rintro e w2 ⟨rfl, hb2⟩)
    go_ret
    exact ⟨by simp [hs], hb2⟩
  rw [hs, Bool.true_and] at hb
  by_cases h0 : 0 ≤ a
  · by_cases h1 : a < (n : Int)
    · rw [decide_eq_true h0, decide_eq_true h1] at hb
      subst hb
      go_enter Try.func79, Try.ntmps79
      go_wp2_with (go_at_call 30; refine (iSetValid_any _ A n c ts H.out hn).mono ?_; rintro e w2 ⟨rfl, hb2⟩)
      go_ret
      exact ⟨by simp [*], hb2⟩
    · rw [decide_eq_true h0, decide_eq_false h1] at hb
      subst hb
      go_enter Try.func79, Try.ntmps79
      go_wp2_with (go_at_call 30; refine (iSetValid_any _ A n c ts H.out hn).mono ?_; rintro e w2 ⟨rfl, hb2⟩)
      go_ret
      exact ⟨by simp [*], hb2⟩
  · rw [decide_eq_false h0] at hb
    subst hb
    go_enter Try.func79, Try.ntmps79
    go_wp2_with (go_at_call 30; refine (iSetValid_any _ A n c ts H.out hn).mono ?_; rintro e w2 ⟨rfl, hb2⟩)
    go_ret
    exact ⟨by simp [*], hb2⟩

end Go.Proofs.Ytgoblabcggbfjaa
