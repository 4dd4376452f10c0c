/- What the walks of the laws over texts of jobs share. -/
import Derived.Test.YthdclaljgimclaaDoorQTx
import Derived.Test.YthdclaljgimclaaDoorSFj
import Derived.Test.YthdclaljgimclaaDoorSDa
import Derived.Test.YthdclaljgimclaaDoorDm
namespace Go.Proofs.YthdclaljgimclaaDoor
open Go.RowKit
set_option linter.unusedVariables false

theorem iFmtJ_to (w : World) (A : Option Addr) (n c : Nat) (js : List Jb) (h : Jbs w w.heap.size A n js) (ht : TG w) (r : List UInt8) (hr : fmtJ js = r) :
    Calls Tryd.prog 11 #[.slice A n c] w (StrRes r w) := hr ▸ iFmtJ_is w A n c js h ht
theorem sFmtJ_to (w : World) (A : Option Addr) (n c : Nat) (js : List Jb) (h : Jbs w w.heap.size A n js) (r : List UInt8) (hr : fmtJ js = r) :
    Calls Tryd.prog 12 #[.slice A n c] w (StrRes r w) := hr ▸ sFmtJ_is w A n c js h
theorem fmt_len (js : List Jb) : (fmtJ js).length ≤ 720 := by
  unfold fmtJ
  split
  · rename_i h
    exact Nat.le_trans (textJs_len (wrsB_iff.1 h).2) (by have := (wrsB_iff.1 h).1; omega)
  · exact Nat.zero_le _
theorem fmt_some {js : List Jb} {r : List UInt8} (h : fmtJ js = r) (hn : r ≠ []) : wrsB js = true ∧ textJs js = r := by
  unfold fmtJ at h
  cases hw : wrsB js
  · rw [hw] at h; exact absurd h.symm hn
  · rw [hw] at h; exact ⟨rfl, h⟩
theorem fmt_none {js : List Jb} (h : fmtJ js = []) : wrsB js = false ∨ js = [] := by
  unfold fmtJ at h
  cases hw : wrsB js
  · exact .inl rfl
  · rw [hw] at h
    right
    cases js with
    | nil => rfl
    | cons a r => exact absurd h (textJs_ne (by simp))
theorem need_fmt {js : List Jb} (h : fmtJ js = []) (z : Int) : needJ js z = 0 := by
  rcases fmt_none h with h | h
  · unfold needJ; rw [h]; rfl
  · rw [h]; unfold needJ; split <;> rfl
theorem byte_at {l : List UInt8} {k : Nat} {b : UInt8} (h : l[k]? = some b) (hk : k < (⟨l.toArray⟩ : ByteArray).size) : (⟨l.toArray⟩ : ByteArray)[k]'hk = b := by
  obtain ⟨h1, h2⟩ := List.getElem?_eq_some_iff.1 h
  rw [← h2]; rfl

end Go.Proofs.YthdclaljgimclaaDoor
