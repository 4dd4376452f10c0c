/- The text of a task, as a list of bytes. -/
import Derived.Test.YtnhffadebjibnabDoorNum
import Derived.Test.YtnhffadebjibnabDoorBase
import Derived.Lib.ItoaNum
import Derived.Laws.Concat
namespace Go.Proofs.YtnhffadebjibnabDoor
open Go.RowKit

/-- A list of bytes as a string. -/
abbrev str (l : List UInt8) : Value := .string ⟨l.toArray⟩
/-- A number's decimal numeral. -/
def dec (n : Int) : List UInt8 := Lib.decDigits n.toNat

theorem dec_len {n : Int} (h1 : n < 100) : (dec n).length ≤ 2 := by
  unfold dec
  by_cases h : n.toNat < 10
  · rw [Lib.decDigits_one h]; simp
  · rw [Lib.decDigits_two h (by omega)]; simp
theorem dec_pos (n : Int) : 1 ≤ (dec n).length := by
  unfold dec; rw [Lib.decDigits_length]; exact Lib.nDigits_pos _

def needL (lo hi : Int) (cr : Bool) : List UInt8 := if cr then dec lo ++ 47 :: dec hi else dec lo
def dueL (du ev : Int) : List UInt8 := if du = ev then [] else [32, 98, 121, 32] ++ dec du
def everyL : List UInt8 := [32, 101, 118, 101, 114, 121, 32]
/-- The text of a valid task. -/
def taskL (lo hi du ev : Int) (cr : Bool) : List UInt8 := needL lo hi cr ++ everyL ++ dec ev ++ dueL du ev
/-- The text of a task: of one that is not valid it is empty. -/
def textL (lo hi du ev : Int) (cr : Bool) : List UInt8 := if validB lo hi du ev cr then taskL lo hi du ev cr else []

theorem valid_of {lo hi du ev : Int} {cr : Bool} (h : validB lo hi du ev cr = true) : 1 ≤ lo ∧ lo ≤ hi ∧ hi ≤ du ∧ du ≤ ev ∧ ev ≤ 20 := by
  simp [validB] at h
  exact ⟨h.1, h.2.1, h.2.2.1, h.2.2.2.1, h.2.2.2.2.1⟩

theorem textL_len (lo hi du ev : Int) (cr : Bool) : (textL lo hi du ev cr).length ≤ 30 := by
  unfold textL
  split
  · rename_i hv
    obtain ⟨h1, h2, h3, h4, h5⟩ := valid_of hv
    have a := dec_len (n := lo) (by omega)
    have b := dec_len (n := hi) (by omega)
    have c := dec_len (n := du) (by omega)
    have d := dec_len (n := ev) (by omega)
    unfold taskL needL dueL everyL
    cases cr <;> by_cases e : du = ev <;> simp [e] at * <;> omega
  · simp

theorem textL_ne {lo hi du ev : Int} {cr : Bool} (hv : validB lo hi du ev cr = true) : textL lo hi du ev cr ≠ [] := by
  unfold textL taskL everyL
  rw [if_pos hv]
  simp
theorem textL_nil {lo hi du ev : Int} {cr : Bool} (hv : validB lo hi du ev cr = false) : textL lo hi du ev cr = [] := by
  unfold textL
  rw [hv]
  rfl

end Go.Proofs.YtnhffadebjibnabDoor
