import Derived.Test.YtgponahmkjohiabGreatDoorT2Dr7
import Derived.Test.YtgponahmkjohiabGreatDoorT2NG
namespace Go.Proofs.YtgponahmkjohiabGreatDoor
open Go.RowKit
set_option linter.unusedVariables false
theorem runR_len10 (ts : List Tk) (js : List Jb) (pol tk : Int) (hj : js.length ≤ 61) : (runR ts js pol tk).en.length ≤ 61 ∧ (runR ts js pol tk).tr.length ≤ 200 ∧ (runR ts js pol tk).sw.length ≤ 200 := by
  cases h : okR ts js pol tk
  · rw [runR_no h]; exact ⟨Nat.zero_le _, Nat.zero_le _, Nat.zero_le _⟩
  · rw [runR_ok h]
    have hk := okR_iff.1 h
    have hv := hk.1
    have i := (run_at (p := poOf ts pol) hv tk.toNat).1
    have a := i.enl
    have b := tr_len (p := poOf ts pol) hv tk.toNat
    have c := sw_len i (by omega)
    omega
end Go.Proofs.YtgponahmkjohiabGreatDoor
