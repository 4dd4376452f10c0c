import Derived.Test.YtgponahmkjohiabGreatDoorZND
namespace Go.Proofs.YtgponahmkjohiabGreatDoor
open Go.RowKit
set_option linter.unusedVariables false
section
variable {ts : List Tk} {js : List Jb} {p : Po} {P : Int} {w : Nat → Int}
/-- When a job is due while needs are low, times the denominator. -/
def kl (ts : List Tk) (js : List Jb) (p : Po) (q : Nat) : Int := keyJ ts p false (jobOf js q)
section fin
variable {t0 a1 d : Int} {x : Nat → Int}
end fin
end
end Go.Proofs.YtgponahmkjohiabGreatDoor
