import Derived.Test.YtgponahmkjohiabGreatDoorT2SDa
namespace Go.Proofs.YtgponahmkjohiabGreatDoor
open Go.RowKit
set_option linter.unusedVariables false
theorem Own.setb {w : World} {B : Nat} {v : Value} {ts : List Tk} (h : Own w B v ts) {a : Addr} (ha : a.block < B) (u : Value) : Own (w.setCell a u) B v ts := ownsRow_setCell_below h ha u
theorem OwnJ.setb {w : World} {B : Nat} {v : Value} {ts : List Jb} (h : OwnJ w B v ts) {a : Addr} (ha : a.block < B) (u : Value) : OwnJ (w.setCell a u) B v ts := ownsRow_setCell_below h ha u
end Go.Proofs.YtgponahmkjohiabGreatDoor
