import Derived.ProofKit
import Derived.OpenShut
import Derived.LaidMore
import Derived.LaidLaws
import Derived.Stop.LaidErr
import Derived.MakeChecks
import Derived.Lib.SmallJoins
import Derived.Test.YtgponahmkjohiabGreatDoorRows
import Derived.Test.YtgponahmkjohiabGreatDoorT1NB
namespace Go.Proofs.YtgponahmkjohiabGreatDoor
open Go.ChangeShapes Go.WideShapes Go.ChangeAt Go.RowKit Go.Joins
theorem own : ownKnob Tryz.prog.godebug = none := by kernel_rfl
theorem laidOut : laidOutB Tryz.prog = true := by kernel_rfl
theorem gEN : Tryz.prog.globalNamed "loop.example/dualmodes/impl.errTooGreat" = some 0 := by kernel_rfl
theorem gNType : (Tryz.prog.globals[0]?).map (·.type) = some 167 := by kernel_rfl
theorem cellsE : Tryz.prog.cellsOf 228 = 1 := by kernel_rfl
theorem cellsS : Tryz.prog.cellsOf 9 = 1 := by kernel_rfl
theorem star : "*" ++ "errors.errorString" = "*errors.errorString" := by decide
theorem rowE (u : TypeId) (h : Tryz.prog.typeName? 3 u = some "*errors.errorString") : u = 203 :=
  typeName_ptr_named (nm := "errors.errorString") (by rw [star]; kernel_rfl) (by kernel_rfl) (by decide) u (by rw [star]; exact h)
/-- What stands in the variable. -/
abbrev errV (a : Addr) : Value := .iface 203 (.pointer (some a))
theorem var_below {P : Program} {W W' : World} {n : String} {cs : Array Value} (h : W.var? P n = some cs) (hb : Below W.heap.size W W') : W'.var? P n = some cs := by
  unfold World.var? at h ⊢
  cases hg : P.globalNamed n with
  | none => simp [hg] at h
  | some g =>
    simp only [hg, Option.bind_some] at h ⊢
    have hlt : g < W.heap.size := by
      rcases Nat.lt_or_ge g W.heap.size with h' | h'
      · exact h'
      · simp [Array.getElem?_eq_none h'] at h
    rw [hb.block g hlt]
    exact h
theorem var_read {H : Type} (enc : TypeId × Value → H) {X : World} {a : Addr} (h : X.var? Tryz.prog "loop.example/dualmodes/impl.errTooGreat" = some #[errV a]) (sp : Nat → Bool) :
    DataW.TrodVars enc Tryz.prog X sp ["loop.example/dualmodes/impl.errTooGreat"] [tok enc (errV a)] [.cell 0 0] :=
  vars_read1 enc gEN gNType Tryz.underlying167 h trivial sp
theorem var_eg {X : World} {a : Addr} (h : X.var? Tryz.prog "loop.example/dualmodes/impl.errTooGreat" = some #[errV a]) : EG X a := by
  have h0 := World.var?_cell gEN h 0
  show X.cell? _ = _
  simpa using h0
/-- What the rows say of the variable. -/
theorem var_of {text : List UInt8} {r : List (String × DataW Unit)} {W : World}
    (h : laidMet Tryz.prog (("loop.example/dualmodes/impl.errTooGreat", .iface "*errors.errorString" (.ptr (.agg [.lit (.string text)]))) :: r) W) :
    ∃ a, W.var? Tryz.prog "loop.example/dualmodes/impl.errTooGreat" = some #[errV a] := by
  obtain ⟨a, s, hv, _, _, _⟩ := laid_sentinel h gEN gNType Tryz.underlying167 rowE Tryz.underlying203 Tryz.underlying228 rfl rfl Tryz.underlying9 cellsE cellsS
  exact ⟨a, hv⟩
end Go.Proofs.YtgponahmkjohiabGreatDoor
