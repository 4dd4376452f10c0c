/-
  No cell of these rows narrows 'for every input' (looked for: loops, veiled, ifaces, maps, wideKeys, modest, calm, conditions, laid).
  DERIVED. THE GIVEN ROWS OF THIS SEAT. 5 by the template 'for every input the law returns true; each argument reads behind the call as it read before'; 0 by the template 'total and deterministic' (their statements: YtbaecbibkmdbiaaTotals.lean).
  GIVEN WITH THE SEED: the statements are not yours to turn. If you find one false, say at which input.
  Laid BY PROGRAM, IN A SANDBOX (cutbox-rows.mjs): the forced cells as the released guide's own fill.sh prints them over the translation 1779cb272fb510d2… (all of the seat's roots in one cut). By AI agents, Wed Nov 11 2026. No macro, syntax, notation, axiom, sorry.
-/
import Derived.Test.YtbaecbibkmdbiaaChecked
import GoSem.Claim
import GoSem.ClaimJoined
import GoSem.ClaimMapViews
import Derived.JoinedTies
import Derived.KernelRfl
namespace Go.Proofs.Ytbaecbibkmdbiaa
/- THE CELL 'sum', in the pinned program and in every row, IS THE sha256 OF THE DUMP (.gsa) THAT YtbaecbibkmdbiaaProg.lean LOADS. Nothing in Lean hashes anything: it is a label: what it is worth is what the hold of that sum in a sandbox is worth. -/
noncomputable def Try.pinned : Pinned := { name := "ytbaecbibkmdbiaa", sum := "1779cb272fb510d27db04b629b0ec1b31831ea69f250402f9768162af0d443e7", checked := Try.checked }
namespace Rows
def none {H : Type} : Left H := { results := [], args := [] }

/-- 'laws.FnHyperOf': WHATEVER THE INPUT: true; the input reads as it did. -/
def fnHyperOfSpec : ChangeSpec := { name := "fnHyperOf", fn := fun _ => fun
  | [d] => { results := [.lit (.bool true)], args := [d] }
  | _ => none }
def fnHyperOfRow : OpenClaim := { program := "ytbaecbibkmdbiaa", sum := "1779cb272fb510d27db04b629b0ec1b31831ea69f250402f9768162af0d443e7", func := "loop.example/dualmodes/laws.FnHyperOf", spec := "fnHyperOf", apart := false }
def FnHyperOfSaid : Prop := fnHyperOfRow.holds Try.pinned (OpenSpec.ofChange fnHyperOfSpec)

/-- ITS FALSE NEIGHBOUR: 'it returns false'. Refute it at one input. -/
def fnHyperOfWrong : ChangeSpec := { name := "fnHyperOf", fn := fun _ => fun
  | [d] => { results := [.lit (.bool false)], args := [d] }
  | _ => none }
def FnHyperOfWrongFalsely : Prop := fnHyperOfRow.holds Try.pinned (OpenSpec.ofChange fnHyperOfWrong)

/-- 'laws.FnHyperLeast': WHATEVER THE INPUT: true; the input reads as it did. -/
def fnHyperLeastSpec : ChangeSpec := { name := "fnHyperLeast", fn := fun _ => fun
  | [d] => { results := [.lit (.bool true)], args := [d] }
  | _ => none }
def fnHyperLeastRow : OpenClaim := { program := "ytbaecbibkmdbiaa", sum := "1779cb272fb510d27db04b629b0ec1b31831ea69f250402f9768162af0d443e7", func := "loop.example/dualmodes/laws.FnHyperLeast", spec := "fnHyperLeast", apart := false }
def FnHyperLeastSaid : Prop := fnHyperLeastRow.holds Try.pinned (OpenSpec.ofChange fnHyperLeastSpec)

/-- ITS FALSE NEIGHBOUR: 'it returns false'. Refute it at one input. -/
def fnHyperLeastWrong : ChangeSpec := { name := "fnHyperLeast", fn := fun _ => fun
  | [d] => { results := [.lit (.bool false)], args := [d] }
  | _ => none }
def FnHyperLeastWrongFalsely : Prop := fnHyperLeastRow.holds Try.pinned (OpenSpec.ofChange fnHyperLeastWrong)

/-- 'laws.FnHyperMore': WHATEVER THE INPUT: true; the input reads as it did. -/
def fnHyperMoreSpec : ChangeSpec := { name := "fnHyperMore", fn := fun _ => fun
  | [d] => { results := [.lit (.bool true)], args := [d] }
  | _ => none }
def fnHyperMoreRow : OpenClaim := { program := "ytbaecbibkmdbiaa", sum := "1779cb272fb510d27db04b629b0ec1b31831ea69f250402f9768162af0d443e7", func := "loop.example/dualmodes/laws.FnHyperMore", spec := "fnHyperMore", apart := false }
def FnHyperMoreSaid : Prop := fnHyperMoreRow.holds Try.pinned (OpenSpec.ofChange fnHyperMoreSpec)

/-- ITS FALSE NEIGHBOUR: 'it returns false'. Refute it at one input. -/
def fnHyperMoreWrong : ChangeSpec := { name := "fnHyperMore", fn := fun _ => fun
  | [d] => { results := [.lit (.bool false)], args := [d] }
  | _ => none }
def FnHyperMoreWrongFalsely : Prop := fnHyperMoreRow.holds Try.pinned (OpenSpec.ofChange fnHyperMoreWrong)

/-- 'laws.FnCriticalHyper': WHATEVER THE INPUT: true; the input reads as it did. -/
def fnCriticalHyperSpec : ChangeSpec := { name := "fnCriticalHyper", fn := fun _ => fun
  | [d] => { results := [.lit (.bool true)], args := [d] }
  | _ => none }
def fnCriticalHyperRow : OpenClaim := { program := "ytbaecbibkmdbiaa", sum := "1779cb272fb510d27db04b629b0ec1b31831ea69f250402f9768162af0d443e7", func := "loop.example/dualmodes/laws.FnCriticalHyper", spec := "fnCriticalHyper", apart := false }
def FnCriticalHyperSaid : Prop := fnCriticalHyperRow.holds Try.pinned (OpenSpec.ofChange fnCriticalHyperSpec)

/-- ITS FALSE NEIGHBOUR: 'it returns false'. Refute it at one input. -/
def fnCriticalHyperWrong : ChangeSpec := { name := "fnCriticalHyper", fn := fun _ => fun
  | [d] => { results := [.lit (.bool false)], args := [d] }
  | _ => none }
def FnCriticalHyperWrongFalsely : Prop := fnCriticalHyperRow.holds Try.pinned (OpenSpec.ofChange fnCriticalHyperWrong)

/-- 'laws.FnExactHyperOf': WHATEVER THE INPUT: true; the input reads as it did. -/
def fnExactHyperOfSpec : ChangeSpec := { name := "fnExactHyperOf", fn := fun _ => fun
  | [d] => { results := [.lit (.bool true)], args := [d] }
  | _ => none }
def fnExactHyperOfRow : OpenClaim := { program := "ytbaecbibkmdbiaa", sum := "1779cb272fb510d27db04b629b0ec1b31831ea69f250402f9768162af0d443e7", func := "loop.example/dualmodes/laws.FnExactHyperOf", spec := "fnExactHyperOf", apart := false }
def FnExactHyperOfSaid : Prop := fnExactHyperOfRow.holds Try.pinned (OpenSpec.ofChange fnExactHyperOfSpec)

/-- ITS FALSE NEIGHBOUR: 'it returns false'. Refute it at one input. -/
def fnExactHyperOfWrong : ChangeSpec := { name := "fnExactHyperOf", fn := fun _ => fun
  | [d] => { results := [.lit (.bool false)], args := [d] }
  | _ => none }
def FnExactHyperOfWrongFalsely : Prop := fnExactHyperOfRow.holds Try.pinned (OpenSpec.ofChange fnExactHyperOfWrong)

/- THE SECOND FORM. 'bulk': how many values and letters a reading holds, each counted each time it is reached (what is shared counts as often as it is met; a slice's spare places count too). A statement '..UptoSaid' is the law's where the arguments, and the package variables that the reading takes, are together of bulk at most 1048576: NARROWER than '..Said'. Prove '..Said' where nothing that the law and all that it calls make is longer than what came in: it says more and counts as full. Else prove '..UptoSaid'. A law counts once. -/
mutual
def uptoBulk {H : Type} : DataW H → Nat
  | .lit (.string bytes) => bytes.length + 1
  | .lit _ => 1
  | .nil => 1
  | .ptr d => uptoBulk d + 1
  | .slice elems spare => uptoBulkAll elems + uptoBulkAll spare + 1
  | .agg parts => uptoBulkAll parts + 1
  | .iface _ d => uptoBulk d + 1
  | .map entries => uptoBulkEntries entries + 1
  | .held _ => 1
def uptoBulkAll {H : Type} : List (DataW H) → Nat
  | [] => 0
  | d :: r => uptoBulk d + uptoBulkAll r
def uptoBulkEntries {H : Type} : List (Lit × DataW H) → Nat
  | [] => 0
  | x :: r => uptoBulkEntry x + uptoBulkEntries r
def uptoBulkEntry {H : Type} : Lit × DataW H → Nat
  | (.string bytes, d) => bytes.length + uptoBulk d + 1
  | (_, d) => uptoBulk d + 1
 end
def uptoSmall : (H : Type) → List (DataW H) → Bool := fun _ ds => decide (uptoBulkAll ds ≤ 1048576)
def OpenSpec.upto (s : _root_.Go.ChangeSpec) : _root_.Go.OpenSpec := { _root_.Go.OpenSpec.ofChange s with cond := some uptoSmall }

/-- 'laws.FnHyperOf', WHERE WHAT IT READS IS OF BULK AT MOST 1048576: true; the input reads as it did. -/
def fnHyperOfUptoRow : OpenClaim := { program := "ytbaecbibkmdbiaa", sum := "1779cb272fb510d27db04b629b0ec1b31831ea69f250402f9768162af0d443e7", func := "loop.example/dualmodes/laws.FnHyperOf", spec := "fnHyperOf", apart := false, narrowed := true }
def FnHyperOfUptoSaid : Prop := fnHyperOfUptoRow.holds Try.pinned (OpenSpec.upto fnHyperOfSpec)

/-- 'laws.FnHyperLeast', WHERE WHAT IT READS IS OF BULK AT MOST 1048576: true; the input reads as it did. -/
def fnHyperLeastUptoRow : OpenClaim := { program := "ytbaecbibkmdbiaa", sum := "1779cb272fb510d27db04b629b0ec1b31831ea69f250402f9768162af0d443e7", func := "loop.example/dualmodes/laws.FnHyperLeast", spec := "fnHyperLeast", apart := false, narrowed := true }
def FnHyperLeastUptoSaid : Prop := fnHyperLeastUptoRow.holds Try.pinned (OpenSpec.upto fnHyperLeastSpec)

/-- 'laws.FnHyperMore', WHERE WHAT IT READS IS OF BULK AT MOST 1048576: true; the input reads as it did. -/
def fnHyperMoreUptoRow : OpenClaim := { program := "ytbaecbibkmdbiaa", sum := "1779cb272fb510d27db04b629b0ec1b31831ea69f250402f9768162af0d443e7", func := "loop.example/dualmodes/laws.FnHyperMore", spec := "fnHyperMore", apart := false, narrowed := true }
def FnHyperMoreUptoSaid : Prop := fnHyperMoreUptoRow.holds Try.pinned (OpenSpec.upto fnHyperMoreSpec)

/-- 'laws.FnCriticalHyper', WHERE WHAT IT READS IS OF BULK AT MOST 1048576: true; the input reads as it did. -/
def fnCriticalHyperUptoRow : OpenClaim := { program := "ytbaecbibkmdbiaa", sum := "1779cb272fb510d27db04b629b0ec1b31831ea69f250402f9768162af0d443e7", func := "loop.example/dualmodes/laws.FnCriticalHyper", spec := "fnCriticalHyper", apart := false, narrowed := true }
def FnCriticalHyperUptoSaid : Prop := fnCriticalHyperUptoRow.holds Try.pinned (OpenSpec.upto fnCriticalHyperSpec)

/-- 'laws.FnExactHyperOf', WHERE WHAT IT READS IS OF BULK AT MOST 1048576: true; the input reads as it did. -/
def fnExactHyperOfUptoRow : OpenClaim := { program := "ytbaecbibkmdbiaa", sum := "1779cb272fb510d27db04b629b0ec1b31831ea69f250402f9768162af0d443e7", func := "loop.example/dualmodes/laws.FnExactHyperOf", spec := "fnExactHyperOf", apart := false, narrowed := true }
def FnExactHyperOfUptoSaid : Prop := fnExactHyperOfUptoRow.holds Try.pinned (OpenSpec.upto fnExactHyperOfSpec)

end Rows
end Go.Proofs.Ytbaecbibkmdbiaa
