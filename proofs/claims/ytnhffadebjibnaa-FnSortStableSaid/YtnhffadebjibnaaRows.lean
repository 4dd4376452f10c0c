/-
  No cell of these rows narrows 'for every input' (looked for: loops, veiled, ifaces, maps, wideKeys, modest, calm, conditions, laid).
  DERIVED. THE GIVEN ROWS OF THIS SEAT. 16 by the template 'for every input the law returns true; each argument reads behind the call as it read before'; 0 by the template 'total and deterministic' (their statements: YtnhffadebjibnaaTotals.lean).
  GIVEN WITH THE SEED: the statements are not yours to turn. If you find one false, say at which input.
  Laid BY PROGRAM, IN A SANDBOX (cutbox-rows.mjs): the forced cells as the released guide's own fill.sh prints them over the translation d6d15e99620cb286… (all of the seat's roots in one cut). By AI agents, Wed Nov 11 2026. No macro, syntax, notation, axiom, sorry.
-/
import Derived.Test.YtnhffadebjibnaaChecked
import GoSem.Claim
import GoSem.ClaimJoined
import GoSem.ClaimMapViews
import Derived.JoinedTies
import Derived.KernelRfl
namespace Go.Proofs.Ytnhffadebjibnaa
/- THE CELL 'sum', in the pinned program and in every row, IS THE sha256 OF THE DUMP (.gsa) THAT YtnhffadebjibnaaProg.lean LOADS. Nothing in Lean hashes anything: it is a label: what it is worth is what the hold of that sum in a sandbox is worth. -/
noncomputable def Try.pinned : Pinned := { name := "ytnhffadebjibnaa", sum := "d6d15e99620cb286606f8c955c107bb094f64b19835baffcb4d268841c97e6d9", checked := Try.checked }
namespace Rows
def none {H : Type} : Left H := { results := [], args := [] }

/-- 'laws.FnSortDue': WHATEVER THE INPUT: true; the input reads as it did. -/
def fnSortDueSpec : ChangeSpec := { name := "fnSortDue", fn := fun _ => fun
  | [d] => { results := [.lit (.bool true)], args := [d] }
  | _ => none }
def fnSortDueRow : OpenClaim := { program := "ytnhffadebjibnaa", sum := "d6d15e99620cb286606f8c955c107bb094f64b19835baffcb4d268841c97e6d9", func := "loop.example/dualmodes/laws.FnSortDue", spec := "fnSortDue", inPlace := ["slices.overlaps[loop.example/dualmodes/impl.Task]"], unfollowed := true, recurses := true, apart := false }
def FnSortDueSaid : Prop := fnSortDueRow.holds Try.pinned (OpenSpec.ofChange fnSortDueSpec)

/-- ITS FALSE NEIGHBOUR: 'it returns false'. Refute it at one input. -/
def fnSortDueWrong : ChangeSpec := { name := "fnSortDue", fn := fun _ => fun
  | [d] => { results := [.lit (.bool false)], args := [d] }
  | _ => none }
def FnSortDueWrongFalsely : Prop := fnSortDueRow.holds Try.pinned (OpenSpec.ofChange fnSortDueWrong)

/-- 'laws.FnCriticalOf': WHATEVER THE INPUT: true; the input reads as it did. -/
def fnCriticalOfSpec : ChangeSpec := { name := "fnCriticalOf", fn := fun _ => fun
  | [d] => { results := [.lit (.bool true)], args := [d] }
  | _ => none }
def fnCriticalOfRow : OpenClaim := { program := "ytnhffadebjibnaa", sum := "d6d15e99620cb286606f8c955c107bb094f64b19835baffcb4d268841c97e6d9", func := "loop.example/dualmodes/laws.FnCriticalOf", spec := "fnCriticalOf", apart := false }
def FnCriticalOfSaid : Prop := fnCriticalOfRow.holds Try.pinned (OpenSpec.ofChange fnCriticalOfSpec)

/-- ITS FALSE NEIGHBOUR: 'it returns false'. Refute it at one input. -/
def fnCriticalOfWrong : ChangeSpec := { name := "fnCriticalOf", fn := fun _ => fun
  | [d] => { results := [.lit (.bool false)], args := [d] }
  | _ => none }
def FnCriticalOfWrongFalsely : Prop := fnCriticalOfRow.holds Try.pinned (OpenSpec.ofChange fnCriticalOfWrong)

/-- 'laws.FnHyperOf': WHATEVER THE INPUT: true; the input reads as it did. -/
def fnHyperOfSpec : ChangeSpec := { name := "fnHyperOf", fn := fun _ => fun
  | [d] => { results := [.lit (.bool true)], args := [d] }
  | _ => none }
def fnHyperOfRow : OpenClaim := { program := "ytnhffadebjibnaa", sum := "d6d15e99620cb286606f8c955c107bb094f64b19835baffcb4d268841c97e6d9", func := "loop.example/dualmodes/laws.FnHyperOf", spec := "fnHyperOf", apart := false }
def FnHyperOfSaid : Prop := fnHyperOfRow.holds Try.pinned (OpenSpec.ofChange fnHyperOfSpec)

/-- ITS FALSE NEIGHBOUR: 'it returns false'. Refute it at one input. -/
def fnHyperOfWrong : ChangeSpec := { name := "fnHyperOf", fn := fun _ => fun
  | [d] => { results := [.lit (.bool false)], args := [d] }
  | _ => none }
def FnHyperOfWrongFalsely : Prop := fnHyperOfRow.holds Try.pinned (OpenSpec.ofChange fnHyperOfWrong)

/-- 'laws.FnTaskMore': WHATEVER THE INPUT: true; the input reads as it did. -/
def fnTaskMoreSpec : ChangeSpec := { name := "fnTaskMore", fn := fun _ => fun
  | [d] => { results := [.lit (.bool true)], args := [d] }
  | _ => none }
def fnTaskMoreRow : OpenClaim := { program := "ytnhffadebjibnaa", sum := "d6d15e99620cb286606f8c955c107bb094f64b19835baffcb4d268841c97e6d9", func := "loop.example/dualmodes/laws.FnTaskMore", spec := "fnTaskMore", apart := false }
def FnTaskMoreSaid : Prop := fnTaskMoreRow.holds Try.pinned (OpenSpec.ofChange fnTaskMoreSpec)

/-- ITS FALSE NEIGHBOUR: 'it returns false'. Refute it at one input. -/
def fnTaskMoreWrong : ChangeSpec := { name := "fnTaskMore", fn := fun _ => fun
  | [d] => { results := [.lit (.bool false)], args := [d] }
  | _ => none }
def FnTaskMoreWrongFalsely : Prop := fnTaskMoreRow.holds Try.pinned (OpenSpec.ofChange fnTaskMoreWrong)

/-- 'laws.FnTaskCritical': WHATEVER THE INPUT: true; the input reads as it did. -/
def fnTaskCriticalSpec : ChangeSpec := { name := "fnTaskCritical", fn := fun _ => fun
  | [d] => { results := [.lit (.bool true)], args := [d] }
  | _ => none }
def fnTaskCriticalRow : OpenClaim := { program := "ytnhffadebjibnaa", sum := "d6d15e99620cb286606f8c955c107bb094f64b19835baffcb4d268841c97e6d9", func := "loop.example/dualmodes/laws.FnTaskCritical", spec := "fnTaskCritical", apart := false }
def FnTaskCriticalSaid : Prop := fnTaskCriticalRow.holds Try.pinned (OpenSpec.ofChange fnTaskCriticalSpec)

/-- ITS FALSE NEIGHBOUR: 'it returns false'. Refute it at one input. -/
def fnTaskCriticalWrong : ChangeSpec := { name := "fnTaskCritical", fn := fun _ => fun
  | [d] => { results := [.lit (.bool false)], args := [d] }
  | _ => none }
def FnTaskCriticalWrongFalsely : Prop := fnTaskCriticalRow.holds Try.pinned (OpenSpec.ofChange fnTaskCriticalWrong)

/-- 'laws.FnSetMany': WHATEVER THE INPUT: true; the input reads as it did. -/
def fnSetManySpec : ChangeSpec := { name := "fnSetMany", fn := fun _ => fun
  | [d] => { results := [.lit (.bool true)], args := [d] }
  | _ => none }
def fnSetManyRow : OpenClaim := { program := "ytnhffadebjibnaa", sum := "d6d15e99620cb286606f8c955c107bb094f64b19835baffcb4d268841c97e6d9", func := "loop.example/dualmodes/laws.FnSetMany", spec := "fnSetMany", apart := false }
def FnSetManySaid : Prop := fnSetManyRow.holds Try.pinned (OpenSpec.ofChange fnSetManySpec)

/-- ITS FALSE NEIGHBOUR: 'it returns false'. Refute it at one input. -/
def fnSetManyWrong : ChangeSpec := { name := "fnSetMany", fn := fun _ => fun
  | [d] => { results := [.lit (.bool false)], args := [d] }
  | _ => none }
def FnSetManyWrongFalsely : Prop := fnSetManyRow.holds Try.pinned (OpenSpec.ofChange fnSetManyWrong)

/-- 'laws.FnSortStable': WHATEVER THE INPUT: true; the input reads as it did. -/
def fnSortStableSpec : ChangeSpec := { name := "fnSortStable", fn := fun _ => fun
  | [d] => { results := [.lit (.bool true)], args := [d] }
  | _ => none }
def fnSortStableRow : OpenClaim := { program := "ytnhffadebjibnaa", sum := "d6d15e99620cb286606f8c955c107bb094f64b19835baffcb4d268841c97e6d9", func := "loop.example/dualmodes/laws.FnSortStable", spec := "fnSortStable", inPlace := ["slices.overlaps[loop.example/dualmodes/impl.Task]"], unfollowed := true, recurses := true, apart := false }
def FnSortStableSaid : Prop := fnSortStableRow.holds Try.pinned (OpenSpec.ofChange fnSortStableSpec)

/-- ITS FALSE NEIGHBOUR: 'it returns false'. Refute it at one input. -/
def fnSortStableWrong : ChangeSpec := { name := "fnSortStable", fn := fun _ => fun
  | [d] => { results := [.lit (.bool false)], args := [d] }
  | _ => none }
def FnSortStableWrongFalsely : Prop := fnSortStableRow.holds Try.pinned (OpenSpec.ofChange fnSortStableWrong)

/-- 'laws.FnCriticalSort': WHATEVER THE INPUT: true; the input reads as it did. -/
def fnCriticalSortSpec : ChangeSpec := { name := "fnCriticalSort", fn := fun _ => fun
  | [d] => { results := [.lit (.bool true)], args := [d] }
  | _ => none }
def fnCriticalSortRow : OpenClaim := { program := "ytnhffadebjibnaa", sum := "d6d15e99620cb286606f8c955c107bb094f64b19835baffcb4d268841c97e6d9", func := "loop.example/dualmodes/laws.FnCriticalSort", spec := "fnCriticalSort", inPlace := ["slices.overlaps[loop.example/dualmodes/impl.Task]"], unfollowed := true, recurses := true, apart := false }
def FnCriticalSortSaid : Prop := fnCriticalSortRow.holds Try.pinned (OpenSpec.ofChange fnCriticalSortSpec)

/-- ITS FALSE NEIGHBOUR: 'it returns false'. Refute it at one input. -/
def fnCriticalSortWrong : ChangeSpec := { name := "fnCriticalSort", fn := fun _ => fun
  | [d] => { results := [.lit (.bool false)], args := [d] }
  | _ => none }
def FnCriticalSortWrongFalsely : Prop := fnCriticalSortRow.holds Try.pinned (OpenSpec.ofChange fnCriticalSortWrong)

/-- 'laws.FnHyperLeast': WHATEVER THE INPUT: true; the input reads as it did. -/
def fnHyperLeastSpec : ChangeSpec := { name := "fnHyperLeast", fn := fun _ => fun
  | [d] => { results := [.lit (.bool true)], args := [d] }
  | _ => none }
def fnHyperLeastRow : OpenClaim := { program := "ytnhffadebjibnaa", sum := "d6d15e99620cb286606f8c955c107bb094f64b19835baffcb4d268841c97e6d9", func := "loop.example/dualmodes/laws.FnHyperLeast", spec := "fnHyperLeast", apart := false }
def FnHyperLeastSaid : Prop := fnHyperLeastRow.holds Try.pinned (OpenSpec.ofChange fnHyperLeastSpec)

/-- ITS FALSE NEIGHBOUR: 'it returns false'. Refute it at one input. -/
def fnHyperLeastWrong : ChangeSpec := { name := "fnHyperLeast", fn := fun _ => fun
  | [d] => { results := [.lit (.bool false)], args := [d] }
  | _ => none }
def FnHyperLeastWrongFalsely : Prop := fnHyperLeastRow.holds Try.pinned (OpenSpec.ofChange fnHyperLeastWrong)

/-- 'laws.FnHyperMore': WHATEVER THE INPUT: true; the input reads as it did. -/
def fnHyperMoreSpec : ChangeSpec := { name := "fnHyperMore", fn := fun _ => fun
  | [d] => { results := [.lit (.bool true)], args := [d] }
  | _ => none }
def fnHyperMoreRow : OpenClaim := { program := "ytnhffadebjibnaa", sum := "d6d15e99620cb286606f8c955c107bb094f64b19835baffcb4d268841c97e6d9", func := "loop.example/dualmodes/laws.FnHyperMore", spec := "fnHyperMore", apart := false }
def FnHyperMoreSaid : Prop := fnHyperMoreRow.holds Try.pinned (OpenSpec.ofChange fnHyperMoreSpec)

/-- ITS FALSE NEIGHBOUR: 'it returns false'. Refute it at one input. -/
def fnHyperMoreWrong : ChangeSpec := { name := "fnHyperMore", fn := fun _ => fun
  | [d] => { results := [.lit (.bool false)], args := [d] }
  | _ => none }
def FnHyperMoreWrongFalsely : Prop := fnHyperMoreRow.holds Try.pinned (OpenSpec.ofChange fnHyperMoreWrong)

/-- 'laws.FnCriticalHyper': WHATEVER THE INPUT: true; the input reads as it did. -/
def fnCriticalHyperSpec : ChangeSpec := { name := "fnCriticalHyper", fn := fun _ => fun
  | [d] => { results := [.lit (.bool true)], args := [d] }
  | _ => none }
def fnCriticalHyperRow : OpenClaim := { program := "ytnhffadebjibnaa", sum := "d6d15e99620cb286606f8c955c107bb094f64b19835baffcb4d268841c97e6d9", func := "loop.example/dualmodes/laws.FnCriticalHyper", spec := "fnCriticalHyper", apart := false }
def FnCriticalHyperSaid : Prop := fnCriticalHyperRow.holds Try.pinned (OpenSpec.ofChange fnCriticalHyperSpec)

/-- ITS FALSE NEIGHBOUR: 'it returns false'. Refute it at one input. -/
def fnCriticalHyperWrong : ChangeSpec := { name := "fnCriticalHyper", fn := fun _ => fun
  | [d] => { results := [.lit (.bool false)], args := [d] }
  | _ => none }
def FnCriticalHyperWrongFalsely : Prop := fnCriticalHyperRow.holds Try.pinned (OpenSpec.ofChange fnCriticalHyperWrong)

/-- 'laws.FnExactTaskValid': WHATEVER THE INPUT: true; the input reads as it did. -/
def fnExactTaskValidSpec : ChangeSpec := { name := "fnExactTaskValid", fn := fun _ => fun
  | [d] => { results := [.lit (.bool true)], args := [d] }
  | _ => none }
def fnExactTaskValidRow : OpenClaim := { program := "ytnhffadebjibnaa", sum := "d6d15e99620cb286606f8c955c107bb094f64b19835baffcb4d268841c97e6d9", func := "loop.example/dualmodes/laws.FnExactTaskValid", spec := "fnExactTaskValid", apart := false }
def FnExactTaskValidSaid : Prop := fnExactTaskValidRow.holds Try.pinned (OpenSpec.ofChange fnExactTaskValidSpec)

/-- ITS FALSE NEIGHBOUR: 'it returns false'. Refute it at one input. -/
def fnExactTaskValidWrong : ChangeSpec := { name := "fnExactTaskValid", fn := fun _ => fun
  | [d] => { results := [.lit (.bool false)], args := [d] }
  | _ => none }
def FnExactTaskValidWrongFalsely : Prop := fnExactTaskValidRow.holds Try.pinned (OpenSpec.ofChange fnExactTaskValidWrong)

/-- 'laws.FnExactSetValid': WHATEVER THE INPUT: true; the input reads as it did. -/
def fnExactSetValidSpec : ChangeSpec := { name := "fnExactSetValid", fn := fun _ => fun
  | [d] => { results := [.lit (.bool true)], args := [d] }
  | _ => none }
def fnExactSetValidRow : OpenClaim := { program := "ytnhffadebjibnaa", sum := "d6d15e99620cb286606f8c955c107bb094f64b19835baffcb4d268841c97e6d9", func := "loop.example/dualmodes/laws.FnExactSetValid", spec := "fnExactSetValid", apart := false }
def FnExactSetValidSaid : Prop := fnExactSetValidRow.holds Try.pinned (OpenSpec.ofChange fnExactSetValidSpec)

/-- ITS FALSE NEIGHBOUR: 'it returns false'. Refute it at one input. -/
def fnExactSetValidWrong : ChangeSpec := { name := "fnExactSetValid", fn := fun _ => fun
  | [d] => { results := [.lit (.bool false)], args := [d] }
  | _ => none }
def FnExactSetValidWrongFalsely : Prop := fnExactSetValidRow.holds Try.pinned (OpenSpec.ofChange fnExactSetValidWrong)

/-- 'laws.FnExactSortDue': WHATEVER THE INPUT: true; the input reads as it did. -/
def fnExactSortDueSpec : ChangeSpec := { name := "fnExactSortDue", fn := fun _ => fun
  | [d] => { results := [.lit (.bool true)], args := [d] }
  | _ => none }
def fnExactSortDueRow : OpenClaim := { program := "ytnhffadebjibnaa", sum := "d6d15e99620cb286606f8c955c107bb094f64b19835baffcb4d268841c97e6d9", func := "loop.example/dualmodes/laws.FnExactSortDue", spec := "fnExactSortDue", inPlace := ["slices.overlaps[loop.example/dualmodes/impl.Task]"], unfollowed := true, recurses := true, apart := false }
def FnExactSortDueSaid : Prop := fnExactSortDueRow.holds Try.pinned (OpenSpec.ofChange fnExactSortDueSpec)

/-- ITS FALSE NEIGHBOUR: 'it returns false'. Refute it at one input. -/
def fnExactSortDueWrong : ChangeSpec := { name := "fnExactSortDue", fn := fun _ => fun
  | [d] => { results := [.lit (.bool false)], args := [d] }
  | _ => none }
def FnExactSortDueWrongFalsely : Prop := fnExactSortDueRow.holds Try.pinned (OpenSpec.ofChange fnExactSortDueWrong)

/-- 'laws.FnExactCriticalOf': WHATEVER THE INPUT: true; the input reads as it did. -/
def fnExactCriticalOfSpec : ChangeSpec := { name := "fnExactCriticalOf", fn := fun _ => fun
  | [d] => { results := [.lit (.bool true)], args := [d] }
  | _ => none }
def fnExactCriticalOfRow : OpenClaim := { program := "ytnhffadebjibnaa", sum := "d6d15e99620cb286606f8c955c107bb094f64b19835baffcb4d268841c97e6d9", func := "loop.example/dualmodes/laws.FnExactCriticalOf", spec := "fnExactCriticalOf", apart := false }
def FnExactCriticalOfSaid : Prop := fnExactCriticalOfRow.holds Try.pinned (OpenSpec.ofChange fnExactCriticalOfSpec)

/-- ITS FALSE NEIGHBOUR: 'it returns false'. Refute it at one input. -/
def fnExactCriticalOfWrong : ChangeSpec := { name := "fnExactCriticalOf", fn := fun _ => fun
  | [d] => { results := [.lit (.bool false)], args := [d] }
  | _ => none }
def FnExactCriticalOfWrongFalsely : Prop := fnExactCriticalOfRow.holds Try.pinned (OpenSpec.ofChange fnExactCriticalOfWrong)

/-- 'laws.FnExactHyperOf': WHATEVER THE INPUT: true; the input reads as it did. -/
def fnExactHyperOfSpec : ChangeSpec := { name := "fnExactHyperOf", fn := fun _ => fun
  | [d] => { results := [.lit (.bool true)], args := [d] }
  | _ => none }
def fnExactHyperOfRow : OpenClaim := { program := "ytnhffadebjibnaa", sum := "d6d15e99620cb286606f8c955c107bb094f64b19835baffcb4d268841c97e6d9", func := "loop.example/dualmodes/laws.FnExactHyperOf", spec := "fnExactHyperOf", apart := false }
def FnExactHyperOfSaid : Prop := fnExactHyperOfRow.holds Try.pinned (OpenSpec.ofChange fnExactHyperOfSpec)

/-- ITS FALSE NEIGHBOUR: 'it returns false'. Refute it at one input. -/
def fnExactHyperOfWrong : ChangeSpec := { name := "fnExactHyperOf", fn := fun _ => fun
  | [d] => { results := [.lit (.bool false)], args := [d] }
  | _ => none }
def FnExactHyperOfWrongFalsely : Prop := fnExactHyperOfRow.holds Try.pinned (OpenSpec.ofChange fnExactHyperOfWrong)

/- THE SECOND FORM. 'bulk': how many values and letters a reading holds, each counted each time it is reached (what is shared counts as often as it is met; a slice's spare places count too). A statement '..UptoSaid' is the law's where the arguments, and the package variables that the reading takes, are together of bulk at most 1048576: NARROWER than '..Said'. Prove '..Said' where nothing that the law and all that it calls make is longer than what came in: it says more and counts as full. Else prove '..UptoSaid'. A law counts once. -/
mutual
def uptoBulk {H : Type} : DataW H → Nat
  | .lit (.string bytes) => bytes.length + 1
  | .lit _ => 1
  | .nil => 1
  | .ptr d => uptoBulk d + 1
  | .slice elems spare => uptoBulkAll elems + uptoBulkAll spare + 1
  | .agg parts => uptoBulkAll parts + 1
  | .iface _ d => uptoBulk d + 1
  | .map entries => uptoBulkEntries entries + 1
  | .held _ => 1
def uptoBulkAll {H : Type} : List (DataW H) → Nat
  | [] => 0
  | d :: r => uptoBulk d + uptoBulkAll r
def uptoBulkEntries {H : Type} : List (Lit × DataW H) → Nat
  | [] => 0
  | x :: r => uptoBulkEntry x + uptoBulkEntries r
def uptoBulkEntry {H : Type} : Lit × DataW H → Nat
  | (.string bytes, d) => bytes.length + uptoBulk d + 1
  | (_, d) => uptoBulk d + 1
 end
def uptoSmall : (H : Type) → List (DataW H) → Bool := fun _ ds => decide (uptoBulkAll ds ≤ 1048576)
def OpenSpec.upto (s : _root_.Go.ChangeSpec) : _root_.Go.OpenSpec := { _root_.Go.OpenSpec.ofChange s with cond := some uptoSmall }

/-- 'laws.FnSortDue', WHERE WHAT IT READS IS OF BULK AT MOST 1048576: true; the input reads as it did. -/
def fnSortDueUptoRow : OpenClaim := { program := "ytnhffadebjibnaa", sum := "d6d15e99620cb286606f8c955c107bb094f64b19835baffcb4d268841c97e6d9", func := "loop.example/dualmodes/laws.FnSortDue", spec := "fnSortDue", inPlace := ["slices.overlaps[loop.example/dualmodes/impl.Task]"], unfollowed := true, recurses := true, apart := false, narrowed := true }
def FnSortDueUptoSaid : Prop := fnSortDueUptoRow.holds Try.pinned (OpenSpec.upto fnSortDueSpec)

/-- 'laws.FnCriticalOf', WHERE WHAT IT READS IS OF BULK AT MOST 1048576: true; the input reads as it did. -/
def fnCriticalOfUptoRow : OpenClaim := { program := "ytnhffadebjibnaa", sum := "d6d15e99620cb286606f8c955c107bb094f64b19835baffcb4d268841c97e6d9", func := "loop.example/dualmodes/laws.FnCriticalOf", spec := "fnCriticalOf", apart := false, narrowed := true }
def FnCriticalOfUptoSaid : Prop := fnCriticalOfUptoRow.holds Try.pinned (OpenSpec.upto fnCriticalOfSpec)

/-- 'laws.FnHyperOf', WHERE WHAT IT READS IS OF BULK AT MOST 1048576: true; the input reads as it did. -/
def fnHyperOfUptoRow : OpenClaim := { program := "ytnhffadebjibnaa", sum := "d6d15e99620cb286606f8c955c107bb094f64b19835baffcb4d268841c97e6d9", func := "loop.example/dualmodes/laws.FnHyperOf", spec := "fnHyperOf", apart := false, narrowed := true }
def FnHyperOfUptoSaid : Prop := fnHyperOfUptoRow.holds Try.pinned (OpenSpec.upto fnHyperOfSpec)

/-- 'laws.FnTaskMore', WHERE WHAT IT READS IS OF BULK AT MOST 1048576: true; the input reads as it did. -/
def fnTaskMoreUptoRow : OpenClaim := { program := "ytnhffadebjibnaa", sum := "d6d15e99620cb286606f8c955c107bb094f64b19835baffcb4d268841c97e6d9", func := "loop.example/dualmodes/laws.FnTaskMore", spec := "fnTaskMore", apart := false, narrowed := true }
def FnTaskMoreUptoSaid : Prop := fnTaskMoreUptoRow.holds Try.pinned (OpenSpec.upto fnTaskMoreSpec)

/-- 'laws.FnTaskCritical', WHERE WHAT IT READS IS OF BULK AT MOST 1048576: true; the input reads as it did. -/
def fnTaskCriticalUptoRow : OpenClaim := { program := "ytnhffadebjibnaa", sum := "d6d15e99620cb286606f8c955c107bb094f64b19835baffcb4d268841c97e6d9", func := "loop.example/dualmodes/laws.FnTaskCritical", spec := "fnTaskCritical", apart := false, narrowed := true }
def FnTaskCriticalUptoSaid : Prop := fnTaskCriticalUptoRow.holds Try.pinned (OpenSpec.upto fnTaskCriticalSpec)

/-- 'laws.FnSetMany', WHERE WHAT IT READS IS OF BULK AT MOST 1048576: true; the input reads as it did. -/
def fnSetManyUptoRow : OpenClaim := { program := "ytnhffadebjibnaa", sum := "d6d15e99620cb286606f8c955c107bb094f64b19835baffcb4d268841c97e6d9", func := "loop.example/dualmodes/laws.FnSetMany", spec := "fnSetMany", apart := false, narrowed := true }
def FnSetManyUptoSaid : Prop := fnSetManyUptoRow.holds Try.pinned (OpenSpec.upto fnSetManySpec)

/-- 'laws.FnSortStable', WHERE WHAT IT READS IS OF BULK AT MOST 1048576: true; the input reads as it did. -/
def fnSortStableUptoRow : OpenClaim := { program := "ytnhffadebjibnaa", sum := "d6d15e99620cb286606f8c955c107bb094f64b19835baffcb4d268841c97e6d9", func := "loop.example/dualmodes/laws.FnSortStable", spec := "fnSortStable", inPlace := ["slices.overlaps[loop.example/dualmodes/impl.Task]"], unfollowed := true, recurses := true, apart := false, narrowed := true }
def FnSortStableUptoSaid : Prop := fnSortStableUptoRow.holds Try.pinned (OpenSpec.upto fnSortStableSpec)

/-- 'laws.FnCriticalSort', WHERE WHAT IT READS IS OF BULK AT MOST 1048576: true; the input reads as it did. -/
def fnCriticalSortUptoRow : OpenClaim := { program := "ytnhffadebjibnaa", sum := "d6d15e99620cb286606f8c955c107bb094f64b19835baffcb4d268841c97e6d9", func := "loop.example/dualmodes/laws.FnCriticalSort", spec := "fnCriticalSort", inPlace := ["slices.overlaps[loop.example/dualmodes/impl.Task]"], unfollowed := true, recurses := true, apart := false, narrowed := true }
def FnCriticalSortUptoSaid : Prop := fnCriticalSortUptoRow.holds Try.pinned (OpenSpec.upto fnCriticalSortSpec)

/-- 'laws.FnHyperLeast', WHERE WHAT IT READS IS OF BULK AT MOST 1048576: true; the input reads as it did. -/
def fnHyperLeastUptoRow : OpenClaim := { program := "ytnhffadebjibnaa", sum := "d6d15e99620cb286606f8c955c107bb094f64b19835baffcb4d268841c97e6d9", func := "loop.example/dualmodes/laws.FnHyperLeast", spec := "fnHyperLeast", apart := false, narrowed := true }
def FnHyperLeastUptoSaid : Prop := fnHyperLeastUptoRow.holds Try.pinned (OpenSpec.upto fnHyperLeastSpec)

/-- 'laws.FnHyperMore', WHERE WHAT IT READS IS OF BULK AT MOST 1048576: true; the input reads as it did. -/
def fnHyperMoreUptoRow : OpenClaim := { program := "ytnhffadebjibnaa", sum := "d6d15e99620cb286606f8c955c107bb094f64b19835baffcb4d268841c97e6d9", func := "loop.example/dualmodes/laws.FnHyperMore", spec := "fnHyperMore", apart := false, narrowed := true }
def FnHyperMoreUptoSaid : Prop := fnHyperMoreUptoRow.holds Try.pinned (OpenSpec.upto fnHyperMoreSpec)

/-- 'laws.FnCriticalHyper', WHERE WHAT IT READS IS OF BULK AT MOST 1048576: true; the input reads as it did. -/
def fnCriticalHyperUptoRow : OpenClaim := { program := "ytnhffadebjibnaa", sum := "d6d15e99620cb286606f8c955c107bb094f64b19835baffcb4d268841c97e6d9", func := "loop.example/dualmodes/laws.FnCriticalHyper", spec := "fnCriticalHyper", apart := false, narrowed := true }
def FnCriticalHyperUptoSaid : Prop := fnCriticalHyperUptoRow.holds Try.pinned (OpenSpec.upto fnCriticalHyperSpec)

/-- 'laws.FnExactTaskValid', WHERE WHAT IT READS IS OF BULK AT MOST 1048576: true; the input reads as it did. -/
def fnExactTaskValidUptoRow : OpenClaim := { program := "ytnhffadebjibnaa", sum := "d6d15e99620cb286606f8c955c107bb094f64b19835baffcb4d268841c97e6d9", func := "loop.example/dualmodes/laws.FnExactTaskValid", spec := "fnExactTaskValid", apart := false, narrowed := true }
def FnExactTaskValidUptoSaid : Prop := fnExactTaskValidUptoRow.holds Try.pinned (OpenSpec.upto fnExactTaskValidSpec)

/-- 'laws.FnExactSetValid', WHERE WHAT IT READS IS OF BULK AT MOST 1048576: true; the input reads as it did. -/
def fnExactSetValidUptoRow : OpenClaim := { program := "ytnhffadebjibnaa", sum := "d6d15e99620cb286606f8c955c107bb094f64b19835baffcb4d268841c97e6d9", func := "loop.example/dualmodes/laws.FnExactSetValid", spec := "fnExactSetValid", apart := false, narrowed := true }
def FnExactSetValidUptoSaid : Prop := fnExactSetValidUptoRow.holds Try.pinned (OpenSpec.upto fnExactSetValidSpec)

/-- 'laws.FnExactSortDue', WHERE WHAT IT READS IS OF BULK AT MOST 1048576: true; the input reads as it did. -/
def fnExactSortDueUptoRow : OpenClaim := { program := "ytnhffadebjibnaa", sum := "d6d15e99620cb286606f8c955c107bb094f64b19835baffcb4d268841c97e6d9", func := "loop.example/dualmodes/laws.FnExactSortDue", spec := "fnExactSortDue", inPlace := ["slices.overlaps[loop.example/dualmodes/impl.Task]"], unfollowed := true, recurses := true, apart := false, narrowed := true }
def FnExactSortDueUptoSaid : Prop := fnExactSortDueUptoRow.holds Try.pinned (OpenSpec.upto fnExactSortDueSpec)

/-- 'laws.FnExactCriticalOf', WHERE WHAT IT READS IS OF BULK AT MOST 1048576: true; the input reads as it did. -/
def fnExactCriticalOfUptoRow : OpenClaim := { program := "ytnhffadebjibnaa", sum := "d6d15e99620cb286606f8c955c107bb094f64b19835baffcb4d268841c97e6d9", func := "loop.example/dualmodes/laws.FnExactCriticalOf", spec := "fnExactCriticalOf", apart := false, narrowed := true }
def FnExactCriticalOfUptoSaid : Prop := fnExactCriticalOfUptoRow.holds Try.pinned (OpenSpec.upto fnExactCriticalOfSpec)

/-- 'laws.FnExactHyperOf', WHERE WHAT IT READS IS OF BULK AT MOST 1048576: true; the input reads as it did. -/
def fnExactHyperOfUptoRow : OpenClaim := { program := "ytnhffadebjibnaa", sum := "d6d15e99620cb286606f8c955c107bb094f64b19835baffcb4d268841c97e6d9", func := "loop.example/dualmodes/laws.FnExactHyperOf", spec := "fnExactHyperOf", apart := false, narrowed := true }
def FnExactHyperOfUptoSaid : Prop := fnExactHyperOfUptoRow.holds Try.pinned (OpenSpec.upto fnExactHyperOfSpec)

end Rows
end Go.Proofs.Ytnhffadebjibnaa
