/-
  No cell of these rows narrows 'for every input' (looked for: loops, veiled, ifaces, maps, wideKeys, modest, calm, conditions, laid).
  DERIVED. THE GIVEN ROWS OF THIS SEAT. 13 by the template 'for every input the law returns true; each argument reads behind the call as it read before'; 0 by the template 'total and deterministic' (their statements: YtobkbbgllapcoabTotals.lean).
  GIVEN WITH THE SEED: the statements are not yours to turn. If you find one false, say at which input.
  Laid BY PROGRAM, IN A SANDBOX (cutbox-rows.mjs): the forced cells as the released guide's own fill.sh prints them over the translation 66d831bc9819b5b8… (all of the seat's roots in one cut). By AI agents, Wed Nov 11 2026. No macro, syntax, notation, axiom, sorry.
-/
import Derived.Test.YtobkbbgllapcoabChecked
import GoSem.Claim
import GoSem.ClaimJoined
import GoSem.ClaimMapViews
import Derived.JoinedTies
import Derived.KernelRfl
namespace Go.Proofs.Ytobkbbgllapcoab
/- THE CELL 'sum', in the pinned program and in every row, IS THE sha256 OF THE DUMP (.gsa) THAT YtobkbbgllapcoabProg.lean LOADS. Nothing in Lean hashes anything: it is a label: what it is worth is what the hold of that sum in a sandbox is worth. -/
noncomputable def Try.pinned : Pinned := { name := "ytobkbbgllapcoab", sum := "66d831bc9819b5b8e1e89e129cb2debb339e9767d01bc3a06dd175f937c7935c", checked := Try.checked }
namespace Rows
def none {H : Type} : Left H := { results := [], args := [] }

/-- 'laws.FnHoldsPrefix': WHATEVER THE INPUT: true; the input reads as it did. -/
def fnHoldsPrefixSpec : ChangeSpec := { name := "fnHoldsPrefix", fn := fun _ => fun
  | [d] => { results := [.lit (.bool true)], args := [d] }
  | _ => none }
def fnHoldsPrefixRow : OpenClaim := { program := "ytobkbbgllapcoab", sum := "66d831bc9819b5b8e1e89e129cb2debb339e9767d01bc3a06dd175f937c7935c", func := "loop.example/dualmodes/laws.FnHoldsPrefix", spec := "fnHoldsPrefix", unfollowed := true, recurses := true, apart := false }
def FnHoldsPrefixSaid : Prop := fnHoldsPrefixRow.holds Try.pinned (OpenSpec.ofChange fnHoldsPrefixSpec)

/-- ITS FALSE NEIGHBOUR: 'it returns false'. Refute it at one input. -/
def fnHoldsPrefixWrong : ChangeSpec := { name := "fnHoldsPrefix", fn := fun _ => fun
  | [d] => { results := [.lit (.bool false)], args := [d] }
  | _ => none }
def FnHoldsPrefixWrongFalsely : Prop := fnHoldsPrefixRow.holds Try.pinned (OpenSpec.ofChange fnHoldsPrefixWrong)

/-- 'laws.FnBadOne': WHATEVER THE INPUT: true; the input reads as it did. -/
def fnBadOneSpec : ChangeSpec := { name := "fnBadOne", fn := fun _ => fun
  | [d] => { results := [.lit (.bool true)], args := [d] }
  | _ => none }
def fnBadOneRow : OpenClaim := { program := "ytobkbbgllapcoab", sum := "66d831bc9819b5b8e1e89e129cb2debb339e9767d01bc3a06dd175f937c7935c", func := "loop.example/dualmodes/laws.FnBadOne", spec := "fnBadOne", unfollowed := true, recurses := true, apart := false }
def FnBadOneSaid : Prop := fnBadOneRow.holds Try.pinned (OpenSpec.ofChange fnBadOneSpec)

/-- ITS FALSE NEIGHBOUR: 'it returns false'. Refute it at one input. -/
def fnBadOneWrong : ChangeSpec := { name := "fnBadOne", fn := fun _ => fun
  | [d] => { results := [.lit (.bool false)], args := [d] }
  | _ => none }
def FnBadOneWrongFalsely : Prop := fnBadOneRow.holds Try.pinned (OpenSpec.ofChange fnBadOneWrong)

/-- 'laws.FnBusyMore': WHATEVER THE INPUT: true; the input reads as it did. -/
def fnBusyMoreSpec : ChangeSpec := { name := "fnBusyMore", fn := fun _ => fun
  | [d] => { results := [.lit (.bool true)], args := [d] }
  | _ => none }
def fnBusyMoreRow : OpenClaim := { program := "ytobkbbgllapcoab", sum := "66d831bc9819b5b8e1e89e129cb2debb339e9767d01bc3a06dd175f937c7935c", func := "loop.example/dualmodes/laws.FnBusyMore", spec := "fnBusyMore", unfollowed := true, recurses := true, apart := false }
def FnBusyMoreSaid : Prop := fnBusyMoreRow.holds Try.pinned (OpenSpec.ofChange fnBusyMoreSpec)

/-- ITS FALSE NEIGHBOUR: 'it returns false'. Refute it at one input. -/
def fnBusyMoreWrong : ChangeSpec := { name := "fnBusyMore", fn := fun _ => fun
  | [d] => { results := [.lit (.bool false)], args := [d] }
  | _ => none }
def FnBusyMoreWrongFalsely : Prop := fnBusyMoreRow.holds Try.pinned (OpenSpec.ofChange fnBusyMoreWrong)

/-- 'laws.FnExactDemandOf': WHATEVER THE INPUT: true; the input reads as it did. -/
def fnExactDemandOfSpec : ChangeSpec := { name := "fnExactDemandOf", fn := fun _ => fun
  | [d1, d2, d3] => { results := [.lit (.bool true)], args := [d1, d2, d3] }
  | _ => none }
def fnExactDemandOfRow : OpenClaim := { program := "ytobkbbgllapcoab", sum := "66d831bc9819b5b8e1e89e129cb2debb339e9767d01bc3a06dd175f937c7935c", func := "loop.example/dualmodes/laws.FnExactDemandOf", spec := "fnExactDemandOf", apart := false }
def FnExactDemandOfSaid : Prop := fnExactDemandOfRow.holds Try.pinned (OpenSpec.ofChange fnExactDemandOfSpec)

/-- ITS FALSE NEIGHBOUR: 'it returns false'. Refute it at one input. -/
def fnExactDemandOfWrong : ChangeSpec := { name := "fnExactDemandOf", fn := fun _ => fun
  | [d1, d2, d3] => { results := [.lit (.bool false)], args := [d1, d2, d3] }
  | _ => none }
def FnExactDemandOfWrongFalsely : Prop := fnExactDemandOfRow.holds Try.pinned (OpenSpec.ofChange fnExactDemandOfWrong)

/-- 'laws.FnExactResponseLow': WHATEVER THE INPUT: true; the input reads as it did. -/
def fnExactResponseLowSpec : ChangeSpec := { name := "fnExactResponseLow", fn := fun _ => fun
  | [d1, d2] => { results := [.lit (.bool true)], args := [d1, d2] }
  | _ => none }
def fnExactResponseLowRow : OpenClaim := { program := "ytobkbbgllapcoab", sum := "66d831bc9819b5b8e1e89e129cb2debb339e9767d01bc3a06dd175f937c7935c", func := "loop.example/dualmodes/laws.FnExactResponseLow", spec := "fnExactResponseLow", unfollowed := true, recurses := true, apart := false }
def FnExactResponseLowSaid : Prop := fnExactResponseLowRow.holds Try.pinned (OpenSpec.ofChange fnExactResponseLowSpec)

/-- ITS FALSE NEIGHBOUR: 'it returns false'. Refute it at one input. -/
def fnExactResponseLowWrong : ChangeSpec := { name := "fnExactResponseLow", fn := fun _ => fun
  | [d1, d2] => { results := [.lit (.bool false)], args := [d1, d2] }
  | _ => none }
def FnExactResponseLowWrongFalsely : Prop := fnExactResponseLowRow.holds Try.pinned (OpenSpec.ofChange fnExactResponseLowWrong)

/-- 'laws.FnExactResponseHigh': WHATEVER THE INPUT: true; the input reads as it did. -/
def fnExactResponseHighSpec : ChangeSpec := { name := "fnExactResponseHigh", fn := fun _ => fun
  | [d1, d2] => { results := [.lit (.bool true)], args := [d1, d2] }
  | _ => none }
def fnExactResponseHighRow : OpenClaim := { program := "ytobkbbgllapcoab", sum := "66d831bc9819b5b8e1e89e129cb2debb339e9767d01bc3a06dd175f937c7935c", func := "loop.example/dualmodes/laws.FnExactResponseHigh", spec := "fnExactResponseHigh", unfollowed := true, recurses := true, apart := false }
def FnExactResponseHighSaid : Prop := fnExactResponseHighRow.holds Try.pinned (OpenSpec.ofChange fnExactResponseHighSpec)

/-- ITS FALSE NEIGHBOUR: 'it returns false'. Refute it at one input. -/
def fnExactResponseHighWrong : ChangeSpec := { name := "fnExactResponseHigh", fn := fun _ => fun
  | [d1, d2] => { results := [.lit (.bool false)], args := [d1, d2] }
  | _ => none }
def FnExactResponseHighWrongFalsely : Prop := fnExactResponseHighRow.holds Try.pinned (OpenSpec.ofChange fnExactResponseHighWrong)

/-- 'laws.FnExactResponseSwitch': WHATEVER THE INPUT: true; the input reads as it did. -/
def fnExactResponseSwitchSpec : ChangeSpec := { name := "fnExactResponseSwitch", fn := fun _ => fun
  | [d1, d2] => { results := [.lit (.bool true)], args := [d1, d2] }
  | _ => none }
def fnExactResponseSwitchRow : OpenClaim := { program := "ytobkbbgllapcoab", sum := "66d831bc9819b5b8e1e89e129cb2debb339e9767d01bc3a06dd175f937c7935c", func := "loop.example/dualmodes/laws.FnExactResponseSwitch", spec := "fnExactResponseSwitch", unfollowed := true, recurses := true, apart := false }
def FnExactResponseSwitchSaid : Prop := fnExactResponseSwitchRow.holds Try.pinned (OpenSpec.ofChange fnExactResponseSwitchSpec)

/-- ITS FALSE NEIGHBOUR: 'it returns false'. Refute it at one input. -/
def fnExactResponseSwitchWrong : ChangeSpec := { name := "fnExactResponseSwitch", fn := fun _ => fun
  | [d1, d2] => { results := [.lit (.bool false)], args := [d1, d2] }
  | _ => none }
def FnExactResponseSwitchWrongFalsely : Prop := fnExactResponseSwitchRow.holds Try.pinned (OpenSpec.ofChange fnExactResponseSwitchWrong)

/-- 'laws.FnExactHoldsLow': WHATEVER THE INPUT: true; the input reads as it did. -/
def fnExactHoldsLowSpec : ChangeSpec := { name := "fnExactHoldsLow", fn := fun _ => fun
  | [d] => { results := [.lit (.bool true)], args := [d] }
  | _ => none }
def fnExactHoldsLowRow : OpenClaim := { program := "ytobkbbgllapcoab", sum := "66d831bc9819b5b8e1e89e129cb2debb339e9767d01bc3a06dd175f937c7935c", func := "loop.example/dualmodes/laws.FnExactHoldsLow", spec := "fnExactHoldsLow", unfollowed := true, recurses := true, apart := false }
def FnExactHoldsLowSaid : Prop := fnExactHoldsLowRow.holds Try.pinned (OpenSpec.ofChange fnExactHoldsLowSpec)

/-- ITS FALSE NEIGHBOUR: 'it returns false'. Refute it at one input. -/
def fnExactHoldsLowWrong : ChangeSpec := { name := "fnExactHoldsLow", fn := fun _ => fun
  | [d] => { results := [.lit (.bool false)], args := [d] }
  | _ => none }
def FnExactHoldsLowWrongFalsely : Prop := fnExactHoldsLowRow.holds Try.pinned (OpenSpec.ofChange fnExactHoldsLowWrong)

/-- 'laws.FnExactHoldsBoth': WHATEVER THE INPUT: true; the input reads as it did. -/
def fnExactHoldsBothSpec : ChangeSpec := { name := "fnExactHoldsBoth", fn := fun _ => fun
  | [d] => { results := [.lit (.bool true)], args := [d] }
  | _ => none }
def fnExactHoldsBothRow : OpenClaim := { program := "ytobkbbgllapcoab", sum := "66d831bc9819b5b8e1e89e129cb2debb339e9767d01bc3a06dd175f937c7935c", func := "loop.example/dualmodes/laws.FnExactHoldsBoth", spec := "fnExactHoldsBoth", unfollowed := true, recurses := true, apart := false }
def FnExactHoldsBothSaid : Prop := fnExactHoldsBothRow.holds Try.pinned (OpenSpec.ofChange fnExactHoldsBothSpec)

/-- ITS FALSE NEIGHBOUR: 'it returns false'. Refute it at one input. -/
def fnExactHoldsBothWrong : ChangeSpec := { name := "fnExactHoldsBoth", fn := fun _ => fun
  | [d] => { results := [.lit (.bool false)], args := [d] }
  | _ => none }
def FnExactHoldsBothWrongFalsely : Prop := fnExactHoldsBothRow.holds Try.pinned (OpenSpec.ofChange fnExactHoldsBothWrong)

/-- 'laws.FnExactFirstBad': WHATEVER THE INPUT: true; the input reads as it did. -/
def fnExactFirstBadSpec : ChangeSpec := { name := "fnExactFirstBad", fn := fun _ => fun
  | [d] => { results := [.lit (.bool true)], args := [d] }
  | _ => none }
def fnExactFirstBadRow : OpenClaim := { program := "ytobkbbgllapcoab", sum := "66d831bc9819b5b8e1e89e129cb2debb339e9767d01bc3a06dd175f937c7935c", func := "loop.example/dualmodes/laws.FnExactFirstBad", spec := "fnExactFirstBad", unfollowed := true, recurses := true, apart := false }
def FnExactFirstBadSaid : Prop := fnExactFirstBadRow.holds Try.pinned (OpenSpec.ofChange fnExactFirstBadSpec)

/-- ITS FALSE NEIGHBOUR: 'it returns false'. Refute it at one input. -/
def fnExactFirstBadWrong : ChangeSpec := { name := "fnExactFirstBad", fn := fun _ => fun
  | [d] => { results := [.lit (.bool false)], args := [d] }
  | _ => none }
def FnExactFirstBadWrongFalsely : Prop := fnExactFirstBadRow.holds Try.pinned (OpenSpec.ofChange fnExactFirstBadWrong)

/-- 'laws.FnExactBusyLow': WHATEVER THE INPUT: true; the input reads as it did. -/
def fnExactBusyLowSpec : ChangeSpec := { name := "fnExactBusyLow", fn := fun _ => fun
  | [d] => { results := [.lit (.bool true)], args := [d] }
  | _ => none }
def fnExactBusyLowRow : OpenClaim := { program := "ytobkbbgllapcoab", sum := "66d831bc9819b5b8e1e89e129cb2debb339e9767d01bc3a06dd175f937c7935c", func := "loop.example/dualmodes/laws.FnExactBusyLow", spec := "fnExactBusyLow", unfollowed := true, recurses := true, apart := false }
def FnExactBusyLowSaid : Prop := fnExactBusyLowRow.holds Try.pinned (OpenSpec.ofChange fnExactBusyLowSpec)

/-- ITS FALSE NEIGHBOUR: 'it returns false'. Refute it at one input. -/
def fnExactBusyLowWrong : ChangeSpec := { name := "fnExactBusyLow", fn := fun _ => fun
  | [d] => { results := [.lit (.bool false)], args := [d] }
  | _ => none }
def FnExactBusyLowWrongFalsely : Prop := fnExactBusyLowRow.holds Try.pinned (OpenSpec.ofChange fnExactBusyLowWrong)

/-- 'laws.FnAssignOrder': WHATEVER THE INPUT: true; the input reads as it did. -/
def fnAssignOrderSpec : ChangeSpec := { name := "fnAssignOrder", fn := fun _ => fun
  | [d] => { results := [.lit (.bool true)], args := [d] }
  | _ => none }
def fnAssignOrderRow : OpenClaim := { program := "ytobkbbgllapcoab", sum := "66d831bc9819b5b8e1e89e129cb2debb339e9767d01bc3a06dd175f937c7935c", func := "loop.example/dualmodes/laws.FnAssignOrder", spec := "fnAssignOrder", unfollowed := true, recurses := true, apart := false }
def FnAssignOrderSaid : Prop := fnAssignOrderRow.holds Try.pinned (OpenSpec.ofChange fnAssignOrderSpec)

/-- ITS FALSE NEIGHBOUR: 'it returns false'. Refute it at one input. -/
def fnAssignOrderWrong : ChangeSpec := { name := "fnAssignOrder", fn := fun _ => fun
  | [d] => { results := [.lit (.bool false)], args := [d] }
  | _ => none }
def FnAssignOrderWrongFalsely : Prop := fnAssignOrderRow.holds Try.pinned (OpenSpec.ofChange fnAssignOrderWrong)

/-- 'laws.FnCanBeLast': WHATEVER THE INPUT: true; the input reads as it did. -/
def fnCanBeLastSpec : ChangeSpec := { name := "fnCanBeLast", fn := fun _ => fun
  | [d] => { results := [.lit (.bool true)], args := [d] }
  | _ => none }
def fnCanBeLastRow : OpenClaim := { program := "ytobkbbgllapcoab", sum := "66d831bc9819b5b8e1e89e129cb2debb339e9767d01bc3a06dd175f937c7935c", func := "loop.example/dualmodes/laws.FnCanBeLast", spec := "fnCanBeLast", unfollowed := true, recurses := true, apart := false }
def FnCanBeLastSaid : Prop := fnCanBeLastRow.holds Try.pinned (OpenSpec.ofChange fnCanBeLastSpec)

/-- ITS FALSE NEIGHBOUR: 'it returns false'. Refute it at one input. -/
def fnCanBeLastWrong : ChangeSpec := { name := "fnCanBeLast", fn := fun _ => fun
  | [d] => { results := [.lit (.bool false)], args := [d] }
  | _ => none }
def FnCanBeLastWrongFalsely : Prop := fnCanBeLastRow.holds Try.pinned (OpenSpec.ofChange fnCanBeLastWrong)

/- THE SECOND FORM. 'bulk': how many values and letters a reading holds, each counted each time it is reached (what is shared counts as often as it is met; a slice's spare places count too). A statement '..UptoSaid' is the law's where the arguments, and the package variables that the reading takes, are together of bulk at most 1048576: NARROWER than '..Said'. Prove '..Said' where nothing that the law and all that it calls make is longer than what came in: it says more and counts as full. Else prove '..UptoSaid'. A law counts once. -/
mutual
def uptoBulk {H : Type} : DataW H → Nat
  | .lit (.string bytes) => bytes.length + 1
  | .lit _ => 1
  | .nil => 1
  | .ptr d => uptoBulk d + 1
  | .slice elems spare => uptoBulkAll elems + uptoBulkAll spare + 1
  | .agg parts => uptoBulkAll parts + 1
  | .iface _ d => uptoBulk d + 1
  | .map entries => uptoBulkEntries entries + 1
  | .held _ => 1
def uptoBulkAll {H : Type} : List (DataW H) → Nat
  | [] => 0
  | d :: r => uptoBulk d + uptoBulkAll r
def uptoBulkEntries {H : Type} : List (Lit × DataW H) → Nat
  | [] => 0
  | x :: r => uptoBulkEntry x + uptoBulkEntries r
def uptoBulkEntry {H : Type} : Lit × DataW H → Nat
  | (.string bytes, d) => bytes.length + uptoBulk d + 1
  | (_, d) => uptoBulk d + 1
 end
def uptoSmall : (H : Type) → List (DataW H) → Bool := fun _ ds => decide (uptoBulkAll ds ≤ 1048576)
def OpenSpec.upto (s : _root_.Go.ChangeSpec) : _root_.Go.OpenSpec := { _root_.Go.OpenSpec.ofChange s with cond := some uptoSmall }

/-- 'laws.FnHoldsPrefix', WHERE WHAT IT READS IS OF BULK AT MOST 1048576: true; the input reads as it did. -/
def fnHoldsPrefixUptoRow : OpenClaim := { program := "ytobkbbgllapcoab", sum := "66d831bc9819b5b8e1e89e129cb2debb339e9767d01bc3a06dd175f937c7935c", func := "loop.example/dualmodes/laws.FnHoldsPrefix", spec := "fnHoldsPrefix", unfollowed := true, recurses := true, apart := false, narrowed := true }
def FnHoldsPrefixUptoSaid : Prop := fnHoldsPrefixUptoRow.holds Try.pinned (OpenSpec.upto fnHoldsPrefixSpec)

/-- 'laws.FnBadOne', WHERE WHAT IT READS IS OF BULK AT MOST 1048576: true; the input reads as it did. -/
def fnBadOneUptoRow : OpenClaim := { program := "ytobkbbgllapcoab", sum := "66d831bc9819b5b8e1e89e129cb2debb339e9767d01bc3a06dd175f937c7935c", func := "loop.example/dualmodes/laws.FnBadOne", spec := "fnBadOne", unfollowed := true, recurses := true, apart := false, narrowed := true }
def FnBadOneUptoSaid : Prop := fnBadOneUptoRow.holds Try.pinned (OpenSpec.upto fnBadOneSpec)

/-- 'laws.FnBusyMore', WHERE WHAT IT READS IS OF BULK AT MOST 1048576: true; the input reads as it did. -/
def fnBusyMoreUptoRow : OpenClaim := { program := "ytobkbbgllapcoab", sum := "66d831bc9819b5b8e1e89e129cb2debb339e9767d01bc3a06dd175f937c7935c", func := "loop.example/dualmodes/laws.FnBusyMore", spec := "fnBusyMore", unfollowed := true, recurses := true, apart := false, narrowed := true }
def FnBusyMoreUptoSaid : Prop := fnBusyMoreUptoRow.holds Try.pinned (OpenSpec.upto fnBusyMoreSpec)

/-- 'laws.FnExactDemandOf', WHERE WHAT IT READS IS OF BULK AT MOST 1048576: true; the input reads as it did. -/
def fnExactDemandOfUptoRow : OpenClaim := { program := "ytobkbbgllapcoab", sum := "66d831bc9819b5b8e1e89e129cb2debb339e9767d01bc3a06dd175f937c7935c", func := "loop.example/dualmodes/laws.FnExactDemandOf", spec := "fnExactDemandOf", apart := false, narrowed := true }
def FnExactDemandOfUptoSaid : Prop := fnExactDemandOfUptoRow.holds Try.pinned (OpenSpec.upto fnExactDemandOfSpec)

/-- 'laws.FnExactResponseLow', WHERE WHAT IT READS IS OF BULK AT MOST 1048576: true; the input reads as it did. -/
def fnExactResponseLowUptoRow : OpenClaim := { program := "ytobkbbgllapcoab", sum := "66d831bc9819b5b8e1e89e129cb2debb339e9767d01bc3a06dd175f937c7935c", func := "loop.example/dualmodes/laws.FnExactResponseLow", spec := "fnExactResponseLow", unfollowed := true, recurses := true, apart := false, narrowed := true }
def FnExactResponseLowUptoSaid : Prop := fnExactResponseLowUptoRow.holds Try.pinned (OpenSpec.upto fnExactResponseLowSpec)

/-- 'laws.FnExactResponseHigh', WHERE WHAT IT READS IS OF BULK AT MOST 1048576: true; the input reads as it did. -/
def fnExactResponseHighUptoRow : OpenClaim := { program := "ytobkbbgllapcoab", sum := "66d831bc9819b5b8e1e89e129cb2debb339e9767d01bc3a06dd175f937c7935c", func := "loop.example/dualmodes/laws.FnExactResponseHigh", spec := "fnExactResponseHigh", unfollowed := true, recurses := true, apart := false, narrowed := true }
def FnExactResponseHighUptoSaid : Prop := fnExactResponseHighUptoRow.holds Try.pinned (OpenSpec.upto fnExactResponseHighSpec)

/-- 'laws.FnExactResponseSwitch', WHERE WHAT IT READS IS OF BULK AT MOST 1048576: true; the input reads as it did. -/
def fnExactResponseSwitchUptoRow : OpenClaim := { program := "ytobkbbgllapcoab", sum := "66d831bc9819b5b8e1e89e129cb2debb339e9767d01bc3a06dd175f937c7935c", func := "loop.example/dualmodes/laws.FnExactResponseSwitch", spec := "fnExactResponseSwitch", unfollowed := true, recurses := true, apart := false, narrowed := true }
def FnExactResponseSwitchUptoSaid : Prop := fnExactResponseSwitchUptoRow.holds Try.pinned (OpenSpec.upto fnExactResponseSwitchSpec)

/-- 'laws.FnExactHoldsLow', WHERE WHAT IT READS IS OF BULK AT MOST 1048576: true; the input reads as it did. -/
def fnExactHoldsLowUptoRow : OpenClaim := { program := "ytobkbbgllapcoab", sum := "66d831bc9819b5b8e1e89e129cb2debb339e9767d01bc3a06dd175f937c7935c", func := "loop.example/dualmodes/laws.FnExactHoldsLow", spec := "fnExactHoldsLow", unfollowed := true, recurses := true, apart := false, narrowed := true }
def FnExactHoldsLowUptoSaid : Prop := fnExactHoldsLowUptoRow.holds Try.pinned (OpenSpec.upto fnExactHoldsLowSpec)

/-- 'laws.FnExactHoldsBoth', WHERE WHAT IT READS IS OF BULK AT MOST 1048576: true; the input reads as it did. -/
def fnExactHoldsBothUptoRow : OpenClaim := { program := "ytobkbbgllapcoab", sum := "66d831bc9819b5b8e1e89e129cb2debb339e9767d01bc3a06dd175f937c7935c", func := "loop.example/dualmodes/laws.FnExactHoldsBoth", spec := "fnExactHoldsBoth", unfollowed := true, recurses := true, apart := false, narrowed := true }
def FnExactHoldsBothUptoSaid : Prop := fnExactHoldsBothUptoRow.holds Try.pinned (OpenSpec.upto fnExactHoldsBothSpec)

/-- 'laws.FnExactFirstBad', WHERE WHAT IT READS IS OF BULK AT MOST 1048576: true; the input reads as it did. -/
def fnExactFirstBadUptoRow : OpenClaim := { program := "ytobkbbgllapcoab", sum := "66d831bc9819b5b8e1e89e129cb2debb339e9767d01bc3a06dd175f937c7935c", func := "loop.example/dualmodes/laws.FnExactFirstBad", spec := "fnExactFirstBad", unfollowed := true, recurses := true, apart := false, narrowed := true }
def FnExactFirstBadUptoSaid : Prop := fnExactFirstBadUptoRow.holds Try.pinned (OpenSpec.upto fnExactFirstBadSpec)

/-- 'laws.FnExactBusyLow', WHERE WHAT IT READS IS OF BULK AT MOST 1048576: true; the input reads as it did. -/
def fnExactBusyLowUptoRow : OpenClaim := { program := "ytobkbbgllapcoab", sum := "66d831bc9819b5b8e1e89e129cb2debb339e9767d01bc3a06dd175f937c7935c", func := "loop.example/dualmodes/laws.FnExactBusyLow", spec := "fnExactBusyLow", unfollowed := true, recurses := true, apart := false, narrowed := true }
def FnExactBusyLowUptoSaid : Prop := fnExactBusyLowUptoRow.holds Try.pinned (OpenSpec.upto fnExactBusyLowSpec)

/-- 'laws.FnAssignOrder', WHERE WHAT IT READS IS OF BULK AT MOST 1048576: true; the input reads as it did. -/
def fnAssignOrderUptoRow : OpenClaim := { program := "ytobkbbgllapcoab", sum := "66d831bc9819b5b8e1e89e129cb2debb339e9767d01bc3a06dd175f937c7935c", func := "loop.example/dualmodes/laws.FnAssignOrder", spec := "fnAssignOrder", unfollowed := true, recurses := true, apart := false, narrowed := true }
def FnAssignOrderUptoSaid : Prop := fnAssignOrderUptoRow.holds Try.pinned (OpenSpec.upto fnAssignOrderSpec)

/-- 'laws.FnCanBeLast', WHERE WHAT IT READS IS OF BULK AT MOST 1048576: true; the input reads as it did. -/
def fnCanBeLastUptoRow : OpenClaim := { program := "ytobkbbgllapcoab", sum := "66d831bc9819b5b8e1e89e129cb2debb339e9767d01bc3a06dd175f937c7935c", func := "loop.example/dualmodes/laws.FnCanBeLast", spec := "fnCanBeLast", unfollowed := true, recurses := true, apart := false, narrowed := true }
def FnCanBeLastUptoSaid : Prop := fnCanBeLastUptoRow.holds Try.pinned (OpenSpec.upto fnCanBeLastSpec)

end Rows
end Go.Proofs.Ytobkbbgllapcoab
