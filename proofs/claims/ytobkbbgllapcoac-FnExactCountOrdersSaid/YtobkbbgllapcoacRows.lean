/-
  No cell of these rows narrows 'for every input' (looked for: loops, veiled, ifaces, maps, wideKeys, modest, calm, conditions, laid).
  DERIVED. THE GIVEN ROWS OF THIS SEAT. 13 by the template 'for every input the law returns true; each argument reads behind the call as it read before'; 0 by the template 'total and deterministic' (their statements: YtobkbbgllapcoacTotals.lean).
  GIVEN WITH THE SEED: the statements are not yours to turn. If you find one false, say at which input.
  Laid BY PROGRAM, IN A SANDBOX (cutbox-rows.mjs): the forced cells as the released guide's own fill.sh prints them over the translation 37f63130c45c9f01… (all of the seat's roots in one cut). By AI agents, Wed Nov 11 2026. No macro, syntax, notation, axiom, sorry.
-/
import Derived.Test.YtobkbbgllapcoacChecked
import GoSem.Claim
import GoSem.ClaimJoined
import GoSem.ClaimMapViews
import Derived.JoinedTies
import Derived.KernelRfl
namespace Go.Proofs.Ytobkbbgllapcoac
/- THE CELL 'sum', in the pinned program and in every row, IS THE sha256 OF THE DUMP (.gsa) THAT YtobkbbgllapcoacProg.lean LOADS. Nothing in Lean hashes anything: it is a label: what it is worth is what the hold of that sum in a sandbox is worth. -/
noncomputable def Try.pinned : Pinned := { name := "ytobkbbgllapcoac", sum := "37f63130c45c9f01be177c379b7a21354035921bafb9ca018824909f5b768a94", checked := Try.checked }
namespace Rows
def none {H : Type} : Left H := { results := [], args := [] }

/-- 'laws.FnCountOrders': WHATEVER THE INPUT: true; the input reads as it did. -/
def fnCountOrdersSpec : ChangeSpec := { name := "fnCountOrders", fn := fun _ => fun
  | [d] => { results := [.lit (.bool true)], args := [d] }
  | _ => none }
def fnCountOrdersRow : OpenClaim := { program := "ytobkbbgllapcoac", sum := "37f63130c45c9f01be177c379b7a21354035921bafb9ca018824909f5b768a94", func := "loop.example/dualmodes/laws.FnCountOrders", spec := "fnCountOrders", unfollowed := true, recurses := true, apart := false }
def FnCountOrdersSaid : Prop := fnCountOrdersRow.holds Try.pinned (OpenSpec.ofChange fnCountOrdersSpec)

/-- ITS FALSE NEIGHBOUR: 'it returns false'. Refute it at one input. -/
def fnCountOrdersWrong : ChangeSpec := { name := "fnCountOrders", fn := fun _ => fun
  | [d] => { results := [.lit (.bool false)], args := [d] }
  | _ => none }
def FnCountOrdersWrongFalsely : Prop := fnCountOrdersRow.holds Try.pinned (OpenSpec.ofChange fnCountOrdersWrong)

/-- 'laws.FnAnyOrder': WHATEVER THE INPUT: true; the input reads as it did. -/
def fnAnyOrderSpec : ChangeSpec := { name := "fnAnyOrder", fn := fun _ => fun
  | [d] => { results := [.lit (.bool true)], args := [d] }
  | _ => none }
def fnAnyOrderRow : OpenClaim := { program := "ytobkbbgllapcoac", sum := "37f63130c45c9f01be177c379b7a21354035921bafb9ca018824909f5b768a94", func := "loop.example/dualmodes/laws.FnAnyOrder", spec := "fnAnyOrder", unfollowed := true, recurses := true, apart := false }
def FnAnyOrderSaid : Prop := fnAnyOrderRow.holds Try.pinned (OpenSpec.ofChange fnAnyOrderSpec)

/-- ITS FALSE NEIGHBOUR: 'it returns false'. Refute it at one input. -/
def fnAnyOrderWrong : ChangeSpec := { name := "fnAnyOrder", fn := fun _ => fun
  | [d] => { results := [.lit (.bool false)], args := [d] }
  | _ => none }
def FnAnyOrderWrongFalsely : Prop := fnAnyOrderRow.holds Try.pinned (OpenSpec.ofChange fnAnyOrderWrong)

/-- 'laws.FnAssignOrderOf': WHATEVER THE INPUT: true; the input reads as it did. -/
def fnAssignOrderOfSpec : ChangeSpec := { name := "fnAssignOrderOf", fn := fun _ => fun
  | [d] => { results := [.lit (.bool true)], args := [d] }
  | _ => none }
def fnAssignOrderOfRow : OpenClaim := { program := "ytobkbbgllapcoac", sum := "37f63130c45c9f01be177c379b7a21354035921bafb9ca018824909f5b768a94", func := "loop.example/dualmodes/laws.FnAssignOrderOf", spec := "fnAssignOrderOf", unfollowed := true, recurses := true, apart := false }
def FnAssignOrderOfSaid : Prop := fnAssignOrderOfRow.holds Try.pinned (OpenSpec.ofChange fnAssignOrderOfSpec)

/-- ITS FALSE NEIGHBOUR: 'it returns false'. Refute it at one input. -/
def fnAssignOrderOfWrong : ChangeSpec := { name := "fnAssignOrderOf", fn := fun _ => fun
  | [d] => { results := [.lit (.bool false)], args := [d] }
  | _ => none }
def FnAssignOrderOfWrongFalsely : Prop := fnAssignOrderOfRow.holds Try.pinned (OpenSpec.ofChange fnAssignOrderOfWrong)

/-- 'laws.FnAssignLess': WHATEVER THE INPUT: true; the input reads as it did. -/
def fnAssignLessSpec : ChangeSpec := { name := "fnAssignLess", fn := fun _ => fun
  | [d] => { results := [.lit (.bool true)], args := [d] }
  | _ => none }
def fnAssignLessRow : OpenClaim := { program := "ytobkbbgllapcoac", sum := "37f63130c45c9f01be177c379b7a21354035921bafb9ca018824909f5b768a94", func := "loop.example/dualmodes/laws.FnAssignLess", spec := "fnAssignLess", unfollowed := true, recurses := true, apart := false }
def FnAssignLessSaid : Prop := fnAssignLessRow.holds Try.pinned (OpenSpec.ofChange fnAssignLessSpec)

/-- ITS FALSE NEIGHBOUR: 'it returns false'. Refute it at one input. -/
def fnAssignLessWrong : ChangeSpec := { name := "fnAssignLess", fn := fun _ => fun
  | [d] => { results := [.lit (.bool false)], args := [d] }
  | _ => none }
def FnAssignLessWrongFalsely : Prop := fnAssignLessRow.holds Try.pinned (OpenSpec.ofChange fnAssignLessWrong)

/-- 'laws.FnAssignLast': WHATEVER THE INPUT: true; the input reads as it did. -/
def fnAssignLastSpec : ChangeSpec := { name := "fnAssignLast", fn := fun _ => fun
  | [d] => { results := [.lit (.bool true)], args := [d] }
  | _ => none }
def fnAssignLastRow : OpenClaim := { program := "ytobkbbgllapcoac", sum := "37f63130c45c9f01be177c379b7a21354035921bafb9ca018824909f5b768a94", func := "loop.example/dualmodes/laws.FnAssignLast", spec := "fnAssignLast", unfollowed := true, recurses := true, apart := false }
def FnAssignLastSaid : Prop := fnAssignLastRow.holds Try.pinned (OpenSpec.ofChange fnAssignLastSpec)

/-- ITS FALSE NEIGHBOUR: 'it returns false'. Refute it at one input. -/
def fnAssignLastWrong : ChangeSpec := { name := "fnAssignLast", fn := fun _ => fun
  | [d] => { results := [.lit (.bool false)], args := [d] }
  | _ => none }
def FnAssignLastWrongFalsely : Prop := fnAssignLastRow.holds Try.pinned (OpenSpec.ofChange fnAssignLastWrong)

/-- 'laws.FnLastHolds': WHATEVER THE INPUT: true; the input reads as it did. -/
def fnLastHoldsSpec : ChangeSpec := { name := "fnLastHolds", fn := fun _ => fun
  | [d] => { results := [.lit (.bool true)], args := [d] }
  | _ => none }
def fnLastHoldsRow : OpenClaim := { program := "ytobkbbgllapcoac", sum := "37f63130c45c9f01be177c379b7a21354035921bafb9ca018824909f5b768a94", func := "loop.example/dualmodes/laws.FnLastHolds", spec := "fnLastHolds", unfollowed := true, recurses := true, apart := false }
def FnLastHoldsSaid : Prop := fnLastHoldsRow.holds Try.pinned (OpenSpec.ofChange fnLastHoldsSpec)

/-- ITS FALSE NEIGHBOUR: 'it returns false'. Refute it at one input. -/
def fnLastHoldsWrong : ChangeSpec := { name := "fnLastHolds", fn := fun _ => fun
  | [d] => { results := [.lit (.bool false)], args := [d] }
  | _ => none }
def FnLastHoldsWrongFalsely : Prop := fnLastHoldsRow.holds Try.pinned (OpenSpec.ofChange fnLastHoldsWrong)

/-- 'laws.FnCountTurned': WHATEVER THE INPUT: true; the input reads as it did. -/
def fnCountTurnedSpec : ChangeSpec := { name := "fnCountTurned", fn := fun _ => fun
  | [d] => { results := [.lit (.bool true)], args := [d] }
  | _ => none }
def fnCountTurnedRow : OpenClaim := { program := "ytobkbbgllapcoac", sum := "37f63130c45c9f01be177c379b7a21354035921bafb9ca018824909f5b768a94", func := "loop.example/dualmodes/laws.FnCountTurned", spec := "fnCountTurned", unfollowed := true, recurses := true, apart := false }
def FnCountTurnedSaid : Prop := fnCountTurnedRow.holds Try.pinned (OpenSpec.ofChange fnCountTurnedSpec)

/-- ITS FALSE NEIGHBOUR: 'it returns false'. Refute it at one input. -/
def fnCountTurnedWrong : ChangeSpec := { name := "fnCountTurned", fn := fun _ => fun
  | [d] => { results := [.lit (.bool false)], args := [d] }
  | _ => none }
def FnCountTurnedWrongFalsely : Prop := fnCountTurnedRow.holds Try.pinned (OpenSpec.ofChange fnCountTurnedWrong)

/-- 'laws.FnAnyFirst': WHATEVER THE INPUT: true; the input reads as it did. -/
def fnAnyFirstSpec : ChangeSpec := { name := "fnAnyFirst", fn := fun _ => fun
  | [d] => { results := [.lit (.bool true)], args := [d] }
  | _ => none }
def fnAnyFirstRow : OpenClaim := { program := "ytobkbbgllapcoac", sum := "37f63130c45c9f01be177c379b7a21354035921bafb9ca018824909f5b768a94", func := "loop.example/dualmodes/laws.FnAnyFirst", spec := "fnAnyFirst", unfollowed := true, recurses := true, apart := false }
def FnAnyFirstSaid : Prop := fnAnyFirstRow.holds Try.pinned (OpenSpec.ofChange fnAnyFirstSpec)

/-- ITS FALSE NEIGHBOUR: 'it returns false'. Refute it at one input. -/
def fnAnyFirstWrong : ChangeSpec := { name := "fnAnyFirst", fn := fun _ => fun
  | [d] => { results := [.lit (.bool false)], args := [d] }
  | _ => none }
def FnAnyFirstWrongFalsely : Prop := fnAnyFirstRow.holds Try.pinned (OpenSpec.ofChange fnAnyFirstWrong)

/-- 'laws.FnCanLow': WHATEVER THE INPUT: true; the input reads as it did. -/
def fnCanLowSpec : ChangeSpec := { name := "fnCanLow", fn := fun _ => fun
  | [d] => { results := [.lit (.bool true)], args := [d] }
  | _ => none }
def fnCanLowRow : OpenClaim := { program := "ytobkbbgllapcoac", sum := "37f63130c45c9f01be177c379b7a21354035921bafb9ca018824909f5b768a94", func := "loop.example/dualmodes/laws.FnCanLow", spec := "fnCanLow", unfollowed := true, recurses := true, apart := false }
def FnCanLowSaid : Prop := fnCanLowRow.holds Try.pinned (OpenSpec.ofChange fnCanLowSpec)

/-- ITS FALSE NEIGHBOUR: 'it returns false'. Refute it at one input. -/
def fnCanLowWrong : ChangeSpec := { name := "fnCanLow", fn := fun _ => fun
  | [d] => { results := [.lit (.bool false)], args := [d] }
  | _ => none }
def FnCanLowWrongFalsely : Prop := fnCanLowRow.holds Try.pinned (OpenSpec.ofChange fnCanLowWrong)

/-- 'laws.FnExactCanBeLast': WHATEVER THE INPUT: true; the input reads as it did. -/
def fnExactCanBeLastSpec : ChangeSpec := { name := "fnExactCanBeLast", fn := fun _ => fun
  | [d1, d2] => { results := [.lit (.bool true)], args := [d1, d2] }
  | _ => none }
def fnExactCanBeLastRow : OpenClaim := { program := "ytobkbbgllapcoac", sum := "37f63130c45c9f01be177c379b7a21354035921bafb9ca018824909f5b768a94", func := "loop.example/dualmodes/laws.FnExactCanBeLast", spec := "fnExactCanBeLast", unfollowed := true, recurses := true, apart := false }
def FnExactCanBeLastSaid : Prop := fnExactCanBeLastRow.holds Try.pinned (OpenSpec.ofChange fnExactCanBeLastSpec)

/-- ITS FALSE NEIGHBOUR: 'it returns false'. Refute it at one input. -/
def fnExactCanBeLastWrong : ChangeSpec := { name := "fnExactCanBeLast", fn := fun _ => fun
  | [d1, d2] => { results := [.lit (.bool false)], args := [d1, d2] }
  | _ => none }
def FnExactCanBeLastWrongFalsely : Prop := fnExactCanBeLastRow.holds Try.pinned (OpenSpec.ofChange fnExactCanBeLastWrong)

/-- 'laws.FnExactAssignOrder': WHATEVER THE INPUT: true; the input reads as it did. -/
def fnExactAssignOrderSpec : ChangeSpec := { name := "fnExactAssignOrder", fn := fun _ => fun
  | [d] => { results := [.lit (.bool true)], args := [d] }
  | _ => none }
def fnExactAssignOrderRow : OpenClaim := { program := "ytobkbbgllapcoac", sum := "37f63130c45c9f01be177c379b7a21354035921bafb9ca018824909f5b768a94", func := "loop.example/dualmodes/laws.FnExactAssignOrder", spec := "fnExactAssignOrder", unfollowed := true, recurses := true, apart := false }
def FnExactAssignOrderSaid : Prop := fnExactAssignOrderRow.holds Try.pinned (OpenSpec.ofChange fnExactAssignOrderSpec)

/-- ITS FALSE NEIGHBOUR: 'it returns false'. Refute it at one input. -/
def fnExactAssignOrderWrong : ChangeSpec := { name := "fnExactAssignOrder", fn := fun _ => fun
  | [d] => { results := [.lit (.bool false)], args := [d] }
  | _ => none }
def FnExactAssignOrderWrongFalsely : Prop := fnExactAssignOrderRow.holds Try.pinned (OpenSpec.ofChange fnExactAssignOrderWrong)

/-- 'laws.FnExactAnyOrder': WHATEVER THE INPUT: true; the input reads as it did. -/
def fnExactAnyOrderSpec : ChangeSpec := { name := "fnExactAnyOrder", fn := fun _ => fun
  | [d] => { results := [.lit (.bool true)], args := [d] }
  | _ => none }
def fnExactAnyOrderRow : OpenClaim := { program := "ytobkbbgllapcoac", sum := "37f63130c45c9f01be177c379b7a21354035921bafb9ca018824909f5b768a94", func := "loop.example/dualmodes/laws.FnExactAnyOrder", spec := "fnExactAnyOrder", unfollowed := true, recurses := true, apart := false }
def FnExactAnyOrderSaid : Prop := fnExactAnyOrderRow.holds Try.pinned (OpenSpec.ofChange fnExactAnyOrderSpec)

/-- ITS FALSE NEIGHBOUR: 'it returns false'. Refute it at one input. -/
def fnExactAnyOrderWrong : ChangeSpec := { name := "fnExactAnyOrder", fn := fun _ => fun
  | [d] => { results := [.lit (.bool false)], args := [d] }
  | _ => none }
def FnExactAnyOrderWrongFalsely : Prop := fnExactAnyOrderRow.holds Try.pinned (OpenSpec.ofChange fnExactAnyOrderWrong)

/-- 'laws.FnExactCountOrders': WHATEVER THE INPUT: true; the input reads as it did. -/
def fnExactCountOrdersSpec : ChangeSpec := { name := "fnExactCountOrders", fn := fun _ => fun
  | [d] => { results := [.lit (.bool true)], args := [d] }
  | _ => none }
def fnExactCountOrdersRow : OpenClaim := { program := "ytobkbbgllapcoac", sum := "37f63130c45c9f01be177c379b7a21354035921bafb9ca018824909f5b768a94", func := "loop.example/dualmodes/laws.FnExactCountOrders", spec := "fnExactCountOrders", unfollowed := true, recurses := true, apart := false }
def FnExactCountOrdersSaid : Prop := fnExactCountOrdersRow.holds Try.pinned (OpenSpec.ofChange fnExactCountOrdersSpec)

/-- ITS FALSE NEIGHBOUR: 'it returns false'. Refute it at one input. -/
def fnExactCountOrdersWrong : ChangeSpec := { name := "fnExactCountOrders", fn := fun _ => fun
  | [d] => { results := [.lit (.bool false)], args := [d] }
  | _ => none }
def FnExactCountOrdersWrongFalsely : Prop := fnExactCountOrdersRow.holds Try.pinned (OpenSpec.ofChange fnExactCountOrdersWrong)

/- THE SECOND FORM. 'bulk': how many values and letters a reading holds, each counted each time it is reached (what is shared counts as often as it is met; a slice's spare places count too). A statement '..UptoSaid' is the law's where the arguments, and the package variables that the reading takes, are together of bulk at most 1048576: NARROWER than '..Said'. Prove '..Said' where nothing that the law and all that it calls make is longer than what came in: it says more and counts as full. Else prove '..UptoSaid'. A law counts once. -/
mutual
def uptoBulk {H : Type} : DataW H → Nat
  | .lit (.string bytes) => bytes.length + 1
  | .lit _ => 1
  | .nil => 1
  | .ptr d => uptoBulk d + 1
  | .slice elems spare => uptoBulkAll elems + uptoBulkAll spare + 1
  | .agg parts => uptoBulkAll parts + 1
  | .iface _ d => uptoBulk d + 1
  | .map entries => uptoBulkEntries entries + 1
  | .held _ => 1
def uptoBulkAll {H : Type} : List (DataW H) → Nat
  | [] => 0
  | d :: r => uptoBulk d + uptoBulkAll r
def uptoBulkEntries {H : Type} : List (Lit × DataW H) → Nat
  | [] => 0
  | x :: r => uptoBulkEntry x + uptoBulkEntries r
def uptoBulkEntry {H : Type} : Lit × DataW H → Nat
  | (.string bytes, d) => bytes.length + uptoBulk d + 1
  | (_, d) => uptoBulk d + 1
 end
def uptoSmall : (H : Type) → List (DataW H) → Bool := fun _ ds => decide (uptoBulkAll ds ≤ 1048576)
def OpenSpec.upto (s : _root_.Go.ChangeSpec) : _root_.Go.OpenSpec := { _root_.Go.OpenSpec.ofChange s with cond := some uptoSmall }

/-- 'laws.FnCountOrders', WHERE WHAT IT READS IS OF BULK AT MOST 1048576: true; the input reads as it did. -/
def fnCountOrdersUptoRow : OpenClaim := { program := "ytobkbbgllapcoac", sum := "37f63130c45c9f01be177c379b7a21354035921bafb9ca018824909f5b768a94", func := "loop.example/dualmodes/laws.FnCountOrders", spec := "fnCountOrders", unfollowed := true, recurses := true, apart := false, narrowed := true }
def FnCountOrdersUptoSaid : Prop := fnCountOrdersUptoRow.holds Try.pinned (OpenSpec.upto fnCountOrdersSpec)

/-- 'laws.FnAnyOrder', WHERE WHAT IT READS IS OF BULK AT MOST 1048576: true; the input reads as it did. -/
def fnAnyOrderUptoRow : OpenClaim := { program := "ytobkbbgllapcoac", sum := "37f63130c45c9f01be177c379b7a21354035921bafb9ca018824909f5b768a94", func := "loop.example/dualmodes/laws.FnAnyOrder", spec := "fnAnyOrder", unfollowed := true, recurses := true, apart := false, narrowed := true }
def FnAnyOrderUptoSaid : Prop := fnAnyOrderUptoRow.holds Try.pinned (OpenSpec.upto fnAnyOrderSpec)

/-- 'laws.FnAssignOrderOf', WHERE WHAT IT READS IS OF BULK AT MOST 1048576: true; the input reads as it did. -/
def fnAssignOrderOfUptoRow : OpenClaim := { program := "ytobkbbgllapcoac", sum := "37f63130c45c9f01be177c379b7a21354035921bafb9ca018824909f5b768a94", func := "loop.example/dualmodes/laws.FnAssignOrderOf", spec := "fnAssignOrderOf", unfollowed := true, recurses := true, apart := false, narrowed := true }
def FnAssignOrderOfUptoSaid : Prop := fnAssignOrderOfUptoRow.holds Try.pinned (OpenSpec.upto fnAssignOrderOfSpec)

/-- 'laws.FnAssignLess', WHERE WHAT IT READS IS OF BULK AT MOST 1048576: true; the input reads as it did. -/
def fnAssignLessUptoRow : OpenClaim := { program := "ytobkbbgllapcoac", sum := "37f63130c45c9f01be177c379b7a21354035921bafb9ca018824909f5b768a94", func := "loop.example/dualmodes/laws.FnAssignLess", spec := "fnAssignLess", unfollowed := true, recurses := true, apart := false, narrowed := true }
def FnAssignLessUptoSaid : Prop := fnAssignLessUptoRow.holds Try.pinned (OpenSpec.upto fnAssignLessSpec)

/-- 'laws.FnAssignLast', WHERE WHAT IT READS IS OF BULK AT MOST 1048576: true; the input reads as it did. -/
def fnAssignLastUptoRow : OpenClaim := { program := "ytobkbbgllapcoac", sum := "37f63130c45c9f01be177c379b7a21354035921bafb9ca018824909f5b768a94", func := "loop.example/dualmodes/laws.FnAssignLast", spec := "fnAssignLast", unfollowed := true, recurses := true, apart := false, narrowed := true }
def FnAssignLastUptoSaid : Prop := fnAssignLastUptoRow.holds Try.pinned (OpenSpec.upto fnAssignLastSpec)

/-- 'laws.FnLastHolds', WHERE WHAT IT READS IS OF BULK AT MOST 1048576: true; the input reads as it did. -/
def fnLastHoldsUptoRow : OpenClaim := { program := "ytobkbbgllapcoac", sum := "37f63130c45c9f01be177c379b7a21354035921bafb9ca018824909f5b768a94", func := "loop.example/dualmodes/laws.FnLastHolds", spec := "fnLastHolds", unfollowed := true, recurses := true, apart := false, narrowed := true }
def FnLastHoldsUptoSaid : Prop := fnLastHoldsUptoRow.holds Try.pinned (OpenSpec.upto fnLastHoldsSpec)

/-- 'laws.FnCountTurned', WHERE WHAT IT READS IS OF BULK AT MOST 1048576: true; the input reads as it did. -/
def fnCountTurnedUptoRow : OpenClaim := { program := "ytobkbbgllapcoac", sum := "37f63130c45c9f01be177c379b7a21354035921bafb9ca018824909f5b768a94", func := "loop.example/dualmodes/laws.FnCountTurned", spec := "fnCountTurned", unfollowed := true, recurses := true, apart := false, narrowed := true }
def FnCountTurnedUptoSaid : Prop := fnCountTurnedUptoRow.holds Try.pinned (OpenSpec.upto fnCountTurnedSpec)

/-- 'laws.FnAnyFirst', WHERE WHAT IT READS IS OF BULK AT MOST 1048576: true; the input reads as it did. -/
def fnAnyFirstUptoRow : OpenClaim := { program := "ytobkbbgllapcoac", sum := "37f63130c45c9f01be177c379b7a21354035921bafb9ca018824909f5b768a94", func := "loop.example/dualmodes/laws.FnAnyFirst", spec := "fnAnyFirst", unfollowed := true, recurses := true, apart := false, narrowed := true }
def FnAnyFirstUptoSaid : Prop := fnAnyFirstUptoRow.holds Try.pinned (OpenSpec.upto fnAnyFirstSpec)

/-- 'laws.FnCanLow', WHERE WHAT IT READS IS OF BULK AT MOST 1048576: true; the input reads as it did. -/
def fnCanLowUptoRow : OpenClaim := { program := "ytobkbbgllapcoac", sum := "37f63130c45c9f01be177c379b7a21354035921bafb9ca018824909f5b768a94", func := "loop.example/dualmodes/laws.FnCanLow", spec := "fnCanLow", unfollowed := true, recurses := true, apart := false, narrowed := true }
def FnCanLowUptoSaid : Prop := fnCanLowUptoRow.holds Try.pinned (OpenSpec.upto fnCanLowSpec)

/-- 'laws.FnExactCanBeLast', WHERE WHAT IT READS IS OF BULK AT MOST 1048576: true; the input reads as it did. -/
def fnExactCanBeLastUptoRow : OpenClaim := { program := "ytobkbbgllapcoac", sum := "37f63130c45c9f01be177c379b7a21354035921bafb9ca018824909f5b768a94", func := "loop.example/dualmodes/laws.FnExactCanBeLast", spec := "fnExactCanBeLast", unfollowed := true, recurses := true, apart := false, narrowed := true }
def FnExactCanBeLastUptoSaid : Prop := fnExactCanBeLastUptoRow.holds Try.pinned (OpenSpec.upto fnExactCanBeLastSpec)

/-- 'laws.FnExactAssignOrder', WHERE WHAT IT READS IS OF BULK AT MOST 1048576: true; the input reads as it did. -/
def fnExactAssignOrderUptoRow : OpenClaim := { program := "ytobkbbgllapcoac", sum := "37f63130c45c9f01be177c379b7a21354035921bafb9ca018824909f5b768a94", func := "loop.example/dualmodes/laws.FnExactAssignOrder", spec := "fnExactAssignOrder", unfollowed := true, recurses := true, apart := false, narrowed := true }
def FnExactAssignOrderUptoSaid : Prop := fnExactAssignOrderUptoRow.holds Try.pinned (OpenSpec.upto fnExactAssignOrderSpec)

/-- 'laws.FnExactAnyOrder', WHERE WHAT IT READS IS OF BULK AT MOST 1048576: true; the input reads as it did. -/
def fnExactAnyOrderUptoRow : OpenClaim := { program := "ytobkbbgllapcoac", sum := "37f63130c45c9f01be177c379b7a21354035921bafb9ca018824909f5b768a94", func := "loop.example/dualmodes/laws.FnExactAnyOrder", spec := "fnExactAnyOrder", unfollowed := true, recurses := true, apart := false, narrowed := true }
def FnExactAnyOrderUptoSaid : Prop := fnExactAnyOrderUptoRow.holds Try.pinned (OpenSpec.upto fnExactAnyOrderSpec)

/-- 'laws.FnExactCountOrders', WHERE WHAT IT READS IS OF BULK AT MOST 1048576: true; the input reads as it did. -/
def fnExactCountOrdersUptoRow : OpenClaim := { program := "ytobkbbgllapcoac", sum := "37f63130c45c9f01be177c379b7a21354035921bafb9ca018824909f5b768a94", func := "loop.example/dualmodes/laws.FnExactCountOrders", spec := "fnExactCountOrders", unfollowed := true, recurses := true, apart := false, narrowed := true }
def FnExactCountOrdersUptoSaid : Prop := fnExactCountOrdersUptoRow.holds Try.pinned (OpenSpec.upto fnExactCountOrdersSpec)

end Rows
end Go.Proofs.Ytobkbbgllapcoac
