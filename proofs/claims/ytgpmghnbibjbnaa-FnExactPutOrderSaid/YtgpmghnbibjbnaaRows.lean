/-
  No cell of these rows narrows 'for every input' (looked for: loops, veiled, ifaces, maps, wideKeys, modest, calm, conditions, laid).
  DERIVED. THE GIVEN ROWS OF THIS SEAT. 21 by the template 'for every input the law returns true; each argument reads behind the call as it read before'; 0 by the template 'total and deterministic' (their statements: YtgpmghnbibjbnaaTotals.lean).
  GIVEN WITH THE SEED: the statements are not yours to turn. If you find one false, say at which input.
  Laid BY PROGRAM, IN A SANDBOX (cutbox-rows.mjs): the forced cells as the released guide's own fill.sh prints them over the translation 106302b349216bfb… (all of the seat's roots in one cut). By AI agents, Wed Nov 11 2026. No macro, syntax, notation, axiom, sorry.
-/
import Derived.Test.YtgpmghnbibjbnaaChecked
import GoSem.Claim
import GoSem.ClaimJoined
import GoSem.ClaimMapViews
import Derived.JoinedTies
import Derived.KernelRfl
namespace Go.Proofs.Ytgpmghnbibjbnaa
/- THE CELL 'sum', in the pinned program and in every row, IS THE sha256 OF THE DUMP (.gsa) THAT YtgpmghnbibjbnaaProg.lean LOADS. Nothing in Lean hashes anything: it is a label: what it is worth is what the hold of that sum in a sandbox is worth. -/
noncomputable def Try.pinned : Pinned := { name := "ytgpmghnbibjbnaa", sum := "106302b349216bfb3fd0cff106d4a3c94f51b16e355eadf4f7d59e09a3a5ec1f", checked := Try.checked }
namespace Rows
def none {H : Type} : Left H := { results := [], args := [] }

/-- 'laws.FnAssignOrder': WHATEVER THE INPUT: true; the input reads as it did. -/
def fnAssignOrderSpec : ChangeSpec := { name := "fnAssignOrder", fn := fun _ => fun
  | [d] => { results := [.lit (.bool true)], args := [d] }
  | _ => none }
def fnAssignOrderRow : OpenClaim := { program := "ytgpmghnbibjbnaa", sum := "106302b349216bfb3fd0cff106d4a3c94f51b16e355eadf4f7d59e09a3a5ec1f", func := "loop.example/dualmodes/laws.FnAssignOrder", spec := "fnAssignOrder", unfollowed := true, recurses := true, apart := false }
def FnAssignOrderSaid : Prop := fnAssignOrderRow.holds Try.pinned (OpenSpec.ofChange fnAssignOrderSpec)

/-- ITS FALSE NEIGHBOUR: 'it returns false'. Refute it at one input. -/
def fnAssignOrderWrong : ChangeSpec := { name := "fnAssignOrder", fn := fun _ => fun
  | [d] => { results := [.lit (.bool false)], args := [d] }
  | _ => none }
def FnAssignOrderWrongFalsely : Prop := fnAssignOrderRow.holds Try.pinned (OpenSpec.ofChange fnAssignOrderWrong)

/-- 'laws.FnCanBeLast': WHATEVER THE INPUT: true; the input reads as it did. -/
def fnCanBeLastSpec : ChangeSpec := { name := "fnCanBeLast", fn := fun _ => fun
  | [d] => { results := [.lit (.bool true)], args := [d] }
  | _ => none }
def fnCanBeLastRow : OpenClaim := { program := "ytgpmghnbibjbnaa", sum := "106302b349216bfb3fd0cff106d4a3c94f51b16e355eadf4f7d59e09a3a5ec1f", func := "loop.example/dualmodes/laws.FnCanBeLast", spec := "fnCanBeLast", unfollowed := true, recurses := true, apart := false }
def FnCanBeLastSaid : Prop := fnCanBeLastRow.holds Try.pinned (OpenSpec.ofChange fnCanBeLastSpec)

/-- ITS FALSE NEIGHBOUR: 'it returns false'. Refute it at one input. -/
def fnCanBeLastWrong : ChangeSpec := { name := "fnCanBeLast", fn := fun _ => fun
  | [d] => { results := [.lit (.bool false)], args := [d] }
  | _ => none }
def FnCanBeLastWrongFalsely : Prop := fnCanBeLastRow.holds Try.pinned (OpenSpec.ofChange fnCanBeLastWrong)

/-- 'laws.FnPutOrder': WHATEVER THE INPUT: true; the input reads as it did. -/
def fnPutOrderSpec : ChangeSpec := { name := "fnPutOrder", fn := fun _ => fun
  | [d] => { results := [.lit (.bool true)], args := [d] }
  | _ => none }
def fnPutOrderRow : OpenClaim := { program := "ytgpmghnbibjbnaa", sum := "106302b349216bfb3fd0cff106d4a3c94f51b16e355eadf4f7d59e09a3a5ec1f", func := "loop.example/dualmodes/laws.FnPutOrder", spec := "fnPutOrder", apart := false }
def FnPutOrderSaid : Prop := fnPutOrderRow.holds Try.pinned (OpenSpec.ofChange fnPutOrderSpec)

/-- ITS FALSE NEIGHBOUR: 'it returns false'. Refute it at one input. -/
def fnPutOrderWrong : ChangeSpec := { name := "fnPutOrder", fn := fun _ => fun
  | [d] => { results := [.lit (.bool false)], args := [d] }
  | _ => none }
def FnPutOrderWrongFalsely : Prop := fnPutOrderRow.holds Try.pinned (OpenSpec.ofChange fnPutOrderWrong)

/-- 'laws.FnCountOrders': WHATEVER THE INPUT: true; the input reads as it did. -/
def fnCountOrdersSpec : ChangeSpec := { name := "fnCountOrders", fn := fun _ => fun
  | [d] => { results := [.lit (.bool true)], args := [d] }
  | _ => none }
def fnCountOrdersRow : OpenClaim := { program := "ytgpmghnbibjbnaa", sum := "106302b349216bfb3fd0cff106d4a3c94f51b16e355eadf4f7d59e09a3a5ec1f", func := "loop.example/dualmodes/laws.FnCountOrders", spec := "fnCountOrders", unfollowed := true, recurses := true, apart := false }
def FnCountOrdersSaid : Prop := fnCountOrdersRow.holds Try.pinned (OpenSpec.ofChange fnCountOrdersSpec)

/-- ITS FALSE NEIGHBOUR: 'it returns false'. Refute it at one input. -/
def fnCountOrdersWrong : ChangeSpec := { name := "fnCountOrders", fn := fun _ => fun
  | [d] => { results := [.lit (.bool false)], args := [d] }
  | _ => none }
def FnCountOrdersWrongFalsely : Prop := fnCountOrdersRow.holds Try.pinned (OpenSpec.ofChange fnCountOrdersWrong)

/-- 'laws.FnAnyOrder': WHATEVER THE INPUT: true; the input reads as it did. -/
def fnAnyOrderSpec : ChangeSpec := { name := "fnAnyOrder", fn := fun _ => fun
  | [d] => { results := [.lit (.bool true)], args := [d] }
  | _ => none }
def fnAnyOrderRow : OpenClaim := { program := "ytgpmghnbibjbnaa", sum := "106302b349216bfb3fd0cff106d4a3c94f51b16e355eadf4f7d59e09a3a5ec1f", func := "loop.example/dualmodes/laws.FnAnyOrder", spec := "fnAnyOrder", unfollowed := true, recurses := true, apart := false }
def FnAnyOrderSaid : Prop := fnAnyOrderRow.holds Try.pinned (OpenSpec.ofChange fnAnyOrderSpec)

/-- ITS FALSE NEIGHBOUR: 'it returns false'. Refute it at one input. -/
def fnAnyOrderWrong : ChangeSpec := { name := "fnAnyOrder", fn := fun _ => fun
  | [d] => { results := [.lit (.bool false)], args := [d] }
  | _ => none }
def FnAnyOrderWrongFalsely : Prop := fnAnyOrderRow.holds Try.pinned (OpenSpec.ofChange fnAnyOrderWrong)

/-- 'laws.FnOrderSelf': WHATEVER THE INPUT: true; the input reads as it did. -/
def fnOrderSelfSpec : ChangeSpec := { name := "fnOrderSelf", fn := fun _ => fun
  | [d] => { results := [.lit (.bool true)], args := [d] }
  | _ => none }
def fnOrderSelfRow : OpenClaim := { program := "ytgpmghnbibjbnaa", sum := "106302b349216bfb3fd0cff106d4a3c94f51b16e355eadf4f7d59e09a3a5ec1f", func := "loop.example/dualmodes/laws.FnOrderSelf", spec := "fnOrderSelf", apart := false }
def FnOrderSelfSaid : Prop := fnOrderSelfRow.holds Try.pinned (OpenSpec.ofChange fnOrderSelfSpec)

/-- ITS FALSE NEIGHBOUR: 'it returns false'. Refute it at one input. -/
def fnOrderSelfWrong : ChangeSpec := { name := "fnOrderSelf", fn := fun _ => fun
  | [d] => { results := [.lit (.bool false)], args := [d] }
  | _ => none }
def FnOrderSelfWrongFalsely : Prop := fnOrderSelfRow.holds Try.pinned (OpenSpec.ofChange fnOrderSelfWrong)

/-- 'laws.FnOrderBack': WHATEVER THE INPUT: true; the input reads as it did. -/
def fnOrderBackSpec : ChangeSpec := { name := "fnOrderBack", fn := fun _ => fun
  | [d] => { results := [.lit (.bool true)], args := [d] }
  | _ => none }
def fnOrderBackRow : OpenClaim := { program := "ytgpmghnbibjbnaa", sum := "106302b349216bfb3fd0cff106d4a3c94f51b16e355eadf4f7d59e09a3a5ec1f", func := "loop.example/dualmodes/laws.FnOrderBack", spec := "fnOrderBack", apart := false }
def FnOrderBackSaid : Prop := fnOrderBackRow.holds Try.pinned (OpenSpec.ofChange fnOrderBackSpec)

/-- ITS FALSE NEIGHBOUR: 'it returns false'. Refute it at one input. -/
def fnOrderBackWrong : ChangeSpec := { name := "fnOrderBack", fn := fun _ => fun
  | [d] => { results := [.lit (.bool false)], args := [d] }
  | _ => none }
def FnOrderBackWrongFalsely : Prop := fnOrderBackRow.holds Try.pinned (OpenSpec.ofChange fnOrderBackWrong)

/-- 'laws.FnOrderTwice': WHATEVER THE INPUT: true; the input reads as it did. -/
def fnOrderTwiceSpec : ChangeSpec := { name := "fnOrderTwice", fn := fun _ => fun
  | [d] => { results := [.lit (.bool true)], args := [d] }
  | _ => none }
def fnOrderTwiceRow : OpenClaim := { program := "ytgpmghnbibjbnaa", sum := "106302b349216bfb3fd0cff106d4a3c94f51b16e355eadf4f7d59e09a3a5ec1f", func := "loop.example/dualmodes/laws.FnOrderTwice", spec := "fnOrderTwice", apart := false }
def FnOrderTwiceSaid : Prop := fnOrderTwiceRow.holds Try.pinned (OpenSpec.ofChange fnOrderTwiceSpec)

/-- ITS FALSE NEIGHBOUR: 'it returns false'. Refute it at one input. -/
def fnOrderTwiceWrong : ChangeSpec := { name := "fnOrderTwice", fn := fun _ => fun
  | [d] => { results := [.lit (.bool false)], args := [d] }
  | _ => none }
def FnOrderTwiceWrongFalsely : Prop := fnOrderTwiceRow.holds Try.pinned (OpenSpec.ofChange fnOrderTwiceWrong)

/-- 'laws.FnAssignOrderOf': WHATEVER THE INPUT: true; the input reads as it did. -/
def fnAssignOrderOfSpec : ChangeSpec := { name := "fnAssignOrderOf", fn := fun _ => fun
  | [d] => { results := [.lit (.bool true)], args := [d] }
  | _ => none }
def fnAssignOrderOfRow : OpenClaim := { program := "ytgpmghnbibjbnaa", sum := "106302b349216bfb3fd0cff106d4a3c94f51b16e355eadf4f7d59e09a3a5ec1f", func := "loop.example/dualmodes/laws.FnAssignOrderOf", spec := "fnAssignOrderOf", unfollowed := true, recurses := true, apart := false }
def FnAssignOrderOfSaid : Prop := fnAssignOrderOfRow.holds Try.pinned (OpenSpec.ofChange fnAssignOrderOfSpec)

/-- ITS FALSE NEIGHBOUR: 'it returns false'. Refute it at one input. -/
def fnAssignOrderOfWrong : ChangeSpec := { name := "fnAssignOrderOf", fn := fun _ => fun
  | [d] => { results := [.lit (.bool false)], args := [d] }
  | _ => none }
def FnAssignOrderOfWrongFalsely : Prop := fnAssignOrderOfRow.holds Try.pinned (OpenSpec.ofChange fnAssignOrderOfWrong)

/-- 'laws.FnAssignLess': WHATEVER THE INPUT: true; the input reads as it did. -/
def fnAssignLessSpec : ChangeSpec := { name := "fnAssignLess", fn := fun _ => fun
  | [d] => { results := [.lit (.bool true)], args := [d] }
  | _ => none }
def fnAssignLessRow : OpenClaim := { program := "ytgpmghnbibjbnaa", sum := "106302b349216bfb3fd0cff106d4a3c94f51b16e355eadf4f7d59e09a3a5ec1f", func := "loop.example/dualmodes/laws.FnAssignLess", spec := "fnAssignLess", unfollowed := true, recurses := true, apart := false }
def FnAssignLessSaid : Prop := fnAssignLessRow.holds Try.pinned (OpenSpec.ofChange fnAssignLessSpec)

/-- ITS FALSE NEIGHBOUR: 'it returns false'. Refute it at one input. -/
def fnAssignLessWrong : ChangeSpec := { name := "fnAssignLess", fn := fun _ => fun
  | [d] => { results := [.lit (.bool false)], args := [d] }
  | _ => none }
def FnAssignLessWrongFalsely : Prop := fnAssignLessRow.holds Try.pinned (OpenSpec.ofChange fnAssignLessWrong)

/-- 'laws.FnAssignLast': WHATEVER THE INPUT: true; the input reads as it did. -/
def fnAssignLastSpec : ChangeSpec := { name := "fnAssignLast", fn := fun _ => fun
  | [d] => { results := [.lit (.bool true)], args := [d] }
  | _ => none }
def fnAssignLastRow : OpenClaim := { program := "ytgpmghnbibjbnaa", sum := "106302b349216bfb3fd0cff106d4a3c94f51b16e355eadf4f7d59e09a3a5ec1f", func := "loop.example/dualmodes/laws.FnAssignLast", spec := "fnAssignLast", unfollowed := true, recurses := true, apart := false }
def FnAssignLastSaid : Prop := fnAssignLastRow.holds Try.pinned (OpenSpec.ofChange fnAssignLastSpec)

/-- ITS FALSE NEIGHBOUR: 'it returns false'. Refute it at one input. -/
def fnAssignLastWrong : ChangeSpec := { name := "fnAssignLast", fn := fun _ => fun
  | [d] => { results := [.lit (.bool false)], args := [d] }
  | _ => none }
def FnAssignLastWrongFalsely : Prop := fnAssignLastRow.holds Try.pinned (OpenSpec.ofChange fnAssignLastWrong)

/-- 'laws.FnLastHolds': WHATEVER THE INPUT: true; the input reads as it did. -/
def fnLastHoldsSpec : ChangeSpec := { name := "fnLastHolds", fn := fun _ => fun
  | [d] => { results := [.lit (.bool true)], args := [d] }
  | _ => none }
def fnLastHoldsRow : OpenClaim := { program := "ytgpmghnbibjbnaa", sum := "106302b349216bfb3fd0cff106d4a3c94f51b16e355eadf4f7d59e09a3a5ec1f", func := "loop.example/dualmodes/laws.FnLastHolds", spec := "fnLastHolds", unfollowed := true, recurses := true, apart := false }
def FnLastHoldsSaid : Prop := fnLastHoldsRow.holds Try.pinned (OpenSpec.ofChange fnLastHoldsSpec)

/-- ITS FALSE NEIGHBOUR: 'it returns false'. Refute it at one input. -/
def fnLastHoldsWrong : ChangeSpec := { name := "fnLastHolds", fn := fun _ => fun
  | [d] => { results := [.lit (.bool false)], args := [d] }
  | _ => none }
def FnLastHoldsWrongFalsely : Prop := fnLastHoldsRow.holds Try.pinned (OpenSpec.ofChange fnLastHoldsWrong)

/-- 'laws.FnCountTurned': WHATEVER THE INPUT: true; the input reads as it did. -/
def fnCountTurnedSpec : ChangeSpec := { name := "fnCountTurned", fn := fun _ => fun
  | [d] => { results := [.lit (.bool true)], args := [d] }
  | _ => none }
def fnCountTurnedRow : OpenClaim := { program := "ytgpmghnbibjbnaa", sum := "106302b349216bfb3fd0cff106d4a3c94f51b16e355eadf4f7d59e09a3a5ec1f", func := "loop.example/dualmodes/laws.FnCountTurned", spec := "fnCountTurned", unfollowed := true, recurses := true, apart := false }
def FnCountTurnedSaid : Prop := fnCountTurnedRow.holds Try.pinned (OpenSpec.ofChange fnCountTurnedSpec)

/-- ITS FALSE NEIGHBOUR: 'it returns false'. Refute it at one input. -/
def fnCountTurnedWrong : ChangeSpec := { name := "fnCountTurned", fn := fun _ => fun
  | [d] => { results := [.lit (.bool false)], args := [d] }
  | _ => none }
def FnCountTurnedWrongFalsely : Prop := fnCountTurnedRow.holds Try.pinned (OpenSpec.ofChange fnCountTurnedWrong)

/-- 'laws.FnAnyFirst': WHATEVER THE INPUT: true; the input reads as it did. -/
def fnAnyFirstSpec : ChangeSpec := { name := "fnAnyFirst", fn := fun _ => fun
  | [d] => { results := [.lit (.bool true)], args := [d] }
  | _ => none }
def fnAnyFirstRow : OpenClaim := { program := "ytgpmghnbibjbnaa", sum := "106302b349216bfb3fd0cff106d4a3c94f51b16e355eadf4f7d59e09a3a5ec1f", func := "loop.example/dualmodes/laws.FnAnyFirst", spec := "fnAnyFirst", unfollowed := true, recurses := true, apart := false }
def FnAnyFirstSaid : Prop := fnAnyFirstRow.holds Try.pinned (OpenSpec.ofChange fnAnyFirstSpec)

/-- ITS FALSE NEIGHBOUR: 'it returns false'. Refute it at one input. -/
def fnAnyFirstWrong : ChangeSpec := { name := "fnAnyFirst", fn := fun _ => fun
  | [d] => { results := [.lit (.bool false)], args := [d] }
  | _ => none }
def FnAnyFirstWrongFalsely : Prop := fnAnyFirstRow.holds Try.pinned (OpenSpec.ofChange fnAnyFirstWrong)

/-- 'laws.FnCanLow': WHATEVER THE INPUT: true; the input reads as it did. -/
def fnCanLowSpec : ChangeSpec := { name := "fnCanLow", fn := fun _ => fun
  | [d] => { results := [.lit (.bool true)], args := [d] }
  | _ => none }
def fnCanLowRow : OpenClaim := { program := "ytgpmghnbibjbnaa", sum := "106302b349216bfb3fd0cff106d4a3c94f51b16e355eadf4f7d59e09a3a5ec1f", func := "loop.example/dualmodes/laws.FnCanLow", spec := "fnCanLow", unfollowed := true, recurses := true, apart := false }
def FnCanLowSaid : Prop := fnCanLowRow.holds Try.pinned (OpenSpec.ofChange fnCanLowSpec)

/-- ITS FALSE NEIGHBOUR: 'it returns false'. Refute it at one input. -/
def fnCanLowWrong : ChangeSpec := { name := "fnCanLow", fn := fun _ => fun
  | [d] => { results := [.lit (.bool false)], args := [d] }
  | _ => none }
def FnCanLowWrongFalsely : Prop := fnCanLowRow.holds Try.pinned (OpenSpec.ofChange fnCanLowWrong)

/-- 'laws.FnExactOrderValid': WHATEVER THE INPUT: true; the input reads as it did. -/
def fnExactOrderValidSpec : ChangeSpec := { name := "fnExactOrderValid", fn := fun _ => fun
  | [d1, d2] => { results := [.lit (.bool true)], args := [d1, d2] }
  | _ => none }
def fnExactOrderValidRow : OpenClaim := { program := "ytgpmghnbibjbnaa", sum := "106302b349216bfb3fd0cff106d4a3c94f51b16e355eadf4f7d59e09a3a5ec1f", func := "loop.example/dualmodes/laws.FnExactOrderValid", spec := "fnExactOrderValid", apart := false }
def FnExactOrderValidSaid : Prop := fnExactOrderValidRow.holds Try.pinned (OpenSpec.ofChange fnExactOrderValidSpec)

/-- ITS FALSE NEIGHBOUR: 'it returns false'. Refute it at one input. -/
def fnExactOrderValidWrong : ChangeSpec := { name := "fnExactOrderValid", fn := fun _ => fun
  | [d1, d2] => { results := [.lit (.bool false)], args := [d1, d2] }
  | _ => none }
def FnExactOrderValidWrongFalsely : Prop := fnExactOrderValidRow.holds Try.pinned (OpenSpec.ofChange fnExactOrderValidWrong)

/-- 'laws.FnExactPutOrder': WHATEVER THE INPUT: true; the input reads as it did. -/
def fnExactPutOrderSpec : ChangeSpec := { name := "fnExactPutOrder", fn := fun _ => fun
  | [d1, d2] => { results := [.lit (.bool true)], args := [d1, d2] }
  | _ => none }
def fnExactPutOrderRow : OpenClaim := { program := "ytgpmghnbibjbnaa", sum := "106302b349216bfb3fd0cff106d4a3c94f51b16e355eadf4f7d59e09a3a5ec1f", func := "loop.example/dualmodes/laws.FnExactPutOrder", spec := "fnExactPutOrder", apart := false }
def FnExactPutOrderSaid : Prop := fnExactPutOrderRow.holds Try.pinned (OpenSpec.ofChange fnExactPutOrderSpec)

/-- ITS FALSE NEIGHBOUR: 'it returns false'. Refute it at one input. -/
def fnExactPutOrderWrong : ChangeSpec := { name := "fnExactPutOrder", fn := fun _ => fun
  | [d1, d2] => { results := [.lit (.bool false)], args := [d1, d2] }
  | _ => none }
def FnExactPutOrderWrongFalsely : Prop := fnExactPutOrderRow.holds Try.pinned (OpenSpec.ofChange fnExactPutOrderWrong)

/-- 'laws.FnExactCanBeLast': WHATEVER THE INPUT: true; the input reads as it did. -/
def fnExactCanBeLastSpec : ChangeSpec := { name := "fnExactCanBeLast", fn := fun _ => fun
  | [d1, d2] => { results := [.lit (.bool true)], args := [d1, d2] }
  | _ => none }
def fnExactCanBeLastRow : OpenClaim := { program := "ytgpmghnbibjbnaa", sum := "106302b349216bfb3fd0cff106d4a3c94f51b16e355eadf4f7d59e09a3a5ec1f", func := "loop.example/dualmodes/laws.FnExactCanBeLast", spec := "fnExactCanBeLast", unfollowed := true, recurses := true, apart := false }
def FnExactCanBeLastSaid : Prop := fnExactCanBeLastRow.holds Try.pinned (OpenSpec.ofChange fnExactCanBeLastSpec)

/-- ITS FALSE NEIGHBOUR: 'it returns false'. Refute it at one input. -/
def fnExactCanBeLastWrong : ChangeSpec := { name := "fnExactCanBeLast", fn := fun _ => fun
  | [d1, d2] => { results := [.lit (.bool false)], args := [d1, d2] }
  | _ => none }
def FnExactCanBeLastWrongFalsely : Prop := fnExactCanBeLastRow.holds Try.pinned (OpenSpec.ofChange fnExactCanBeLastWrong)

/-- 'laws.FnExactAssignOrder': WHATEVER THE INPUT: true; the input reads as it did. -/
def fnExactAssignOrderSpec : ChangeSpec := { name := "fnExactAssignOrder", fn := fun _ => fun
  | [d] => { results := [.lit (.bool true)], args := [d] }
  | _ => none }
def fnExactAssignOrderRow : OpenClaim := { program := "ytgpmghnbibjbnaa", sum := "106302b349216bfb3fd0cff106d4a3c94f51b16e355eadf4f7d59e09a3a5ec1f", func := "loop.example/dualmodes/laws.FnExactAssignOrder", spec := "fnExactAssignOrder", unfollowed := true, recurses := true, apart := false }
def FnExactAssignOrderSaid : Prop := fnExactAssignOrderRow.holds Try.pinned (OpenSpec.ofChange fnExactAssignOrderSpec)

/-- ITS FALSE NEIGHBOUR: 'it returns false'. Refute it at one input. -/
def fnExactAssignOrderWrong : ChangeSpec := { name := "fnExactAssignOrder", fn := fun _ => fun
  | [d] => { results := [.lit (.bool false)], args := [d] }
  | _ => none }
def FnExactAssignOrderWrongFalsely : Prop := fnExactAssignOrderRow.holds Try.pinned (OpenSpec.ofChange fnExactAssignOrderWrong)

/-- 'laws.FnExactAnyOrder': WHATEVER THE INPUT: true; the input reads as it did. -/
def fnExactAnyOrderSpec : ChangeSpec := { name := "fnExactAnyOrder", fn := fun _ => fun
  | [d] => { results := [.lit (.bool true)], args := [d] }
  | _ => none }
def fnExactAnyOrderRow : OpenClaim := { program := "ytgpmghnbibjbnaa", sum := "106302b349216bfb3fd0cff106d4a3c94f51b16e355eadf4f7d59e09a3a5ec1f", func := "loop.example/dualmodes/laws.FnExactAnyOrder", spec := "fnExactAnyOrder", unfollowed := true, recurses := true, apart := false }
def FnExactAnyOrderSaid : Prop := fnExactAnyOrderRow.holds Try.pinned (OpenSpec.ofChange fnExactAnyOrderSpec)

/-- ITS FALSE NEIGHBOUR: 'it returns false'. Refute it at one input. -/
def fnExactAnyOrderWrong : ChangeSpec := { name := "fnExactAnyOrder", fn := fun _ => fun
  | [d] => { results := [.lit (.bool false)], args := [d] }
  | _ => none }
def FnExactAnyOrderWrongFalsely : Prop := fnExactAnyOrderRow.holds Try.pinned (OpenSpec.ofChange fnExactAnyOrderWrong)

/-- 'laws.FnExactCountOrders': WHATEVER THE INPUT: true; the input reads as it did. -/
def fnExactCountOrdersSpec : ChangeSpec := { name := "fnExactCountOrders", fn := fun _ => fun
  | [d] => { results := [.lit (.bool true)], args := [d] }
  | _ => none }
def fnExactCountOrdersRow : OpenClaim := { program := "ytgpmghnbibjbnaa", sum := "106302b349216bfb3fd0cff106d4a3c94f51b16e355eadf4f7d59e09a3a5ec1f", func := "loop.example/dualmodes/laws.FnExactCountOrders", spec := "fnExactCountOrders", unfollowed := true, recurses := true, apart := false }
def FnExactCountOrdersSaid : Prop := fnExactCountOrdersRow.holds Try.pinned (OpenSpec.ofChange fnExactCountOrdersSpec)

/-- ITS FALSE NEIGHBOUR: 'it returns false'. Refute it at one input. -/
def fnExactCountOrdersWrong : ChangeSpec := { name := "fnExactCountOrders", fn := fun _ => fun
  | [d] => { results := [.lit (.bool false)], args := [d] }
  | _ => none }
def FnExactCountOrdersWrongFalsely : Prop := fnExactCountOrdersRow.holds Try.pinned (OpenSpec.ofChange fnExactCountOrdersWrong)

/- THE SECOND FORM. 'bulk': how many values and letters a reading holds, each counted each time it is reached (what is shared counts as often as it is met; a slice's spare places count too). A statement '..UptoSaid' is the law's where the arguments, and the package variables that the reading takes, are together of bulk at most 1048576: NARROWER than '..Said'. Prove '..Said' where nothing that the law and all that it calls make is longer than what came in: it says more and counts as full. Else prove '..UptoSaid'. A law counts once. -/
mutual
def uptoBulk {H : Type} : DataW H → Nat
  | .lit (.string bytes) => bytes.length + 1
  | .lit _ => 1
  | .nil => 1
  | .ptr d => uptoBulk d + 1
  | .slice elems spare => uptoBulkAll elems + uptoBulkAll spare + 1
  | .agg parts => uptoBulkAll parts + 1
  | .iface _ d => uptoBulk d + 1
  | .map entries => uptoBulkEntries entries + 1
  | .held _ => 1
def uptoBulkAll {H : Type} : List (DataW H) → Nat
  | [] => 0
  | d :: r => uptoBulk d + uptoBulkAll r
def uptoBulkEntries {H : Type} : List (Lit × DataW H) → Nat
  | [] => 0
  | x :: r => uptoBulkEntry x + uptoBulkEntries r
def uptoBulkEntry {H : Type} : Lit × DataW H → Nat
  | (.string bytes, d) => bytes.length + uptoBulk d + 1
  | (_, d) => uptoBulk d + 1
 end
def uptoSmall : (H : Type) → List (DataW H) → Bool := fun _ ds => decide (uptoBulkAll ds ≤ 1048576)
def OpenSpec.upto (s : _root_.Go.ChangeSpec) : _root_.Go.OpenSpec := { _root_.Go.OpenSpec.ofChange s with cond := some uptoSmall }

/-- 'laws.FnAssignOrder', WHERE WHAT IT READS IS OF BULK AT MOST 1048576: true; the input reads as it did. -/
def fnAssignOrderUptoRow : OpenClaim := { program := "ytgpmghnbibjbnaa", sum := "106302b349216bfb3fd0cff106d4a3c94f51b16e355eadf4f7d59e09a3a5ec1f", func := "loop.example/dualmodes/laws.FnAssignOrder", spec := "fnAssignOrder", unfollowed := true, recurses := true, apart := false, narrowed := true }
def FnAssignOrderUptoSaid : Prop := fnAssignOrderUptoRow.holds Try.pinned (OpenSpec.upto fnAssignOrderSpec)

/-- 'laws.FnCanBeLast', WHERE WHAT IT READS IS OF BULK AT MOST 1048576: true; the input reads as it did. -/
def fnCanBeLastUptoRow : OpenClaim := { program := "ytgpmghnbibjbnaa", sum := "106302b349216bfb3fd0cff106d4a3c94f51b16e355eadf4f7d59e09a3a5ec1f", func := "loop.example/dualmodes/laws.FnCanBeLast", spec := "fnCanBeLast", unfollowed := true, recurses := true, apart := false, narrowed := true }
def FnCanBeLastUptoSaid : Prop := fnCanBeLastUptoRow.holds Try.pinned (OpenSpec.upto fnCanBeLastSpec)

/-- 'laws.FnPutOrder', WHERE WHAT IT READS IS OF BULK AT MOST 1048576: true; the input reads as it did. -/
def fnPutOrderUptoRow : OpenClaim := { program := "ytgpmghnbibjbnaa", sum := "106302b349216bfb3fd0cff106d4a3c94f51b16e355eadf4f7d59e09a3a5ec1f", func := "loop.example/dualmodes/laws.FnPutOrder", spec := "fnPutOrder", apart := false, narrowed := true }
def FnPutOrderUptoSaid : Prop := fnPutOrderUptoRow.holds Try.pinned (OpenSpec.upto fnPutOrderSpec)

/-- 'laws.FnCountOrders', WHERE WHAT IT READS IS OF BULK AT MOST 1048576: true; the input reads as it did. -/
def fnCountOrdersUptoRow : OpenClaim := { program := "ytgpmghnbibjbnaa", sum := "106302b349216bfb3fd0cff106d4a3c94f51b16e355eadf4f7d59e09a3a5ec1f", func := "loop.example/dualmodes/laws.FnCountOrders", spec := "fnCountOrders", unfollowed := true, recurses := true, apart := false, narrowed := true }
def FnCountOrdersUptoSaid : Prop := fnCountOrdersUptoRow.holds Try.pinned (OpenSpec.upto fnCountOrdersSpec)

/-- 'laws.FnAnyOrder', WHERE WHAT IT READS IS OF BULK AT MOST 1048576: true; the input reads as it did. -/
def fnAnyOrderUptoRow : OpenClaim := { program := "ytgpmghnbibjbnaa", sum := "106302b349216bfb3fd0cff106d4a3c94f51b16e355eadf4f7d59e09a3a5ec1f", func := "loop.example/dualmodes/laws.FnAnyOrder", spec := "fnAnyOrder", unfollowed := true, recurses := true, apart := false, narrowed := true }
def FnAnyOrderUptoSaid : Prop := fnAnyOrderUptoRow.holds Try.pinned (OpenSpec.upto fnAnyOrderSpec)

/-- 'laws.FnOrderSelf', WHERE WHAT IT READS IS OF BULK AT MOST 1048576: true; the input reads as it did. -/
def fnOrderSelfUptoRow : OpenClaim := { program := "ytgpmghnbibjbnaa", sum := "106302b349216bfb3fd0cff106d4a3c94f51b16e355eadf4f7d59e09a3a5ec1f", func := "loop.example/dualmodes/laws.FnOrderSelf", spec := "fnOrderSelf", apart := false, narrowed := true }
def FnOrderSelfUptoSaid : Prop := fnOrderSelfUptoRow.holds Try.pinned (OpenSpec.upto fnOrderSelfSpec)

/-- 'laws.FnOrderBack', WHERE WHAT IT READS IS OF BULK AT MOST 1048576: true; the input reads as it did. -/
def fnOrderBackUptoRow : OpenClaim := { program := "ytgpmghnbibjbnaa", sum := "106302b349216bfb3fd0cff106d4a3c94f51b16e355eadf4f7d59e09a3a5ec1f", func := "loop.example/dualmodes/laws.FnOrderBack", spec := "fnOrderBack", apart := false, narrowed := true }
def FnOrderBackUptoSaid : Prop := fnOrderBackUptoRow.holds Try.pinned (OpenSpec.upto fnOrderBackSpec)

/-- 'laws.FnOrderTwice', WHERE WHAT IT READS IS OF BULK AT MOST 1048576: true; the input reads as it did. -/
def fnOrderTwiceUptoRow : OpenClaim := { program := "ytgpmghnbibjbnaa", sum := "106302b349216bfb3fd0cff106d4a3c94f51b16e355eadf4f7d59e09a3a5ec1f", func := "loop.example/dualmodes/laws.FnOrderTwice", spec := "fnOrderTwice", apart := false, narrowed := true }
def FnOrderTwiceUptoSaid : Prop := fnOrderTwiceUptoRow.holds Try.pinned (OpenSpec.upto fnOrderTwiceSpec)

/-- 'laws.FnAssignOrderOf', WHERE WHAT IT READS IS OF BULK AT MOST 1048576: true; the input reads as it did. -/
def fnAssignOrderOfUptoRow : OpenClaim := { program := "ytgpmghnbibjbnaa", sum := "106302b349216bfb3fd0cff106d4a3c94f51b16e355eadf4f7d59e09a3a5ec1f", func := "loop.example/dualmodes/laws.FnAssignOrderOf", spec := "fnAssignOrderOf", unfollowed := true, recurses := true, apart := false, narrowed := true }
def FnAssignOrderOfUptoSaid : Prop := fnAssignOrderOfUptoRow.holds Try.pinned (OpenSpec.upto fnAssignOrderOfSpec)

/-- 'laws.FnAssignLess', WHERE WHAT IT READS IS OF BULK AT MOST 1048576: true; the input reads as it did. -/
def fnAssignLessUptoRow : OpenClaim := { program := "ytgpmghnbibjbnaa", sum := "106302b349216bfb3fd0cff106d4a3c94f51b16e355eadf4f7d59e09a3a5ec1f", func := "loop.example/dualmodes/laws.FnAssignLess", spec := "fnAssignLess", unfollowed := true, recurses := true, apart := false, narrowed := true }
def FnAssignLessUptoSaid : Prop := fnAssignLessUptoRow.holds Try.pinned (OpenSpec.upto fnAssignLessSpec)

/-- 'laws.FnAssignLast', WHERE WHAT IT READS IS OF BULK AT MOST 1048576: true; the input reads as it did. -/
def fnAssignLastUptoRow : OpenClaim := { program := "ytgpmghnbibjbnaa", sum := "106302b349216bfb3fd0cff106d4a3c94f51b16e355eadf4f7d59e09a3a5ec1f", func := "loop.example/dualmodes/laws.FnAssignLast", spec := "fnAssignLast", unfollowed := true, recurses := true, apart := false, narrowed := true }
def FnAssignLastUptoSaid : Prop := fnAssignLastUptoRow.holds Try.pinned (OpenSpec.upto fnAssignLastSpec)

/-- 'laws.FnLastHolds', WHERE WHAT IT READS IS OF BULK AT MOST 1048576: true; the input reads as it did. -/
def fnLastHoldsUptoRow : OpenClaim := { program := "ytgpmghnbibjbnaa", sum := "106302b349216bfb3fd0cff106d4a3c94f51b16e355eadf4f7d59e09a3a5ec1f", func := "loop.example/dualmodes/laws.FnLastHolds", spec := "fnLastHolds", unfollowed := true, recurses := true, apart := false, narrowed := true }
def FnLastHoldsUptoSaid : Prop := fnLastHoldsUptoRow.holds Try.pinned (OpenSpec.upto fnLastHoldsSpec)

/-- 'laws.FnCountTurned', WHERE WHAT IT READS IS OF BULK AT MOST 1048576: true; the input reads as it did. -/
def fnCountTurnedUptoRow : OpenClaim := { program := "ytgpmghnbibjbnaa", sum := "106302b349216bfb3fd0cff106d4a3c94f51b16e355eadf4f7d59e09a3a5ec1f", func := "loop.example/dualmodes/laws.FnCountTurned", spec := "fnCountTurned", unfollowed := true, recurses := true, apart := false, narrowed := true }
def FnCountTurnedUptoSaid : Prop := fnCountTurnedUptoRow.holds Try.pinned (OpenSpec.upto fnCountTurnedSpec)

/-- 'laws.FnAnyFirst', WHERE WHAT IT READS IS OF BULK AT MOST 1048576: true; the input reads as it did. -/
def fnAnyFirstUptoRow : OpenClaim := { program := "ytgpmghnbibjbnaa", sum := "106302b349216bfb3fd0cff106d4a3c94f51b16e355eadf4f7d59e09a3a5ec1f", func := "loop.example/dualmodes/laws.FnAnyFirst", spec := "fnAnyFirst", unfollowed := true, recurses := true, apart := false, narrowed := true }
def FnAnyFirstUptoSaid : Prop := fnAnyFirstUptoRow.holds Try.pinned (OpenSpec.upto fnAnyFirstSpec)

/-- 'laws.FnCanLow', WHERE WHAT IT READS IS OF BULK AT MOST 1048576: true; the input reads as it did. -/
def fnCanLowUptoRow : OpenClaim := { program := "ytgpmghnbibjbnaa", sum := "106302b349216bfb3fd0cff106d4a3c94f51b16e355eadf4f7d59e09a3a5ec1f", func := "loop.example/dualmodes/laws.FnCanLow", spec := "fnCanLow", unfollowed := true, recurses := true, apart := false, narrowed := true }
def FnCanLowUptoSaid : Prop := fnCanLowUptoRow.holds Try.pinned (OpenSpec.upto fnCanLowSpec)

/-- 'laws.FnExactOrderValid', WHERE WHAT IT READS IS OF BULK AT MOST 1048576: true; the input reads as it did. -/
def fnExactOrderValidUptoRow : OpenClaim := { program := "ytgpmghnbibjbnaa", sum := "106302b349216bfb3fd0cff106d4a3c94f51b16e355eadf4f7d59e09a3a5ec1f", func := "loop.example/dualmodes/laws.FnExactOrderValid", spec := "fnExactOrderValid", apart := false, narrowed := true }
def FnExactOrderValidUptoSaid : Prop := fnExactOrderValidUptoRow.holds Try.pinned (OpenSpec.upto fnExactOrderValidSpec)

/-- 'laws.FnExactPutOrder', WHERE WHAT IT READS IS OF BULK AT MOST 1048576: true; the input reads as it did. -/
def fnExactPutOrderUptoRow : OpenClaim := { program := "ytgpmghnbibjbnaa", sum := "106302b349216bfb3fd0cff106d4a3c94f51b16e355eadf4f7d59e09a3a5ec1f", func := "loop.example/dualmodes/laws.FnExactPutOrder", spec := "fnExactPutOrder", apart := false, narrowed := true }
def FnExactPutOrderUptoSaid : Prop := fnExactPutOrderUptoRow.holds Try.pinned (OpenSpec.upto fnExactPutOrderSpec)

/-- 'laws.FnExactCanBeLast', WHERE WHAT IT READS IS OF BULK AT MOST 1048576: true; the input reads as it did. -/
def fnExactCanBeLastUptoRow : OpenClaim := { program := "ytgpmghnbibjbnaa", sum := "106302b349216bfb3fd0cff106d4a3c94f51b16e355eadf4f7d59e09a3a5ec1f", func := "loop.example/dualmodes/laws.FnExactCanBeLast", spec := "fnExactCanBeLast", unfollowed := true, recurses := true, apart := false, narrowed := true }
def FnExactCanBeLastUptoSaid : Prop := fnExactCanBeLastUptoRow.holds Try.pinned (OpenSpec.upto fnExactCanBeLastSpec)

/-- 'laws.FnExactAssignOrder', WHERE WHAT IT READS IS OF BULK AT MOST 1048576: true; the input reads as it did. -/
def fnExactAssignOrderUptoRow : OpenClaim := { program := "ytgpmghnbibjbnaa", sum := "106302b349216bfb3fd0cff106d4a3c94f51b16e355eadf4f7d59e09a3a5ec1f", func := "loop.example/dualmodes/laws.FnExactAssignOrder", spec := "fnExactAssignOrder", unfollowed := true, recurses := true, apart := false, narrowed := true }
def FnExactAssignOrderUptoSaid : Prop := fnExactAssignOrderUptoRow.holds Try.pinned (OpenSpec.upto fnExactAssignOrderSpec)

/-- 'laws.FnExactAnyOrder', WHERE WHAT IT READS IS OF BULK AT MOST 1048576: true; the input reads as it did. -/
def fnExactAnyOrderUptoRow : OpenClaim := { program := "ytgpmghnbibjbnaa", sum := "106302b349216bfb3fd0cff106d4a3c94f51b16e355eadf4f7d59e09a3a5ec1f", func := "loop.example/dualmodes/laws.FnExactAnyOrder", spec := "fnExactAnyOrder", unfollowed := true, recurses := true, apart := false, narrowed := true }
def FnExactAnyOrderUptoSaid : Prop := fnExactAnyOrderUptoRow.holds Try.pinned (OpenSpec.upto fnExactAnyOrderSpec)

/-- 'laws.FnExactCountOrders', WHERE WHAT IT READS IS OF BULK AT MOST 1048576: true; the input reads as it did. -/
def fnExactCountOrdersUptoRow : OpenClaim := { program := "ytgpmghnbibjbnaa", sum := "106302b349216bfb3fd0cff106d4a3c94f51b16e355eadf4f7d59e09a3a5ec1f", func := "loop.example/dualmodes/laws.FnExactCountOrders", spec := "fnExactCountOrders", unfollowed := true, recurses := true, apart := false, narrowed := true }
def FnExactCountOrdersUptoSaid : Prop := fnExactCountOrdersUptoRow.holds Try.pinned (OpenSpec.upto fnExactCountOrdersSpec)

end Rows
end Go.Proofs.Ytgpmghnbibjbnaa
