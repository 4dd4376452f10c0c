/-
  No cell of these rows narrows 'for every input' (looked for: loops, veiled, ifaces, maps, wideKeys, modest, calm, conditions, laid).
  DERIVED. THE GIVEN ROWS OF THIS SEAT. 15 by the template 'for every input the law returns true; each argument reads behind the call as it read before'; 0 by the template 'total and deterministic' (their statements: YtgoblabcggbfjaaTotals.lean).
  GIVEN WITH THE SEED: the statements are not yours to turn. If you find one false, say at which input.
  Laid BY PROGRAM, IN A SANDBOX (cutbox-rows.mjs): the forced cells as the released guide's own fill.sh prints them over the translation ae59010e8866f783… (all of the seat's roots in one cut). By AI agents, Wed Nov 11 2026. No macro, syntax, notation, axiom, sorry.
-/
import Derived.Test.YtgoblabcggbfjaaChecked
import GoSem.Claim
import GoSem.ClaimJoined
import GoSem.ClaimMapViews
import Derived.JoinedTies
import Derived.KernelRfl
namespace Go.Proofs.Ytgoblabcggbfjaa
/- THE CELL 'sum', in the pinned program and in every row, IS THE sha256 OF THE DUMP (.gsa) THAT YtgoblabcggbfjaaProg.lean LOADS. Nothing in Lean hashes anything: it is a label: what it is worth is what the hold of that sum in a sandbox is worth. -/
noncomputable def Try.pinned : Pinned := { name := "ytgoblabcggbfjaa", sum := "ae59010e8866f783fb364e4c7bb34a4b3cf720bc3bfd580cfc4361c5dc7667d8", checked := Try.checked }
namespace Rows
def none {H : Type} : Left H := { results := [], args := [] }

/-- 'laws.FnAssignOrder': WHATEVER THE INPUT: true; the input reads as it did. -/
def fnAssignOrderSpec : ChangeSpec := { name := "fnAssignOrder", fn := fun _ => fun
  | [d] => { results := [.lit (.bool true)], args := [d] }
  | _ => none }
def fnAssignOrderRow : OpenClaim := { program := "ytgoblabcggbfjaa", sum := "ae59010e8866f783fb364e4c7bb34a4b3cf720bc3bfd580cfc4361c5dc7667d8", func := "loop.example/dualmodes/laws.FnAssignOrder", spec := "fnAssignOrder", unfollowed := true, recurses := true, apart := false }
def FnAssignOrderSaid : Prop := fnAssignOrderRow.holds Try.pinned (OpenSpec.ofChange fnAssignOrderSpec)

/-- ITS FALSE NEIGHBOUR: 'it returns false'. Refute it at one input. -/
def fnAssignOrderWrong : ChangeSpec := { name := "fnAssignOrder", fn := fun _ => fun
  | [d] => { results := [.lit (.bool false)], args := [d] }
  | _ => none }
def FnAssignOrderWrongFalsely : Prop := fnAssignOrderRow.holds Try.pinned (OpenSpec.ofChange fnAssignOrderWrong)

/-- 'laws.FnCountOrders': WHATEVER THE INPUT: true; the input reads as it did. -/
def fnCountOrdersSpec : ChangeSpec := { name := "fnCountOrders", fn := fun _ => fun
  | [d] => { results := [.lit (.bool true)], args := [d] }
  | _ => none }
def fnCountOrdersRow : OpenClaim := { program := "ytgoblabcggbfjaa", sum := "ae59010e8866f783fb364e4c7bb34a4b3cf720bc3bfd580cfc4361c5dc7667d8", func := "loop.example/dualmodes/laws.FnCountOrders", spec := "fnCountOrders", unfollowed := true, recurses := true, apart := false }
def FnCountOrdersSaid : Prop := fnCountOrdersRow.holds Try.pinned (OpenSpec.ofChange fnCountOrdersSpec)

/-- ITS FALSE NEIGHBOUR: 'it returns false'. Refute it at one input. -/
def fnCountOrdersWrong : ChangeSpec := { name := "fnCountOrders", fn := fun _ => fun
  | [d] => { results := [.lit (.bool false)], args := [d] }
  | _ => none }
def FnCountOrdersWrongFalsely : Prop := fnCountOrdersRow.holds Try.pinned (OpenSpec.ofChange fnCountOrdersWrong)

/-- 'laws.FnAnyOrder': WHATEVER THE INPUT: true; the input reads as it did. -/
def fnAnyOrderSpec : ChangeSpec := { name := "fnAnyOrder", fn := fun _ => fun
  | [d] => { results := [.lit (.bool true)], args := [d] }
  | _ => none }
def fnAnyOrderRow : OpenClaim := { program := "ytgoblabcggbfjaa", sum := "ae59010e8866f783fb364e4c7bb34a4b3cf720bc3bfd580cfc4361c5dc7667d8", func := "loop.example/dualmodes/laws.FnAnyOrder", spec := "fnAnyOrder", unfollowed := true, recurses := true, apart := false }
def FnAnyOrderSaid : Prop := fnAnyOrderRow.holds Try.pinned (OpenSpec.ofChange fnAnyOrderSpec)

/-- ITS FALSE NEIGHBOUR: 'it returns false'. Refute it at one input. -/
def fnAnyOrderWrong : ChangeSpec := { name := "fnAnyOrder", fn := fun _ => fun
  | [d] => { results := [.lit (.bool false)], args := [d] }
  | _ => none }
def FnAnyOrderWrongFalsely : Prop := fnAnyOrderRow.holds Try.pinned (OpenSpec.ofChange fnAnyOrderWrong)

/-- 'laws.FnCountTurned': WHATEVER THE INPUT: true; the input reads as it did. -/
def fnCountTurnedSpec : ChangeSpec := { name := "fnCountTurned", fn := fun _ => fun
  | [d] => { results := [.lit (.bool true)], args := [d] }
  | _ => none }
def fnCountTurnedRow : OpenClaim := { program := "ytgoblabcggbfjaa", sum := "ae59010e8866f783fb364e4c7bb34a4b3cf720bc3bfd580cfc4361c5dc7667d8", func := "loop.example/dualmodes/laws.FnCountTurned", spec := "fnCountTurned", unfollowed := true, recurses := true, apart := false }
def FnCountTurnedSaid : Prop := fnCountTurnedRow.holds Try.pinned (OpenSpec.ofChange fnCountTurnedSpec)

/-- ITS FALSE NEIGHBOUR: 'it returns false'. Refute it at one input. -/
def fnCountTurnedWrong : ChangeSpec := { name := "fnCountTurned", fn := fun _ => fun
  | [d] => { results := [.lit (.bool false)], args := [d] }
  | _ => none }
def FnCountTurnedWrongFalsely : Prop := fnCountTurnedRow.holds Try.pinned (OpenSpec.ofChange fnCountTurnedWrong)

/-- 'laws.FnAnyFirst': WHATEVER THE INPUT: true; the input reads as it did. -/
def fnAnyFirstSpec : ChangeSpec := { name := "fnAnyFirst", fn := fun _ => fun
  | [d] => { results := [.lit (.bool true)], args := [d] }
  | _ => none }
def fnAnyFirstRow : OpenClaim := { program := "ytgoblabcggbfjaa", sum := "ae59010e8866f783fb364e4c7bb34a4b3cf720bc3bfd580cfc4361c5dc7667d8", func := "loop.example/dualmodes/laws.FnAnyFirst", spec := "fnAnyFirst", unfollowed := true, recurses := true, apart := false }
def FnAnyFirstSaid : Prop := fnAnyFirstRow.holds Try.pinned (OpenSpec.ofChange fnAnyFirstSpec)

/-- ITS FALSE NEIGHBOUR: 'it returns false'. Refute it at one input. -/
def fnAnyFirstWrong : ChangeSpec := { name := "fnAnyFirst", fn := fun _ => fun
  | [d] => { results := [.lit (.bool false)], args := [d] }
  | _ => none }
def FnAnyFirstWrongFalsely : Prop := fnAnyFirstRow.holds Try.pinned (OpenSpec.ofChange fnAnyFirstWrong)

/-- 'laws.FnRaiseAll': WHATEVER THE INPUT: true; the input reads as it did. -/
def fnRaiseAllSpec : ChangeSpec := { name := "fnRaiseAll", fn := fun _ => fun
  | [d] => { results := [.lit (.bool true)], args := [d] }
  | _ => none }
def fnRaiseAllRow : OpenClaim := { program := "ytgoblabcggbfjaa", sum := "ae59010e8866f783fb364e4c7bb34a4b3cf720bc3bfd580cfc4361c5dc7667d8", func := "loop.example/dualmodes/laws.FnRaiseAll", spec := "fnRaiseAll", unfollowed := true, recurses := true, apart := false }
def FnRaiseAllSaid : Prop := fnRaiseAllRow.holds Try.pinned (OpenSpec.ofChange fnRaiseAllSpec)

/-- ITS FALSE NEIGHBOUR: 'it returns false'. Refute it at one input. -/
def fnRaiseAllWrong : ChangeSpec := { name := "fnRaiseAll", fn := fun _ => fun
  | [d] => { results := [.lit (.bool false)], args := [d] }
  | _ => none }
def FnRaiseAllWrongFalsely : Prop := fnRaiseAllRow.holds Try.pinned (OpenSpec.ofChange fnRaiseAllWrong)

/-- 'laws.FnRaiseNone': WHATEVER THE INPUT: true; the input reads as it did. -/
def fnRaiseNoneSpec : ChangeSpec := { name := "fnRaiseNone", fn := fun _ => fun
  | [d] => { results := [.lit (.bool true)], args := [d] }
  | _ => none }
def fnRaiseNoneRow : OpenClaim := { program := "ytgoblabcggbfjaa", sum := "ae59010e8866f783fb364e4c7bb34a4b3cf720bc3bfd580cfc4361c5dc7667d8", func := "loop.example/dualmodes/laws.FnRaiseNone", spec := "fnRaiseNone", apart := false }
def FnRaiseNoneSaid : Prop := fnRaiseNoneRow.holds Try.pinned (OpenSpec.ofChange fnRaiseNoneSpec)

/-- ITS FALSE NEIGHBOUR: 'it returns false'. Refute it at one input. -/
def fnRaiseNoneWrong : ChangeSpec := { name := "fnRaiseNone", fn := fun _ => fun
  | [d] => { results := [.lit (.bool false)], args := [d] }
  | _ => none }
def FnRaiseNoneWrongFalsely : Prop := fnRaiseNoneRow.holds Try.pinned (OpenSpec.ofChange fnRaiseNoneWrong)

/-- 'laws.FnGroupOf': WHATEVER THE INPUT: true; the input reads as it did. -/
def fnGroupOfSpec : ChangeSpec := { name := "fnGroupOf", fn := fun _ => fun
  | [d] => { results := [.lit (.bool true)], args := [d] }
  | _ => none }
def fnGroupOfRow : OpenClaim := { program := "ytgoblabcggbfjaa", sum := "ae59010e8866f783fb364e4c7bb34a4b3cf720bc3bfd580cfc4361c5dc7667d8", func := "loop.example/dualmodes/laws.FnGroupOf", spec := "fnGroupOf", unfollowed := true, recurses := true, apart := false }
def FnGroupOfSaid : Prop := fnGroupOfRow.holds Try.pinned (OpenSpec.ofChange fnGroupOfSpec)

/-- ITS FALSE NEIGHBOUR: 'it returns false'. Refute it at one input. -/
def fnGroupOfWrong : ChangeSpec := { name := "fnGroupOf", fn := fun _ => fun
  | [d] => { results := [.lit (.bool false)], args := [d] }
  | _ => none }
def FnGroupOfWrongFalsely : Prop := fnGroupOfRow.holds Try.pinned (OpenSpec.ofChange fnGroupOfWrong)

/-- 'laws.FnPackValid': WHATEVER THE INPUT: true; the input reads as it did. -/
def fnPackValidSpec : ChangeSpec := { name := "fnPackValid", fn := fun _ => fun
  | [d] => { results := [.lit (.bool true)], args := [d] }
  | _ => none }
def fnPackValidRow : OpenClaim := { program := "ytgoblabcggbfjaa", sum := "ae59010e8866f783fb364e4c7bb34a4b3cf720bc3bfd580cfc4361c5dc7667d8", func := "loop.example/dualmodes/laws.FnPackValid", spec := "fnPackValid", apart := false }
def FnPackValidSaid : Prop := fnPackValidRow.holds Try.pinned (OpenSpec.ofChange fnPackValidSpec)

/-- ITS FALSE NEIGHBOUR: 'it returns false'. Refute it at one input. -/
def fnPackValidWrong : ChangeSpec := { name := "fnPackValid", fn := fun _ => fun
  | [d] => { results := [.lit (.bool false)], args := [d] }
  | _ => none }
def FnPackValidWrongFalsely : Prop := fnPackValidRow.holds Try.pinned (OpenSpec.ofChange fnPackValidWrong)

/-- 'laws.FnExactAnyOrder': WHATEVER THE INPUT: true; the input reads as it did. -/
def fnExactAnyOrderSpec : ChangeSpec := { name := "fnExactAnyOrder", fn := fun _ => fun
  | [d] => { results := [.lit (.bool true)], args := [d] }
  | _ => none }
def fnExactAnyOrderRow : OpenClaim := { program := "ytgoblabcggbfjaa", sum := "ae59010e8866f783fb364e4c7bb34a4b3cf720bc3bfd580cfc4361c5dc7667d8", func := "loop.example/dualmodes/laws.FnExactAnyOrder", spec := "fnExactAnyOrder", unfollowed := true, recurses := true, apart := false }
def FnExactAnyOrderSaid : Prop := fnExactAnyOrderRow.holds Try.pinned (OpenSpec.ofChange fnExactAnyOrderSpec)

/-- ITS FALSE NEIGHBOUR: 'it returns false'. Refute it at one input. -/
def fnExactAnyOrderWrong : ChangeSpec := { name := "fnExactAnyOrder", fn := fun _ => fun
  | [d] => { results := [.lit (.bool false)], args := [d] }
  | _ => none }
def FnExactAnyOrderWrongFalsely : Prop := fnExactAnyOrderRow.holds Try.pinned (OpenSpec.ofChange fnExactAnyOrderWrong)

/-- 'laws.FnExactCountOrders': WHATEVER THE INPUT: true; the input reads as it did. -/
def fnExactCountOrdersSpec : ChangeSpec := { name := "fnExactCountOrders", fn := fun _ => fun
  | [d] => { results := [.lit (.bool true)], args := [d] }
  | _ => none }
def fnExactCountOrdersRow : OpenClaim := { program := "ytgoblabcggbfjaa", sum := "ae59010e8866f783fb364e4c7bb34a4b3cf720bc3bfd580cfc4361c5dc7667d8", func := "loop.example/dualmodes/laws.FnExactCountOrders", spec := "fnExactCountOrders", unfollowed := true, recurses := true, apart := false }
def FnExactCountOrdersSaid : Prop := fnExactCountOrdersRow.holds Try.pinned (OpenSpec.ofChange fnExactCountOrdersSpec)

/-- ITS FALSE NEIGHBOUR: 'it returns false'. Refute it at one input. -/
def fnExactCountOrdersWrong : ChangeSpec := { name := "fnExactCountOrders", fn := fun _ => fun
  | [d] => { results := [.lit (.bool false)], args := [d] }
  | _ => none }
def FnExactCountOrdersWrongFalsely : Prop := fnExactCountOrdersRow.holds Try.pinned (OpenSpec.ofChange fnExactCountOrdersWrong)

/-- 'laws.FnExactLeaveTask': WHATEVER THE INPUT: true; the input reads as it did. -/
def fnExactLeaveTaskSpec : ChangeSpec := { name := "fnExactLeaveTask", fn := fun _ => fun
  | [d1, d2] => { results := [.lit (.bool true)], args := [d1, d2] }
  | _ => none }
def fnExactLeaveTaskRow : OpenClaim := { program := "ytgoblabcggbfjaa", sum := "ae59010e8866f783fb364e4c7bb34a4b3cf720bc3bfd580cfc4361c5dc7667d8", func := "loop.example/dualmodes/laws.FnExactLeaveTask", spec := "fnExactLeaveTask", apart := false }
def FnExactLeaveTaskSaid : Prop := fnExactLeaveTaskRow.holds Try.pinned (OpenSpec.ofChange fnExactLeaveTaskSpec)

/-- ITS FALSE NEIGHBOUR: 'it returns false'. Refute it at one input. -/
def fnExactLeaveTaskWrong : ChangeSpec := { name := "fnExactLeaveTask", fn := fun _ => fun
  | [d1, d2] => { results := [.lit (.bool false)], args := [d1, d2] }
  | _ => none }
def FnExactLeaveTaskWrongFalsely : Prop := fnExactLeaveTaskRow.holds Try.pinned (OpenSpec.ofChange fnExactLeaveTaskWrong)

/-- 'laws.FnExactRaiseAll': WHATEVER THE INPUT: true; the input reads as it did. -/
def fnExactRaiseAllSpec : ChangeSpec := { name := "fnExactRaiseAll", fn := fun _ => fun
  | [d1, d2] => { results := [.lit (.bool true)], args := [d1, d2] }
  | _ => none }
def fnExactRaiseAllRow : OpenClaim := { program := "ytgoblabcggbfjaa", sum := "ae59010e8866f783fb364e4c7bb34a4b3cf720bc3bfd580cfc4361c5dc7667d8", func := "loop.example/dualmodes/laws.FnExactRaiseAll", spec := "fnExactRaiseAll", apart := false }
def FnExactRaiseAllSaid : Prop := fnExactRaiseAllRow.holds Try.pinned (OpenSpec.ofChange fnExactRaiseAllSpec)

/-- ITS FALSE NEIGHBOUR: 'it returns false'. Refute it at one input. -/
def fnExactRaiseAllWrong : ChangeSpec := { name := "fnExactRaiseAll", fn := fun _ => fun
  | [d1, d2] => { results := [.lit (.bool false)], args := [d1, d2] }
  | _ => none }
def FnExactRaiseAllWrongFalsely : Prop := fnExactRaiseAllRow.holds Try.pinned (OpenSpec.ofChange fnExactRaiseAllWrong)

/-- 'laws.FnExactPackValid': WHATEVER THE INPUT: true; the input reads as it did. -/
def fnExactPackValidSpec : ChangeSpec := { name := "fnExactPackValid", fn := fun _ => fun
  | [d1, d2, d3] => { results := [.lit (.bool true)], args := [d1, d2, d3] }
  | _ => none }
def fnExactPackValidRow : OpenClaim := { program := "ytgoblabcggbfjaa", sum := "ae59010e8866f783fb364e4c7bb34a4b3cf720bc3bfd580cfc4361c5dc7667d8", func := "loop.example/dualmodes/laws.FnExactPackValid", spec := "fnExactPackValid", apart := false }
def FnExactPackValidSaid : Prop := fnExactPackValidRow.holds Try.pinned (OpenSpec.ofChange fnExactPackValidSpec)

/-- ITS FALSE NEIGHBOUR: 'it returns false'. Refute it at one input. -/
def fnExactPackValidWrong : ChangeSpec := { name := "fnExactPackValid", fn := fun _ => fun
  | [d1, d2, d3] => { results := [.lit (.bool false)], args := [d1, d2, d3] }
  | _ => none }
def FnExactPackValidWrongFalsely : Prop := fnExactPackValidRow.holds Try.pinned (OpenSpec.ofChange fnExactPackValidWrong)

/-- 'laws.FnExactGroupOf': WHATEVER THE INPUT: true; the input reads as it did. -/
def fnExactGroupOfSpec : ChangeSpec := { name := "fnExactGroupOf", fn := fun _ => fun
  | [d1, d2, d3] => { results := [.lit (.bool true)], args := [d1, d2, d3] }
  | _ => none }
def fnExactGroupOfRow : OpenClaim := { program := "ytgoblabcggbfjaa", sum := "ae59010e8866f783fb364e4c7bb34a4b3cf720bc3bfd580cfc4361c5dc7667d8", func := "loop.example/dualmodes/laws.FnExactGroupOf", spec := "fnExactGroupOf", unfollowed := true, recurses := true, apart := false }
def FnExactGroupOfSaid : Prop := fnExactGroupOfRow.holds Try.pinned (OpenSpec.ofChange fnExactGroupOfSpec)

/-- ITS FALSE NEIGHBOUR: 'it returns false'. Refute it at one input. -/
def fnExactGroupOfWrong : ChangeSpec := { name := "fnExactGroupOf", fn := fun _ => fun
  | [d1, d2, d3] => { results := [.lit (.bool false)], args := [d1, d2, d3] }
  | _ => none }
def FnExactGroupOfWrongFalsely : Prop := fnExactGroupOfRow.holds Try.pinned (OpenSpec.ofChange fnExactGroupOfWrong)

/- THE SECOND FORM. 'bulk': how many values and letters a reading holds, each counted each time it is reached (what is shared counts as often as it is met; a slice's spare places count too). A statement '..UptoSaid' is the law's where the arguments, and the package variables that the reading takes, are together of bulk at most 1048576: NARROWER than '..Said'. Prove '..Said' where nothing that the law and all that it calls make is longer than what came in: it says more and counts as full. Else prove '..UptoSaid'. A law counts once. -/
mutual
def uptoBulk {H : Type} : DataW H → Nat
  | .lit (.string bytes) => bytes.length + 1
  | .lit _ => 1
  | .nil => 1
  | .ptr d => uptoBulk d + 1
  | .slice elems spare => uptoBulkAll elems + uptoBulkAll spare + 1
  | .agg parts => uptoBulkAll parts + 1
  | .iface _ d => uptoBulk d + 1
  | .map entries => uptoBulkEntries entries + 1
  | .held _ => 1
def uptoBulkAll {H : Type} : List (DataW H) → Nat
  | [] => 0
  | d :: r => uptoBulk d + uptoBulkAll r
def uptoBulkEntries {H : Type} : List (Lit × DataW H) → Nat
  | [] => 0
  | x :: r => uptoBulkEntry x + uptoBulkEntries r
def uptoBulkEntry {H : Type} : Lit × DataW H → Nat
  | (.string bytes, d) => bytes.length + uptoBulk d + 1
  | (_, d) => uptoBulk d + 1
 end
def uptoSmall : (H : Type) → List (DataW H) → Bool := fun _ ds => decide (uptoBulkAll ds ≤ 1048576)
def OpenSpec.upto (s : _root_.Go.ChangeSpec) : _root_.Go.OpenSpec := { _root_.Go.OpenSpec.ofChange s with cond := some uptoSmall }

/-- 'laws.FnAssignOrder', WHERE WHAT IT READS IS OF BULK AT MOST 1048576: true; the input reads as it did. -/
def fnAssignOrderUptoRow : OpenClaim := { program := "ytgoblabcggbfjaa", sum := "ae59010e8866f783fb364e4c7bb34a4b3cf720bc3bfd580cfc4361c5dc7667d8", func := "loop.example/dualmodes/laws.FnAssignOrder", spec := "fnAssignOrder", unfollowed := true, recurses := true, apart := false, narrowed := true }
def FnAssignOrderUptoSaid : Prop := fnAssignOrderUptoRow.holds Try.pinned (OpenSpec.upto fnAssignOrderSpec)

/-- 'laws.FnCountOrders', WHERE WHAT IT READS IS OF BULK AT MOST 1048576: true; the input reads as it did. -/
def fnCountOrdersUptoRow : OpenClaim := { program := "ytgoblabcggbfjaa", sum := "ae59010e8866f783fb364e4c7bb34a4b3cf720bc3bfd580cfc4361c5dc7667d8", func := "loop.example/dualmodes/laws.FnCountOrders", spec := "fnCountOrders", unfollowed := true, recurses := true, apart := false, narrowed := true }
def FnCountOrdersUptoSaid : Prop := fnCountOrdersUptoRow.holds Try.pinned (OpenSpec.upto fnCountOrdersSpec)

/-- 'laws.FnAnyOrder', WHERE WHAT IT READS IS OF BULK AT MOST 1048576: true; the input reads as it did. -/
def fnAnyOrderUptoRow : OpenClaim := { program := "ytgoblabcggbfjaa", sum := "ae59010e8866f783fb364e4c7bb34a4b3cf720bc3bfd580cfc4361c5dc7667d8", func := "loop.example/dualmodes/laws.FnAnyOrder", spec := "fnAnyOrder", unfollowed := true, recurses := true, apart := false, narrowed := true }
def FnAnyOrderUptoSaid : Prop := fnAnyOrderUptoRow.holds Try.pinned (OpenSpec.upto fnAnyOrderSpec)

/-- 'laws.FnCountTurned', WHERE WHAT IT READS IS OF BULK AT MOST 1048576: true; the input reads as it did. -/
def fnCountTurnedUptoRow : OpenClaim := { program := "ytgoblabcggbfjaa", sum := "ae59010e8866f783fb364e4c7bb34a4b3cf720bc3bfd580cfc4361c5dc7667d8", func := "loop.example/dualmodes/laws.FnCountTurned", spec := "fnCountTurned", unfollowed := true, recurses := true, apart := false, narrowed := true }
def FnCountTurnedUptoSaid : Prop := fnCountTurnedUptoRow.holds Try.pinned (OpenSpec.upto fnCountTurnedSpec)

/-- 'laws.FnAnyFirst', WHERE WHAT IT READS IS OF BULK AT MOST 1048576: true; the input reads as it did. -/
def fnAnyFirstUptoRow : OpenClaim := { program := "ytgoblabcggbfjaa", sum := "ae59010e8866f783fb364e4c7bb34a4b3cf720bc3bfd580cfc4361c5dc7667d8", func := "loop.example/dualmodes/laws.FnAnyFirst", spec := "fnAnyFirst", unfollowed := true, recurses := true, apart := false, narrowed := true }
def FnAnyFirstUptoSaid : Prop := fnAnyFirstUptoRow.holds Try.pinned (OpenSpec.upto fnAnyFirstSpec)

/-- 'laws.FnRaiseAll', WHERE WHAT IT READS IS OF BULK AT MOST 1048576: true; the input reads as it did. -/
def fnRaiseAllUptoRow : OpenClaim := { program := "ytgoblabcggbfjaa", sum := "ae59010e8866f783fb364e4c7bb34a4b3cf720bc3bfd580cfc4361c5dc7667d8", func := "loop.example/dualmodes/laws.FnRaiseAll", spec := "fnRaiseAll", unfollowed := true, recurses := true, apart := false, narrowed := true }
def FnRaiseAllUptoSaid : Prop := fnRaiseAllUptoRow.holds Try.pinned (OpenSpec.upto fnRaiseAllSpec)

/-- 'laws.FnRaiseNone', WHERE WHAT IT READS IS OF BULK AT MOST 1048576: true; the input reads as it did. -/
def fnRaiseNoneUptoRow : OpenClaim := { program := "ytgoblabcggbfjaa", sum := "ae59010e8866f783fb364e4c7bb34a4b3cf720bc3bfd580cfc4361c5dc7667d8", func := "loop.example/dualmodes/laws.FnRaiseNone", spec := "fnRaiseNone", apart := false, narrowed := true }
def FnRaiseNoneUptoSaid : Prop := fnRaiseNoneUptoRow.holds Try.pinned (OpenSpec.upto fnRaiseNoneSpec)

/-- 'laws.FnGroupOf', WHERE WHAT IT READS IS OF BULK AT MOST 1048576: true; the input reads as it did. -/
def fnGroupOfUptoRow : OpenClaim := { program := "ytgoblabcggbfjaa", sum := "ae59010e8866f783fb364e4c7bb34a4b3cf720bc3bfd580cfc4361c5dc7667d8", func := "loop.example/dualmodes/laws.FnGroupOf", spec := "fnGroupOf", unfollowed := true, recurses := true, apart := false, narrowed := true }
def FnGroupOfUptoSaid : Prop := fnGroupOfUptoRow.holds Try.pinned (OpenSpec.upto fnGroupOfSpec)

/-- 'laws.FnPackValid', WHERE WHAT IT READS IS OF BULK AT MOST 1048576: true; the input reads as it did. -/
def fnPackValidUptoRow : OpenClaim := { program := "ytgoblabcggbfjaa", sum := "ae59010e8866f783fb364e4c7bb34a4b3cf720bc3bfd580cfc4361c5dc7667d8", func := "loop.example/dualmodes/laws.FnPackValid", spec := "fnPackValid", apart := false, narrowed := true }
def FnPackValidUptoSaid : Prop := fnPackValidUptoRow.holds Try.pinned (OpenSpec.upto fnPackValidSpec)

/-- 'laws.FnExactAnyOrder', WHERE WHAT IT READS IS OF BULK AT MOST 1048576: true; the input reads as it did. -/
def fnExactAnyOrderUptoRow : OpenClaim := { program := "ytgoblabcggbfjaa", sum := "ae59010e8866f783fb364e4c7bb34a4b3cf720bc3bfd580cfc4361c5dc7667d8", func := "loop.example/dualmodes/laws.FnExactAnyOrder", spec := "fnExactAnyOrder", unfollowed := true, recurses := true, apart := false, narrowed := true }
def FnExactAnyOrderUptoSaid : Prop := fnExactAnyOrderUptoRow.holds Try.pinned (OpenSpec.upto fnExactAnyOrderSpec)

/-- 'laws.FnExactCountOrders', WHERE WHAT IT READS IS OF BULK AT MOST 1048576: true; the input reads as it did. -/
def fnExactCountOrdersUptoRow : OpenClaim := { program := "ytgoblabcggbfjaa", sum := "ae59010e8866f783fb364e4c7bb34a4b3cf720bc3bfd580cfc4361c5dc7667d8", func := "loop.example/dualmodes/laws.FnExactCountOrders", spec := "fnExactCountOrders", unfollowed := true, recurses := true, apart := false, narrowed := true }
def FnExactCountOrdersUptoSaid : Prop := fnExactCountOrdersUptoRow.holds Try.pinned (OpenSpec.upto fnExactCountOrdersSpec)

/-- 'laws.FnExactLeaveTask', WHERE WHAT IT READS IS OF BULK AT MOST 1048576: true; the input reads as it did. -/
def fnExactLeaveTaskUptoRow : OpenClaim := { program := "ytgoblabcggbfjaa", sum := "ae59010e8866f783fb364e4c7bb34a4b3cf720bc3bfd580cfc4361c5dc7667d8", func := "loop.example/dualmodes/laws.FnExactLeaveTask", spec := "fnExactLeaveTask", apart := false, narrowed := true }
def FnExactLeaveTaskUptoSaid : Prop := fnExactLeaveTaskUptoRow.holds Try.pinned (OpenSpec.upto fnExactLeaveTaskSpec)

/-- 'laws.FnExactRaiseAll', WHERE WHAT IT READS IS OF BULK AT MOST 1048576: true; the input reads as it did. -/
def fnExactRaiseAllUptoRow : OpenClaim := { program := "ytgoblabcggbfjaa", sum := "ae59010e8866f783fb364e4c7bb34a4b3cf720bc3bfd580cfc4361c5dc7667d8", func := "loop.example/dualmodes/laws.FnExactRaiseAll", spec := "fnExactRaiseAll", apart := false, narrowed := true }
def FnExactRaiseAllUptoSaid : Prop := fnExactRaiseAllUptoRow.holds Try.pinned (OpenSpec.upto fnExactRaiseAllSpec)

/-- 'laws.FnExactPackValid', WHERE WHAT IT READS IS OF BULK AT MOST 1048576: true; the input reads as it did. -/
def fnExactPackValidUptoRow : OpenClaim := { program := "ytgoblabcggbfjaa", sum := "ae59010e8866f783fb364e4c7bb34a4b3cf720bc3bfd580cfc4361c5dc7667d8", func := "loop.example/dualmodes/laws.FnExactPackValid", spec := "fnExactPackValid", apart := false, narrowed := true }
def FnExactPackValidUptoSaid : Prop := fnExactPackValidUptoRow.holds Try.pinned (OpenSpec.upto fnExactPackValidSpec)

/-- 'laws.FnExactGroupOf', WHERE WHAT IT READS IS OF BULK AT MOST 1048576: true; the input reads as it did. -/
def fnExactGroupOfUptoRow : OpenClaim := { program := "ytgoblabcggbfjaa", sum := "ae59010e8866f783fb364e4c7bb34a4b3cf720bc3bfd580cfc4361c5dc7667d8", func := "loop.example/dualmodes/laws.FnExactGroupOf", spec := "fnExactGroupOf", unfollowed := true, recurses := true, apart := false, narrowed := true }
def FnExactGroupOfUptoSaid : Prop := fnExactGroupOfUptoRow.holds Try.pinned (OpenSpec.upto fnExactGroupOfSpec)

end Rows
end Go.Proofs.Ytgoblabcggbfjaa
