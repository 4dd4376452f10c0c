/-
  NARROWER THAN 'FOR EVERY INPUT', by the rows' own cells (each row's printed sentence says how): FnLeaveTask: ifaces, laid · FnMostHigh: ifaces, laid · FnMostLow: ifaces, laid · FnMostLast: ifaces, laid · FnRaiseShare: ifaces, laid · FnGroupShare: ifaces, laid · FnExactHoldsBy: ifaces, laid · FnExactMostHigh: ifaces, laid · FnExactMostLow: ifaces, laid · FnExactCanHold: ifaces, laid.
  DERIVED. THE GIVEN ROWS OF THIS SEAT. 10 by the template 'for every input the law returns true; each argument reads behind the call as it read before'; 0 by the template 'total and deterministic' (their statements: YtfjbkblodgdcnaaDoorTotals.lean).
  GIVEN WITH THE SEED: the statements are not yours to turn. If you find one false, say at which input.
  Laid BY PROGRAM, IN A SANDBOX (cutbox-rows.mjs): the forced cells as the released guide's own fill.sh prints them over the translation d82d4838a893b464… (all of the seat's roots in one cut). By AI agents, Wed Nov 11 2026. No macro, syntax, notation, axiom, sorry.
-/
import Derived.Test.YtfjbkblodgdcnaaDoorChecked
import GoSem.Claim
import GoSem.ClaimJoined
import GoSem.ClaimMapViews
import Derived.JoinedTies
import Derived.KernelRfl
namespace Go.Proofs.YtfjbkblodgdcnaaDoor
/- THE CELL 'sum', in the pinned program and in every row, IS THE sha256 OF THE DUMP (.gsa) THAT YtfjbkblodgdcnaaDoorProg.lean LOADS. Nothing in Lean hashes anything: it is a label: what it is worth is what the hold of that sum in a sandbox is worth. -/
noncomputable def Tryd.pinned : Pinned := { name := "ytfjbkblodgdcnaadoor", sum := "d82d4838a893b464dbed32bc337d7063d89f37004d2ff12aa36a2ac019e2dd9a", checked := Tryd.checked }
namespace Rows
def none {H : Type} : Left H := { results := [], args := [] }

/- WHAT THE LISTED PACKAGE-LEVEL VARIABLES READ AS WHEN THE CALL BEGINS. Each datum BY PROGRAM (the guide's laid-datum.mjs) off the statement by which the dump's own 'gosem.cut.vars' lays the variable. In a bare row this is a premise. The card (YtfjbkblodgdcnaaDoorCards.lean) ties it to the program's text. -/
def laid_loop_example_dualmodes_impl_errTooGreat {H : Type} : DataW H := .iface "*errors.errorString" (.ptr (.agg [.lit (.string [116, 104, 101, 32, 115, 104, 97, 114, 101, 32, 104, 97, 115, 32, 116, 111, 111, 32, 103, 114, 101, 97, 116, 32, 97, 32, 110, 117, 109, 98, 101, 114])]))

/-- 'laws.FnLeaveTask': WHATEVER THE INPUT: true; the input reads as it did. -/
def fnLeaveTaskSpec : ChangeSpec := { name := "fnLeaveTask", vars := ["loop.example/dualmodes/impl.errTooGreat"], fn := fun _ => fun
  | [d, g1] => { results := [.lit (.bool true)], args := [d], vars := [g1] }
  | _ => none }
def fnLeaveTaskRow : OpenClaim := { program := "ytfjbkblodgdcnaadoor", sum := "d82d4838a893b464dbed32bc337d7063d89f37004d2ff12aa36a2ac019e2dd9a", func := "loop.example/dualmodes/laws.FnLeaveTask", spec := "fnLeaveTask", inPlace := ["internal/reflectlite.TypeOf"], unfollowed := true, recurses := true, named := ["loop.example/dualmodes/impl.errTooGreat"], ifaces := true, apart := false, laid := [("loop.example/dualmodes/impl.errTooGreat", laid_loop_example_dualmodes_impl_errTooGreat)] }
def FnLeaveTaskSaid : Prop := fnLeaveTaskRow.holds Tryd.pinned (OpenSpec.ofChange fnLeaveTaskSpec)

/-- ITS FALSE NEIGHBOUR: 'it returns false'. Refute it at one input. -/
def fnLeaveTaskWrong : ChangeSpec := { name := "fnLeaveTask", vars := ["loop.example/dualmodes/impl.errTooGreat"], fn := fun _ => fun
  | [d, g1] => { results := [.lit (.bool false)], args := [d], vars := [g1] }
  | _ => none }
def FnLeaveTaskWrongFalsely : Prop := fnLeaveTaskRow.holds Tryd.pinned (OpenSpec.ofChange fnLeaveTaskWrong)

/-- 'laws.FnMostHigh': WHATEVER THE INPUT: true; the input reads as it did. -/
def fnMostHighSpec : ChangeSpec := { name := "fnMostHigh", vars := ["loop.example/dualmodes/impl.errTooGreat"], fn := fun _ => fun
  | [d, g1] => { results := [.lit (.bool true)], args := [d], vars := [g1] }
  | _ => none }
def fnMostHighRow : OpenClaim := { program := "ytfjbkblodgdcnaadoor", sum := "d82d4838a893b464dbed32bc337d7063d89f37004d2ff12aa36a2ac019e2dd9a", func := "loop.example/dualmodes/laws.FnMostHigh", spec := "fnMostHigh", inPlace := ["internal/reflectlite.TypeOf"], unfollowed := true, recurses := true, named := ["loop.example/dualmodes/impl.errTooGreat"], ifaces := true, apart := false, laid := [("loop.example/dualmodes/impl.errTooGreat", laid_loop_example_dualmodes_impl_errTooGreat)] }
def FnMostHighSaid : Prop := fnMostHighRow.holds Tryd.pinned (OpenSpec.ofChange fnMostHighSpec)

/-- ITS FALSE NEIGHBOUR: 'it returns false'. Refute it at one input. -/
def fnMostHighWrong : ChangeSpec := { name := "fnMostHigh", vars := ["loop.example/dualmodes/impl.errTooGreat"], fn := fun _ => fun
  | [d, g1] => { results := [.lit (.bool false)], args := [d], vars := [g1] }
  | _ => none }
def FnMostHighWrongFalsely : Prop := fnMostHighRow.holds Tryd.pinned (OpenSpec.ofChange fnMostHighWrong)

/-- 'laws.FnMostLow': WHATEVER THE INPUT: true; the input reads as it did. -/
def fnMostLowSpec : ChangeSpec := { name := "fnMostLow", vars := ["loop.example/dualmodes/impl.errTooGreat"], fn := fun _ => fun
  | [d, g1] => { results := [.lit (.bool true)], args := [d], vars := [g1] }
  | _ => none }
def fnMostLowRow : OpenClaim := { program := "ytfjbkblodgdcnaadoor", sum := "d82d4838a893b464dbed32bc337d7063d89f37004d2ff12aa36a2ac019e2dd9a", func := "loop.example/dualmodes/laws.FnMostLow", spec := "fnMostLow", inPlace := ["internal/reflectlite.TypeOf"], unfollowed := true, recurses := true, named := ["loop.example/dualmodes/impl.errTooGreat"], ifaces := true, apart := false, laid := [("loop.example/dualmodes/impl.errTooGreat", laid_loop_example_dualmodes_impl_errTooGreat)] }
def FnMostLowSaid : Prop := fnMostLowRow.holds Tryd.pinned (OpenSpec.ofChange fnMostLowSpec)

/-- ITS FALSE NEIGHBOUR: 'it returns false'. Refute it at one input. -/
def fnMostLowWrong : ChangeSpec := { name := "fnMostLow", vars := ["loop.example/dualmodes/impl.errTooGreat"], fn := fun _ => fun
  | [d, g1] => { results := [.lit (.bool false)], args := [d], vars := [g1] }
  | _ => none }
def FnMostLowWrongFalsely : Prop := fnMostLowRow.holds Tryd.pinned (OpenSpec.ofChange fnMostLowWrong)

/-- 'laws.FnMostLast': WHATEVER THE INPUT: true; the input reads as it did. -/
def fnMostLastSpec : ChangeSpec := { name := "fnMostLast", vars := ["loop.example/dualmodes/impl.errTooGreat"], fn := fun _ => fun
  | [d, g1] => { results := [.lit (.bool true)], args := [d], vars := [g1] }
  | _ => none }
def fnMostLastRow : OpenClaim := { program := "ytfjbkblodgdcnaadoor", sum := "d82d4838a893b464dbed32bc337d7063d89f37004d2ff12aa36a2ac019e2dd9a", func := "loop.example/dualmodes/laws.FnMostLast", spec := "fnMostLast", inPlace := ["internal/reflectlite.TypeOf"], unfollowed := true, recurses := true, named := ["loop.example/dualmodes/impl.errTooGreat"], ifaces := true, apart := false, laid := [("loop.example/dualmodes/impl.errTooGreat", laid_loop_example_dualmodes_impl_errTooGreat)] }
def FnMostLastSaid : Prop := fnMostLastRow.holds Tryd.pinned (OpenSpec.ofChange fnMostLastSpec)

/-- ITS FALSE NEIGHBOUR: 'it returns false'. Refute it at one input. -/
def fnMostLastWrong : ChangeSpec := { name := "fnMostLast", vars := ["loop.example/dualmodes/impl.errTooGreat"], fn := fun _ => fun
  | [d, g1] => { results := [.lit (.bool false)], args := [d], vars := [g1] }
  | _ => none }
def FnMostLastWrongFalsely : Prop := fnMostLastRow.holds Tryd.pinned (OpenSpec.ofChange fnMostLastWrong)

/-- 'laws.FnRaiseShare': WHATEVER THE INPUT: true; the input reads as it did. -/
def fnRaiseShareSpec : ChangeSpec := { name := "fnRaiseShare", vars := ["loop.example/dualmodes/impl.errTooGreat"], fn := fun _ => fun
  | [d, g1] => { results := [.lit (.bool true)], args := [d], vars := [g1] }
  | _ => none }
def fnRaiseShareRow : OpenClaim := { program := "ytfjbkblodgdcnaadoor", sum := "d82d4838a893b464dbed32bc337d7063d89f37004d2ff12aa36a2ac019e2dd9a", func := "loop.example/dualmodes/laws.FnRaiseShare", spec := "fnRaiseShare", inPlace := ["internal/reflectlite.TypeOf"], unfollowed := true, recurses := true, named := ["loop.example/dualmodes/impl.errTooGreat"], ifaces := true, apart := false, laid := [("loop.example/dualmodes/impl.errTooGreat", laid_loop_example_dualmodes_impl_errTooGreat)] }
def FnRaiseShareSaid : Prop := fnRaiseShareRow.holds Tryd.pinned (OpenSpec.ofChange fnRaiseShareSpec)

/-- ITS FALSE NEIGHBOUR: 'it returns false'. Refute it at one input. -/
def fnRaiseShareWrong : ChangeSpec := { name := "fnRaiseShare", vars := ["loop.example/dualmodes/impl.errTooGreat"], fn := fun _ => fun
  | [d, g1] => { results := [.lit (.bool false)], args := [d], vars := [g1] }
  | _ => none }
def FnRaiseShareWrongFalsely : Prop := fnRaiseShareRow.holds Tryd.pinned (OpenSpec.ofChange fnRaiseShareWrong)

/-- 'laws.FnGroupShare': WHATEVER THE INPUT: true; the input reads as it did. -/
def fnGroupShareSpec : ChangeSpec := { name := "fnGroupShare", vars := ["loop.example/dualmodes/impl.errTooGreat"], fn := fun _ => fun
  | [d, g1] => { results := [.lit (.bool true)], args := [d], vars := [g1] }
  | _ => none }
def fnGroupShareRow : OpenClaim := { program := "ytfjbkblodgdcnaadoor", sum := "d82d4838a893b464dbed32bc337d7063d89f37004d2ff12aa36a2ac019e2dd9a", func := "loop.example/dualmodes/laws.FnGroupShare", spec := "fnGroupShare", inPlace := ["internal/reflectlite.TypeOf"], unfollowed := true, recurses := true, named := ["loop.example/dualmodes/impl.errTooGreat"], ifaces := true, apart := false, laid := [("loop.example/dualmodes/impl.errTooGreat", laid_loop_example_dualmodes_impl_errTooGreat)] }
def FnGroupShareSaid : Prop := fnGroupShareRow.holds Tryd.pinned (OpenSpec.ofChange fnGroupShareSpec)

/-- ITS FALSE NEIGHBOUR: 'it returns false'. Refute it at one input. -/
def fnGroupShareWrong : ChangeSpec := { name := "fnGroupShare", vars := ["loop.example/dualmodes/impl.errTooGreat"], fn := fun _ => fun
  | [d, g1] => { results := [.lit (.bool false)], args := [d], vars := [g1] }
  | _ => none }
def FnGroupShareWrongFalsely : Prop := fnGroupShareRow.holds Tryd.pinned (OpenSpec.ofChange fnGroupShareWrong)

/-- 'laws.FnExactHoldsBy': WHATEVER THE INPUT: true; the input reads as it did. -/
def fnExactHoldsBySpec : ChangeSpec := { name := "fnExactHoldsBy", vars := ["loop.example/dualmodes/impl.errTooGreat"], fn := fun _ => fun
  | [d1, d2, g1] => { results := [.lit (.bool true)], args := [d1, d2], vars := [g1] }
  | _ => none }
def fnExactHoldsByRow : OpenClaim := { program := "ytfjbkblodgdcnaadoor", sum := "d82d4838a893b464dbed32bc337d7063d89f37004d2ff12aa36a2ac019e2dd9a", func := "loop.example/dualmodes/laws.FnExactHoldsBy", spec := "fnExactHoldsBy", inPlace := ["internal/reflectlite.TypeOf"], unfollowed := true, recurses := true, named := ["loop.example/dualmodes/impl.errTooGreat"], ifaces := true, apart := false, laid := [("loop.example/dualmodes/impl.errTooGreat", laid_loop_example_dualmodes_impl_errTooGreat)] }
def FnExactHoldsBySaid : Prop := fnExactHoldsByRow.holds Tryd.pinned (OpenSpec.ofChange fnExactHoldsBySpec)

/-- ITS FALSE NEIGHBOUR: 'it returns false'. Refute it at one input. -/
def fnExactHoldsByWrong : ChangeSpec := { name := "fnExactHoldsBy", vars := ["loop.example/dualmodes/impl.errTooGreat"], fn := fun _ => fun
  | [d1, d2, g1] => { results := [.lit (.bool false)], args := [d1, d2], vars := [g1] }
  | _ => none }
def FnExactHoldsByWrongFalsely : Prop := fnExactHoldsByRow.holds Tryd.pinned (OpenSpec.ofChange fnExactHoldsByWrong)

/-- 'laws.FnExactMostHigh': WHATEVER THE INPUT: true; the input reads as it did. -/
def fnExactMostHighSpec : ChangeSpec := { name := "fnExactMostHigh", vars := ["loop.example/dualmodes/impl.errTooGreat"], fn := fun _ => fun
  | [d1, d2, d3, g1] => { results := [.lit (.bool true)], args := [d1, d2, d3], vars := [g1] }
  | _ => none }
def fnExactMostHighRow : OpenClaim := { program := "ytfjbkblodgdcnaadoor", sum := "d82d4838a893b464dbed32bc337d7063d89f37004d2ff12aa36a2ac019e2dd9a", func := "loop.example/dualmodes/laws.FnExactMostHigh", spec := "fnExactMostHigh", inPlace := ["internal/reflectlite.TypeOf"], unfollowed := true, recurses := true, named := ["loop.example/dualmodes/impl.errTooGreat"], ifaces := true, apart := false, laid := [("loop.example/dualmodes/impl.errTooGreat", laid_loop_example_dualmodes_impl_errTooGreat)] }
def FnExactMostHighSaid : Prop := fnExactMostHighRow.holds Tryd.pinned (OpenSpec.ofChange fnExactMostHighSpec)

/-- ITS FALSE NEIGHBOUR: 'it returns false'. Refute it at one input. -/
def fnExactMostHighWrong : ChangeSpec := { name := "fnExactMostHigh", vars := ["loop.example/dualmodes/impl.errTooGreat"], fn := fun _ => fun
  | [d1, d2, d3, g1] => { results := [.lit (.bool false)], args := [d1, d2, d3], vars := [g1] }
  | _ => none }
def FnExactMostHighWrongFalsely : Prop := fnExactMostHighRow.holds Tryd.pinned (OpenSpec.ofChange fnExactMostHighWrong)

/-- 'laws.FnExactMostLow': WHATEVER THE INPUT: true; the input reads as it did. -/
def fnExactMostLowSpec : ChangeSpec := { name := "fnExactMostLow", vars := ["loop.example/dualmodes/impl.errTooGreat"], fn := fun _ => fun
  | [d1, d2, d3, g1] => { results := [.lit (.bool true)], args := [d1, d2, d3], vars := [g1] }
  | _ => none }
def fnExactMostLowRow : OpenClaim := { program := "ytfjbkblodgdcnaadoor", sum := "d82d4838a893b464dbed32bc337d7063d89f37004d2ff12aa36a2ac019e2dd9a", func := "loop.example/dualmodes/laws.FnExactMostLow", spec := "fnExactMostLow", inPlace := ["internal/reflectlite.TypeOf"], unfollowed := true, recurses := true, named := ["loop.example/dualmodes/impl.errTooGreat"], ifaces := true, apart := false, laid := [("loop.example/dualmodes/impl.errTooGreat", laid_loop_example_dualmodes_impl_errTooGreat)] }
def FnExactMostLowSaid : Prop := fnExactMostLowRow.holds Tryd.pinned (OpenSpec.ofChange fnExactMostLowSpec)

/-- ITS FALSE NEIGHBOUR: 'it returns false'. Refute it at one input. -/
def fnExactMostLowWrong : ChangeSpec := { name := "fnExactMostLow", vars := ["loop.example/dualmodes/impl.errTooGreat"], fn := fun _ => fun
  | [d1, d2, d3, g1] => { results := [.lit (.bool false)], args := [d1, d2, d3], vars := [g1] }
  | _ => none }
def FnExactMostLowWrongFalsely : Prop := fnExactMostLowRow.holds Tryd.pinned (OpenSpec.ofChange fnExactMostLowWrong)

/-- 'laws.FnExactCanHold': WHATEVER THE INPUT: true; the input reads as it did. -/
def fnExactCanHoldSpec : ChangeSpec := { name := "fnExactCanHold", vars := ["loop.example/dualmodes/impl.errTooGreat"], fn := fun _ => fun
  | [d1, d2, g1] => { results := [.lit (.bool true)], args := [d1, d2], vars := [g1] }
  | _ => none }
def fnExactCanHoldRow : OpenClaim := { program := "ytfjbkblodgdcnaadoor", sum := "d82d4838a893b464dbed32bc337d7063d89f37004d2ff12aa36a2ac019e2dd9a", func := "loop.example/dualmodes/laws.FnExactCanHold", spec := "fnExactCanHold", inPlace := ["internal/reflectlite.TypeOf"], unfollowed := true, recurses := true, named := ["loop.example/dualmodes/impl.errTooGreat"], ifaces := true, apart := false, laid := [("loop.example/dualmodes/impl.errTooGreat", laid_loop_example_dualmodes_impl_errTooGreat)] }
def FnExactCanHoldSaid : Prop := fnExactCanHoldRow.holds Tryd.pinned (OpenSpec.ofChange fnExactCanHoldSpec)

/-- ITS FALSE NEIGHBOUR: 'it returns false'. Refute it at one input. -/
def fnExactCanHoldWrong : ChangeSpec := { name := "fnExactCanHold", vars := ["loop.example/dualmodes/impl.errTooGreat"], fn := fun _ => fun
  | [d1, d2, g1] => { results := [.lit (.bool false)], args := [d1, d2], vars := [g1] }
  | _ => none }
def FnExactCanHoldWrongFalsely : Prop := fnExactCanHoldRow.holds Tryd.pinned (OpenSpec.ofChange fnExactCanHoldWrong)

/- THE SECOND FORM. 'bulk': how many values and letters a reading holds, each counted each time it is reached (what is shared counts as often as it is met; a slice's spare places count too). A statement '..UptoSaid' is the law's where the arguments, and the package variables that the reading takes, are together of bulk at most 1048576: NARROWER than '..Said'. Prove '..Said' where nothing that the law and all that it calls make is longer than what came in: it says more and counts as full. Else prove '..UptoSaid'. A law counts once. -/
mutual
def uptoBulk {H : Type} : DataW H → Nat
  | .lit (.string bytes) => bytes.length + 1
  | .lit _ => 1
  | .nil => 1
  | .ptr d => uptoBulk d + 1
  | .slice elems spare => uptoBulkAll elems + uptoBulkAll spare + 1
  | .agg parts => uptoBulkAll parts + 1
  | .iface _ d => uptoBulk d + 1
  | .map entries => uptoBulkEntries entries + 1
  | .held _ => 1
def uptoBulkAll {H : Type} : List (DataW H) → Nat
  | [] => 0
  | d :: r => uptoBulk d + uptoBulkAll r
def uptoBulkEntries {H : Type} : List (Lit × DataW H) → Nat
  | [] => 0
  | x :: r => uptoBulkEntry x + uptoBulkEntries r
def uptoBulkEntry {H : Type} : Lit × DataW H → Nat
  | (.string bytes, d) => bytes.length + uptoBulk d + 1
  | (_, d) => uptoBulk d + 1
 end
def uptoSmall : (H : Type) → List (DataW H) → Bool := fun _ ds => decide (uptoBulkAll ds ≤ 1048576)
def OpenSpec.upto (s : _root_.Go.ChangeSpec) : _root_.Go.OpenSpec := { _root_.Go.OpenSpec.ofChange s with cond := some uptoSmall }

/-- 'laws.FnLeaveTask', WHERE WHAT IT READS IS OF BULK AT MOST 1048576: true; the input reads as it did. -/
def fnLeaveTaskUptoRow : OpenClaim := { program := "ytfjbkblodgdcnaadoor", sum := "d82d4838a893b464dbed32bc337d7063d89f37004d2ff12aa36a2ac019e2dd9a", func := "loop.example/dualmodes/laws.FnLeaveTask", spec := "fnLeaveTask", inPlace := ["internal/reflectlite.TypeOf"], unfollowed := true, recurses := true, named := ["loop.example/dualmodes/impl.errTooGreat"], ifaces := true, apart := false, laid := [("loop.example/dualmodes/impl.errTooGreat", laid_loop_example_dualmodes_impl_errTooGreat)], narrowed := true }
def FnLeaveTaskUptoSaid : Prop := fnLeaveTaskUptoRow.holds Tryd.pinned (OpenSpec.upto fnLeaveTaskSpec)

/-- 'laws.FnMostHigh', WHERE WHAT IT READS IS OF BULK AT MOST 1048576: true; the input reads as it did. -/
def fnMostHighUptoRow : OpenClaim := { program := "ytfjbkblodgdcnaadoor", sum := "d82d4838a893b464dbed32bc337d7063d89f37004d2ff12aa36a2ac019e2dd9a", func := "loop.example/dualmodes/laws.FnMostHigh", spec := "fnMostHigh", inPlace := ["internal/reflectlite.TypeOf"], unfollowed := true, recurses := true, named := ["loop.example/dualmodes/impl.errTooGreat"], ifaces := true, apart := false, laid := [("loop.example/dualmodes/impl.errTooGreat", laid_loop_example_dualmodes_impl_errTooGreat)], narrowed := true }
def FnMostHighUptoSaid : Prop := fnMostHighUptoRow.holds Tryd.pinned (OpenSpec.upto fnMostHighSpec)

/-- 'laws.FnMostLow', WHERE WHAT IT READS IS OF BULK AT MOST 1048576: true; the input reads as it did. -/
def fnMostLowUptoRow : OpenClaim := { program := "ytfjbkblodgdcnaadoor", sum := "d82d4838a893b464dbed32bc337d7063d89f37004d2ff12aa36a2ac019e2dd9a", func := "loop.example/dualmodes/laws.FnMostLow", spec := "fnMostLow", inPlace := ["internal/reflectlite.TypeOf"], unfollowed := true, recurses := true, named := ["loop.example/dualmodes/impl.errTooGreat"], ifaces := true, apart := false, laid := [("loop.example/dualmodes/impl.errTooGreat", laid_loop_example_dualmodes_impl_errTooGreat)], narrowed := true }
def FnMostLowUptoSaid : Prop := fnMostLowUptoRow.holds Tryd.pinned (OpenSpec.upto fnMostLowSpec)

/-- 'laws.FnMostLast', WHERE WHAT IT READS IS OF BULK AT MOST 1048576: true; the input reads as it did. -/
def fnMostLastUptoRow : OpenClaim := { program := "ytfjbkblodgdcnaadoor", sum := "d82d4838a893b464dbed32bc337d7063d89f37004d2ff12aa36a2ac019e2dd9a", func := "loop.example/dualmodes/laws.FnMostLast", spec := "fnMostLast", inPlace := ["internal/reflectlite.TypeOf"], unfollowed := true, recurses := true, named := ["loop.example/dualmodes/impl.errTooGreat"], ifaces := true, apart := false, laid := [("loop.example/dualmodes/impl.errTooGreat", laid_loop_example_dualmodes_impl_errTooGreat)], narrowed := true }
def FnMostLastUptoSaid : Prop := fnMostLastUptoRow.holds Tryd.pinned (OpenSpec.upto fnMostLastSpec)

/-- 'laws.FnRaiseShare', WHERE WHAT IT READS IS OF BULK AT MOST 1048576: true; the input reads as it did. -/
def fnRaiseShareUptoRow : OpenClaim := { program := "ytfjbkblodgdcnaadoor", sum := "d82d4838a893b464dbed32bc337d7063d89f37004d2ff12aa36a2ac019e2dd9a", func := "loop.example/dualmodes/laws.FnRaiseShare", spec := "fnRaiseShare", inPlace := ["internal/reflectlite.TypeOf"], unfollowed := true, recurses := true, named := ["loop.example/dualmodes/impl.errTooGreat"], ifaces := true, apart := false, laid := [("loop.example/dualmodes/impl.errTooGreat", laid_loop_example_dualmodes_impl_errTooGreat)], narrowed := true }
def FnRaiseShareUptoSaid : Prop := fnRaiseShareUptoRow.holds Tryd.pinned (OpenSpec.upto fnRaiseShareSpec)

/-- 'laws.FnGroupShare', WHERE WHAT IT READS IS OF BULK AT MOST 1048576: true; the input reads as it did. -/
def fnGroupShareUptoRow : OpenClaim := { program := "ytfjbkblodgdcnaadoor", sum := "d82d4838a893b464dbed32bc337d7063d89f37004d2ff12aa36a2ac019e2dd9a", func := "loop.example/dualmodes/laws.FnGroupShare", spec := "fnGroupShare", inPlace := ["internal/reflectlite.TypeOf"], unfollowed := true, recurses := true, named := ["loop.example/dualmodes/impl.errTooGreat"], ifaces := true, apart := false, laid := [("loop.example/dualmodes/impl.errTooGreat", laid_loop_example_dualmodes_impl_errTooGreat)], narrowed := true }
def FnGroupShareUptoSaid : Prop := fnGroupShareUptoRow.holds Tryd.pinned (OpenSpec.upto fnGroupShareSpec)

/-- 'laws.FnExactHoldsBy', WHERE WHAT IT READS IS OF BULK AT MOST 1048576: true; the input reads as it did. -/
def fnExactHoldsByUptoRow : OpenClaim := { program := "ytfjbkblodgdcnaadoor", sum := "d82d4838a893b464dbed32bc337d7063d89f37004d2ff12aa36a2ac019e2dd9a", func := "loop.example/dualmodes/laws.FnExactHoldsBy", spec := "fnExactHoldsBy", inPlace := ["internal/reflectlite.TypeOf"], unfollowed := true, recurses := true, named := ["loop.example/dualmodes/impl.errTooGreat"], ifaces := true, apart := false, laid := [("loop.example/dualmodes/impl.errTooGreat", laid_loop_example_dualmodes_impl_errTooGreat)], narrowed := true }
def FnExactHoldsByUptoSaid : Prop := fnExactHoldsByUptoRow.holds Tryd.pinned (OpenSpec.upto fnExactHoldsBySpec)

/-- 'laws.FnExactMostHigh', WHERE WHAT IT READS IS OF BULK AT MOST 1048576: true; the input reads as it did. -/
def fnExactMostHighUptoRow : OpenClaim := { program := "ytfjbkblodgdcnaadoor", sum := "d82d4838a893b464dbed32bc337d7063d89f37004d2ff12aa36a2ac019e2dd9a", func := "loop.example/dualmodes/laws.FnExactMostHigh", spec := "fnExactMostHigh", inPlace := ["internal/reflectlite.TypeOf"], unfollowed := true, recurses := true, named := ["loop.example/dualmodes/impl.errTooGreat"], ifaces := true, apart := false, laid := [("loop.example/dualmodes/impl.errTooGreat", laid_loop_example_dualmodes_impl_errTooGreat)], narrowed := true }
def FnExactMostHighUptoSaid : Prop := fnExactMostHighUptoRow.holds Tryd.pinned (OpenSpec.upto fnExactMostHighSpec)

/-- 'laws.FnExactMostLow', WHERE WHAT IT READS IS OF BULK AT MOST 1048576: true; the input reads as it did. -/
def fnExactMostLowUptoRow : OpenClaim := { program := "ytfjbkblodgdcnaadoor", sum := "d82d4838a893b464dbed32bc337d7063d89f37004d2ff12aa36a2ac019e2dd9a", func := "loop.example/dualmodes/laws.FnExactMostLow", spec := "fnExactMostLow", inPlace := ["internal/reflectlite.TypeOf"], unfollowed := true, recurses := true, named := ["loop.example/dualmodes/impl.errTooGreat"], ifaces := true, apart := false, laid := [("loop.example/dualmodes/impl.errTooGreat", laid_loop_example_dualmodes_impl_errTooGreat)], narrowed := true }
def FnExactMostLowUptoSaid : Prop := fnExactMostLowUptoRow.holds Tryd.pinned (OpenSpec.upto fnExactMostLowSpec)

/-- 'laws.FnExactCanHold', WHERE WHAT IT READS IS OF BULK AT MOST 1048576: true; the input reads as it did. -/
def fnExactCanHoldUptoRow : OpenClaim := { program := "ytfjbkblodgdcnaadoor", sum := "d82d4838a893b464dbed32bc337d7063d89f37004d2ff12aa36a2ac019e2dd9a", func := "loop.example/dualmodes/laws.FnExactCanHold", spec := "fnExactCanHold", inPlace := ["internal/reflectlite.TypeOf"], unfollowed := true, recurses := true, named := ["loop.example/dualmodes/impl.errTooGreat"], ifaces := true, apart := false, laid := [("loop.example/dualmodes/impl.errTooGreat", laid_loop_example_dualmodes_impl_errTooGreat)], narrowed := true }
def FnExactCanHoldUptoSaid : Prop := fnExactCanHoldUptoRow.holds Tryd.pinned (OpenSpec.upto fnExactCanHoldSpec)

end Rows
end Go.Proofs.YtfjbkblodgdcnaaDoor
