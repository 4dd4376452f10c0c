/-
  NARROWER THAN 'FOR EVERY INPUT', by the rows' own cells (each row's printed sentence says how): FnRunWorstLow: ifaces, laid · FnRunResponse: ifaces, laid · FnRunSwitchBound: ifaces, laid · FnDropLow: ifaces, laid · FnMissesLater: ifaces, laid · FnRanEnds: ifaces, laid · FnTraceSize: ifaces, laid · FnHoldsSafe: ifaces, laid · FnExactRunJobs: ifaces, laid.
  DERIVED. THE GIVEN ROWS OF THIS SEAT. 9 by the template 'for every input the law returns true; each argument reads behind the call as it read before'; 0 by the template 'total and deterministic' (their statements: YtgponahmkjohiabGreatDoorTotals.lean).
  GIVEN WITH THE SEED: the statements are not yours to turn. If you find one false, say at which input.
  Laid BY PROGRAM, IN A SANDBOX (cutbox-rows.mjs): the forced cells as the released guide's own fill.sh prints them over the translation 9075f1bd8ab24e42… (all of the seat's roots in one cut). By AI agents, Wed Nov 11 2026. No macro, syntax, notation, axiom, sorry.
-/
import Derived.Test.YtgponahmkjohiabGreatDoorChecked
import GoSem.Claim
import GoSem.ClaimJoined
import GoSem.ClaimMapViews
import Derived.JoinedTies
import Derived.KernelRfl
namespace Go.Proofs.YtgponahmkjohiabGreatDoor
/- THE CELL 'sum', in the pinned program and in every row, IS THE sha256 OF THE DUMP (.gsa) THAT YtgponahmkjohiabGreatDoorProg.lean LOADS. Nothing in Lean hashes anything: it is a label: what it is worth is what the hold of that sum in a sandbox is worth. -/
noncomputable def Tryz.pinned : Pinned := { name := "ytgponahmkjohiabgreatdoor", sum := "9075f1bd8ab24e429abadcb168f811a5e4606bb096a89e43f66ff1f760f87727", checked := Tryz.checked }
namespace Rows
def none {H : Type} : Left H := { results := [], args := [] }

/- WHAT THE LISTED PACKAGE-LEVEL VARIABLES READ AS WHEN THE CALL BEGINS. Each datum BY PROGRAM (the guide's laid-datum.mjs) off the statement by which the dump's own 'gosem.cut.vars' lays the variable. In a bare row this is a premise. The card (YtgponahmkjohiabGreatDoorCards.lean) ties it to the program's text. -/
def laid_loop_example_dualmodes_impl_errTooGreat {H : Type} : DataW H := .iface "*errors.errorString" (.ptr (.agg [.lit (.string [116, 104, 101, 32, 115, 104, 97, 114, 101, 32, 104, 97, 115, 32, 116, 111, 111, 32, 103, 114, 101, 97, 116, 32, 97, 32, 110, 117, 109, 98, 101, 114])]))

/-- 'laws.FnRunWorstLow': WHATEVER THE INPUT: true; the input reads as it did. -/
def fnRunWorstLowSpec : ChangeSpec := { name := "fnRunWorstLow", vars := ["loop.example/dualmodes/impl.errTooGreat"], fn := fun _ => fun
  | [d, g1] => { results := [.lit (.bool true)], args := [d], vars := [g1] }
  | _ => none }
def fnRunWorstLowRow : OpenClaim := { program := "ytgponahmkjohiabgreatdoor", sum := "9075f1bd8ab24e429abadcb168f811a5e4606bb096a89e43f66ff1f760f87727", func := "loop.example/dualmodes/laws.FnRunWorstLow", spec := "fnRunWorstLow", inPlace := ["internal/reflectlite.TypeOf"], unfollowed := true, recurses := true, named := ["loop.example/dualmodes/impl.errTooGreat"], ifaces := true, apart := false, laid := [("loop.example/dualmodes/impl.errTooGreat", laid_loop_example_dualmodes_impl_errTooGreat)] }
def FnRunWorstLowSaid : Prop := fnRunWorstLowRow.holds Tryz.pinned (OpenSpec.ofChange fnRunWorstLowSpec)

/-- ITS FALSE NEIGHBOUR: 'it returns false'. Refute it at one input. -/
def fnRunWorstLowWrong : ChangeSpec := { name := "fnRunWorstLow", vars := ["loop.example/dualmodes/impl.errTooGreat"], fn := fun _ => fun
  | [d, g1] => { results := [.lit (.bool false)], args := [d], vars := [g1] }
  | _ => none }
def FnRunWorstLowWrongFalsely : Prop := fnRunWorstLowRow.holds Tryz.pinned (OpenSpec.ofChange fnRunWorstLowWrong)

/-- 'laws.FnRunResponse': WHATEVER THE INPUT: true; the input reads as it did. -/
def fnRunResponseSpec : ChangeSpec := { name := "fnRunResponse", vars := ["loop.example/dualmodes/impl.errTooGreat"], fn := fun _ => fun
  | [d, g1] => { results := [.lit (.bool true)], args := [d], vars := [g1] }
  | _ => none }
def fnRunResponseRow : OpenClaim := { program := "ytgponahmkjohiabgreatdoor", sum := "9075f1bd8ab24e429abadcb168f811a5e4606bb096a89e43f66ff1f760f87727", func := "loop.example/dualmodes/laws.FnRunResponse", spec := "fnRunResponse", inPlace := ["internal/reflectlite.TypeOf"], unfollowed := true, recurses := true, named := ["loop.example/dualmodes/impl.errTooGreat"], ifaces := true, apart := false, laid := [("loop.example/dualmodes/impl.errTooGreat", laid_loop_example_dualmodes_impl_errTooGreat)] }
def FnRunResponseSaid : Prop := fnRunResponseRow.holds Tryz.pinned (OpenSpec.ofChange fnRunResponseSpec)

/-- ITS FALSE NEIGHBOUR: 'it returns false'. Refute it at one input. -/
def fnRunResponseWrong : ChangeSpec := { name := "fnRunResponse", vars := ["loop.example/dualmodes/impl.errTooGreat"], fn := fun _ => fun
  | [d, g1] => { results := [.lit (.bool false)], args := [d], vars := [g1] }
  | _ => none }
def FnRunResponseWrongFalsely : Prop := fnRunResponseRow.holds Tryz.pinned (OpenSpec.ofChange fnRunResponseWrong)

/-- 'laws.FnRunSwitchBound': WHATEVER THE INPUT: true; the input reads as it did. -/
def fnRunSwitchBoundSpec : ChangeSpec := { name := "fnRunSwitchBound", vars := ["loop.example/dualmodes/impl.errTooGreat"], fn := fun _ => fun
  | [d, g1] => { results := [.lit (.bool true)], args := [d], vars := [g1] }
  | _ => none }
def fnRunSwitchBoundRow : OpenClaim := { program := "ytgponahmkjohiabgreatdoor", sum := "9075f1bd8ab24e429abadcb168f811a5e4606bb096a89e43f66ff1f760f87727", func := "loop.example/dualmodes/laws.FnRunSwitchBound", spec := "fnRunSwitchBound", inPlace := ["internal/reflectlite.TypeOf"], unfollowed := true, recurses := true, named := ["loop.example/dualmodes/impl.errTooGreat"], ifaces := true, apart := false, laid := [("loop.example/dualmodes/impl.errTooGreat", laid_loop_example_dualmodes_impl_errTooGreat)] }
def FnRunSwitchBoundSaid : Prop := fnRunSwitchBoundRow.holds Tryz.pinned (OpenSpec.ofChange fnRunSwitchBoundSpec)

/-- ITS FALSE NEIGHBOUR: 'it returns false'. Refute it at one input. -/
def fnRunSwitchBoundWrong : ChangeSpec := { name := "fnRunSwitchBound", vars := ["loop.example/dualmodes/impl.errTooGreat"], fn := fun _ => fun
  | [d, g1] => { results := [.lit (.bool false)], args := [d], vars := [g1] }
  | _ => none }
def FnRunSwitchBoundWrongFalsely : Prop := fnRunSwitchBoundRow.holds Tryz.pinned (OpenSpec.ofChange fnRunSwitchBoundWrong)

/-- 'laws.FnDropLow': WHATEVER THE INPUT: true; the input reads as it did. -/
def fnDropLowSpec : ChangeSpec := { name := "fnDropLow", vars := ["loop.example/dualmodes/impl.errTooGreat"], fn := fun _ => fun
  | [d, g1] => { results := [.lit (.bool true)], args := [d], vars := [g1] }
  | _ => none }
def fnDropLowRow : OpenClaim := { program := "ytgponahmkjohiabgreatdoor", sum := "9075f1bd8ab24e429abadcb168f811a5e4606bb096a89e43f66ff1f760f87727", func := "loop.example/dualmodes/laws.FnDropLow", spec := "fnDropLow", inPlace := ["internal/reflectlite.TypeOf"], unfollowed := true, recurses := true, named := ["loop.example/dualmodes/impl.errTooGreat"], ifaces := true, apart := false, laid := [("loop.example/dualmodes/impl.errTooGreat", laid_loop_example_dualmodes_impl_errTooGreat)] }
def FnDropLowSaid : Prop := fnDropLowRow.holds Tryz.pinned (OpenSpec.ofChange fnDropLowSpec)

/-- ITS FALSE NEIGHBOUR: 'it returns false'. Refute it at one input. -/
def fnDropLowWrong : ChangeSpec := { name := "fnDropLow", vars := ["loop.example/dualmodes/impl.errTooGreat"], fn := fun _ => fun
  | [d, g1] => { results := [.lit (.bool false)], args := [d], vars := [g1] }
  | _ => none }
def FnDropLowWrongFalsely : Prop := fnDropLowRow.holds Tryz.pinned (OpenSpec.ofChange fnDropLowWrong)

/-- 'laws.FnMissesLater': WHATEVER THE INPUT: true; the input reads as it did. -/
def fnMissesLaterSpec : ChangeSpec := { name := "fnMissesLater", vars := ["loop.example/dualmodes/impl.errTooGreat"], fn := fun _ => fun
  | [d, g1] => { results := [.lit (.bool true)], args := [d], vars := [g1] }
  | _ => none }
def fnMissesLaterRow : OpenClaim := { program := "ytgponahmkjohiabgreatdoor", sum := "9075f1bd8ab24e429abadcb168f811a5e4606bb096a89e43f66ff1f760f87727", func := "loop.example/dualmodes/laws.FnMissesLater", spec := "fnMissesLater", inPlace := ["internal/reflectlite.TypeOf"], unfollowed := true, recurses := true, named := ["loop.example/dualmodes/impl.errTooGreat"], ifaces := true, apart := false, laid := [("loop.example/dualmodes/impl.errTooGreat", laid_loop_example_dualmodes_impl_errTooGreat)] }
def FnMissesLaterSaid : Prop := fnMissesLaterRow.holds Tryz.pinned (OpenSpec.ofChange fnMissesLaterSpec)

/-- ITS FALSE NEIGHBOUR: 'it returns false'. Refute it at one input. -/
def fnMissesLaterWrong : ChangeSpec := { name := "fnMissesLater", vars := ["loop.example/dualmodes/impl.errTooGreat"], fn := fun _ => fun
  | [d, g1] => { results := [.lit (.bool false)], args := [d], vars := [g1] }
  | _ => none }
def FnMissesLaterWrongFalsely : Prop := fnMissesLaterRow.holds Tryz.pinned (OpenSpec.ofChange fnMissesLaterWrong)

/-- 'laws.FnRanEnds': WHATEVER THE INPUT: true; the input reads as it did. -/
def fnRanEndsSpec : ChangeSpec := { name := "fnRanEnds", vars := ["loop.example/dualmodes/impl.errTooGreat"], fn := fun _ => fun
  | [d, g1] => { results := [.lit (.bool true)], args := [d], vars := [g1] }
  | _ => none }
def fnRanEndsRow : OpenClaim := { program := "ytgponahmkjohiabgreatdoor", sum := "9075f1bd8ab24e429abadcb168f811a5e4606bb096a89e43f66ff1f760f87727", func := "loop.example/dualmodes/laws.FnRanEnds", spec := "fnRanEnds", inPlace := ["internal/reflectlite.TypeOf"], unfollowed := true, recurses := true, named := ["loop.example/dualmodes/impl.errTooGreat"], ifaces := true, apart := false, laid := [("loop.example/dualmodes/impl.errTooGreat", laid_loop_example_dualmodes_impl_errTooGreat)] }
def FnRanEndsSaid : Prop := fnRanEndsRow.holds Tryz.pinned (OpenSpec.ofChange fnRanEndsSpec)

/-- ITS FALSE NEIGHBOUR: 'it returns false'. Refute it at one input. -/
def fnRanEndsWrong : ChangeSpec := { name := "fnRanEnds", vars := ["loop.example/dualmodes/impl.errTooGreat"], fn := fun _ => fun
  | [d, g1] => { results := [.lit (.bool false)], args := [d], vars := [g1] }
  | _ => none }
def FnRanEndsWrongFalsely : Prop := fnRanEndsRow.holds Tryz.pinned (OpenSpec.ofChange fnRanEndsWrong)

/-- 'laws.FnTraceSize': WHATEVER THE INPUT: true; the input reads as it did. -/
def fnTraceSizeSpec : ChangeSpec := { name := "fnTraceSize", vars := ["loop.example/dualmodes/impl.errTooGreat"], fn := fun _ => fun
  | [d, g1] => { results := [.lit (.bool true)], args := [d], vars := [g1] }
  | _ => none }
def fnTraceSizeRow : OpenClaim := { program := "ytgponahmkjohiabgreatdoor", sum := "9075f1bd8ab24e429abadcb168f811a5e4606bb096a89e43f66ff1f760f87727", func := "loop.example/dualmodes/laws.FnTraceSize", spec := "fnTraceSize", inPlace := ["internal/reflectlite.TypeOf"], unfollowed := true, recurses := true, named := ["loop.example/dualmodes/impl.errTooGreat"], ifaces := true, apart := false, laid := [("loop.example/dualmodes/impl.errTooGreat", laid_loop_example_dualmodes_impl_errTooGreat)] }
def FnTraceSizeSaid : Prop := fnTraceSizeRow.holds Tryz.pinned (OpenSpec.ofChange fnTraceSizeSpec)

/-- ITS FALSE NEIGHBOUR: 'it returns false'. Refute it at one input. -/
def fnTraceSizeWrong : ChangeSpec := { name := "fnTraceSize", vars := ["loop.example/dualmodes/impl.errTooGreat"], fn := fun _ => fun
  | [d, g1] => { results := [.lit (.bool false)], args := [d], vars := [g1] }
  | _ => none }
def FnTraceSizeWrongFalsely : Prop := fnTraceSizeRow.holds Tryz.pinned (OpenSpec.ofChange fnTraceSizeWrong)

/-- 'laws.FnHoldsSafe': WHATEVER THE INPUT: true; the input reads as it did. -/
def fnHoldsSafeSpec : ChangeSpec := { name := "fnHoldsSafe", vars := ["loop.example/dualmodes/impl.errTooGreat"], fn := fun _ => fun
  | [d, g1] => { results := [.lit (.bool true)], args := [d], vars := [g1] }
  | _ => none }
def fnHoldsSafeRow : OpenClaim := { program := "ytgponahmkjohiabgreatdoor", sum := "9075f1bd8ab24e429abadcb168f811a5e4606bb096a89e43f66ff1f760f87727", func := "loop.example/dualmodes/laws.FnHoldsSafe", spec := "fnHoldsSafe", inPlace := ["internal/reflectlite.TypeOf"], unfollowed := true, recurses := true, named := ["loop.example/dualmodes/impl.errTooGreat"], ifaces := true, apart := false, laid := [("loop.example/dualmodes/impl.errTooGreat", laid_loop_example_dualmodes_impl_errTooGreat)] }
def FnHoldsSafeSaid : Prop := fnHoldsSafeRow.holds Tryz.pinned (OpenSpec.ofChange fnHoldsSafeSpec)

/-- ITS FALSE NEIGHBOUR: 'it returns false'. Refute it at one input. -/
def fnHoldsSafeWrong : ChangeSpec := { name := "fnHoldsSafe", vars := ["loop.example/dualmodes/impl.errTooGreat"], fn := fun _ => fun
  | [d, g1] => { results := [.lit (.bool false)], args := [d], vars := [g1] }
  | _ => none }
def FnHoldsSafeWrongFalsely : Prop := fnHoldsSafeRow.holds Tryz.pinned (OpenSpec.ofChange fnHoldsSafeWrong)

/-- 'laws.FnExactRunJobs': WHATEVER THE INPUT: true; the input reads as it did. -/
def fnExactRunJobsSpec : ChangeSpec := { name := "fnExactRunJobs", vars := ["loop.example/dualmodes/impl.errTooGreat"], fn := fun _ => fun
  | [d1, d2, d3, d4, g1] => { results := [.lit (.bool true)], args := [d1, d2, d3, d4], vars := [g1] }
  | _ => none }
def fnExactRunJobsRow : OpenClaim := { program := "ytgponahmkjohiabgreatdoor", sum := "9075f1bd8ab24e429abadcb168f811a5e4606bb096a89e43f66ff1f760f87727", func := "loop.example/dualmodes/laws.FnExactRunJobs", spec := "fnExactRunJobs", inPlace := ["internal/reflectlite.TypeOf"], unfollowed := true, recurses := true, named := ["loop.example/dualmodes/impl.errTooGreat"], ifaces := true, apart := false, laid := [("loop.example/dualmodes/impl.errTooGreat", laid_loop_example_dualmodes_impl_errTooGreat)] }
def FnExactRunJobsSaid : Prop := fnExactRunJobsRow.holds Tryz.pinned (OpenSpec.ofChange fnExactRunJobsSpec)

/-- ITS FALSE NEIGHBOUR: 'it returns false'. Refute it at one input. -/
def fnExactRunJobsWrong : ChangeSpec := { name := "fnExactRunJobs", vars := ["loop.example/dualmodes/impl.errTooGreat"], fn := fun _ => fun
  | [d1, d2, d3, d4, g1] => { results := [.lit (.bool false)], args := [d1, d2, d3, d4], vars := [g1] }
  | _ => none }
def FnExactRunJobsWrongFalsely : Prop := fnExactRunJobsRow.holds Tryz.pinned (OpenSpec.ofChange fnExactRunJobsWrong)

/- THE SECOND FORM. 'bulk': how many values and letters a reading holds, each counted each time it is reached (what is shared counts as often as it is met; a slice's spare places count too). A statement '..UptoSaid' is the law's where the arguments, and the package variables that the reading takes, are together of bulk at most 1048576: NARROWER than '..Said'. Prove '..Said' where nothing that the law and all that it calls make is longer than what came in: it says more and counts as full. Else prove '..UptoSaid'. A law counts once. -/
mutual
def uptoBulk {H : Type} : DataW H → Nat
  | .lit (.string bytes) => bytes.length + 1
  | .lit _ => 1
  | .nil => 1
  | .ptr d => uptoBulk d + 1
  | .slice elems spare => uptoBulkAll elems + uptoBulkAll spare + 1
  | .agg parts => uptoBulkAll parts + 1
  | .iface _ d => uptoBulk d + 1
  | .map entries => uptoBulkEntries entries + 1
  | .held _ => 1
def uptoBulkAll {H : Type} : List (DataW H) → Nat
  | [] => 0
  | d :: r => uptoBulk d + uptoBulkAll r
def uptoBulkEntries {H : Type} : List (Lit × DataW H) → Nat
  | [] => 0
  | x :: r => uptoBulkEntry x + uptoBulkEntries r
def uptoBulkEntry {H : Type} : Lit × DataW H → Nat
  | (.string bytes, d) => bytes.length + uptoBulk d + 1
  | (_, d) => uptoBulk d + 1
 end
def uptoSmall : (H : Type) → List (DataW H) → Bool := fun _ ds => decide (uptoBulkAll ds ≤ 1048576)
def OpenSpec.upto (s : _root_.Go.ChangeSpec) : _root_.Go.OpenSpec := { _root_.Go.OpenSpec.ofChange s with cond := some uptoSmall }

/-- 'laws.FnRunWorstLow', WHERE WHAT IT READS IS OF BULK AT MOST 1048576: true; the input reads as it did. -/
def fnRunWorstLowUptoRow : OpenClaim := { program := "ytgponahmkjohiabgreatdoor", sum := "9075f1bd8ab24e429abadcb168f811a5e4606bb096a89e43f66ff1f760f87727", func := "loop.example/dualmodes/laws.FnRunWorstLow", spec := "fnRunWorstLow", inPlace := ["internal/reflectlite.TypeOf"], unfollowed := true, recurses := true, named := ["loop.example/dualmodes/impl.errTooGreat"], ifaces := true, apart := false, laid := [("loop.example/dualmodes/impl.errTooGreat", laid_loop_example_dualmodes_impl_errTooGreat)], narrowed := true }
def FnRunWorstLowUptoSaid : Prop := fnRunWorstLowUptoRow.holds Tryz.pinned (OpenSpec.upto fnRunWorstLowSpec)

/-- 'laws.FnRunResponse', WHERE WHAT IT READS IS OF BULK AT MOST 1048576: true; the input reads as it did. -/
def fnRunResponseUptoRow : OpenClaim := { program := "ytgponahmkjohiabgreatdoor", sum := "9075f1bd8ab24e429abadcb168f811a5e4606bb096a89e43f66ff1f760f87727", func := "loop.example/dualmodes/laws.FnRunResponse", spec := "fnRunResponse", inPlace := ["internal/reflectlite.TypeOf"], unfollowed := true, recurses := true, named := ["loop.example/dualmodes/impl.errTooGreat"], ifaces := true, apart := false, laid := [("loop.example/dualmodes/impl.errTooGreat", laid_loop_example_dualmodes_impl_errTooGreat)], narrowed := true }
def FnRunResponseUptoSaid : Prop := fnRunResponseUptoRow.holds Tryz.pinned (OpenSpec.upto fnRunResponseSpec)

/-- 'laws.FnRunSwitchBound', WHERE WHAT IT READS IS OF BULK AT MOST 1048576: true; the input reads as it did. -/
def fnRunSwitchBoundUptoRow : OpenClaim := { program := "ytgponahmkjohiabgreatdoor", sum := "9075f1bd8ab24e429abadcb168f811a5e4606bb096a89e43f66ff1f760f87727", func := "loop.example/dualmodes/laws.FnRunSwitchBound", spec := "fnRunSwitchBound", inPlace := ["internal/reflectlite.TypeOf"], unfollowed := true, recurses := true, named := ["loop.example/dualmodes/impl.errTooGreat"], ifaces := true, apart := false, laid := [("loop.example/dualmodes/impl.errTooGreat", laid_loop_example_dualmodes_impl_errTooGreat)], narrowed := true }
def FnRunSwitchBoundUptoSaid : Prop := fnRunSwitchBoundUptoRow.holds Tryz.pinned (OpenSpec.upto fnRunSwitchBoundSpec)

/-- 'laws.FnDropLow', WHERE WHAT IT READS IS OF BULK AT MOST 1048576: true; the input reads as it did. -/
def fnDropLowUptoRow : OpenClaim := { program := "ytgponahmkjohiabgreatdoor", sum := "9075f1bd8ab24e429abadcb168f811a5e4606bb096a89e43f66ff1f760f87727", func := "loop.example/dualmodes/laws.FnDropLow", spec := "fnDropLow", inPlace := ["internal/reflectlite.TypeOf"], unfollowed := true, recurses := true, named := ["loop.example/dualmodes/impl.errTooGreat"], ifaces := true, apart := false, laid := [("loop.example/dualmodes/impl.errTooGreat", laid_loop_example_dualmodes_impl_errTooGreat)], narrowed := true }
def FnDropLowUptoSaid : Prop := fnDropLowUptoRow.holds Tryz.pinned (OpenSpec.upto fnDropLowSpec)

/-- 'laws.FnMissesLater', WHERE WHAT IT READS IS OF BULK AT MOST 1048576: true; the input reads as it did. -/
def fnMissesLaterUptoRow : OpenClaim := { program := "ytgponahmkjohiabgreatdoor", sum := "9075f1bd8ab24e429abadcb168f811a5e4606bb096a89e43f66ff1f760f87727", func := "loop.example/dualmodes/laws.FnMissesLater", spec := "fnMissesLater", inPlace := ["internal/reflectlite.TypeOf"], unfollowed := true, recurses := true, named := ["loop.example/dualmodes/impl.errTooGreat"], ifaces := true, apart := false, laid := [("loop.example/dualmodes/impl.errTooGreat", laid_loop_example_dualmodes_impl_errTooGreat)], narrowed := true }
def FnMissesLaterUptoSaid : Prop := fnMissesLaterUptoRow.holds Tryz.pinned (OpenSpec.upto fnMissesLaterSpec)

/-- 'laws.FnRanEnds', WHERE WHAT IT READS IS OF BULK AT MOST 1048576: true; the input reads as it did. -/
def fnRanEndsUptoRow : OpenClaim := { program := "ytgponahmkjohiabgreatdoor", sum := "9075f1bd8ab24e429abadcb168f811a5e4606bb096a89e43f66ff1f760f87727", func := "loop.example/dualmodes/laws.FnRanEnds", spec := "fnRanEnds", inPlace := ["internal/reflectlite.TypeOf"], unfollowed := true, recurses := true, named := ["loop.example/dualmodes/impl.errTooGreat"], ifaces := true, apart := false, laid := [("loop.example/dualmodes/impl.errTooGreat", laid_loop_example_dualmodes_impl_errTooGreat)], narrowed := true }
def FnRanEndsUptoSaid : Prop := fnRanEndsUptoRow.holds Tryz.pinned (OpenSpec.upto fnRanEndsSpec)

/-- 'laws.FnTraceSize', WHERE WHAT IT READS IS OF BULK AT MOST 1048576: true; the input reads as it did. -/
def fnTraceSizeUptoRow : OpenClaim := { program := "ytgponahmkjohiabgreatdoor", sum := "9075f1bd8ab24e429abadcb168f811a5e4606bb096a89e43f66ff1f760f87727", func := "loop.example/dualmodes/laws.FnTraceSize", spec := "fnTraceSize", inPlace := ["internal/reflectlite.TypeOf"], unfollowed := true, recurses := true, named := ["loop.example/dualmodes/impl.errTooGreat"], ifaces := true, apart := false, laid := [("loop.example/dualmodes/impl.errTooGreat", laid_loop_example_dualmodes_impl_errTooGreat)], narrowed := true }
def FnTraceSizeUptoSaid : Prop := fnTraceSizeUptoRow.holds Tryz.pinned (OpenSpec.upto fnTraceSizeSpec)

/-- 'laws.FnHoldsSafe', WHERE WHAT IT READS IS OF BULK AT MOST 1048576: true; the input reads as it did. -/
def fnHoldsSafeUptoRow : OpenClaim := { program := "ytgponahmkjohiabgreatdoor", sum := "9075f1bd8ab24e429abadcb168f811a5e4606bb096a89e43f66ff1f760f87727", func := "loop.example/dualmodes/laws.FnHoldsSafe", spec := "fnHoldsSafe", inPlace := ["internal/reflectlite.TypeOf"], unfollowed := true, recurses := true, named := ["loop.example/dualmodes/impl.errTooGreat"], ifaces := true, apart := false, laid := [("loop.example/dualmodes/impl.errTooGreat", laid_loop_example_dualmodes_impl_errTooGreat)], narrowed := true }
def FnHoldsSafeUptoSaid : Prop := fnHoldsSafeUptoRow.holds Tryz.pinned (OpenSpec.upto fnHoldsSafeSpec)

/-- 'laws.FnExactRunJobs', WHERE WHAT IT READS IS OF BULK AT MOST 1048576: true; the input reads as it did. -/
def fnExactRunJobsUptoRow : OpenClaim := { program := "ytgponahmkjohiabgreatdoor", sum := "9075f1bd8ab24e429abadcb168f811a5e4606bb096a89e43f66ff1f760f87727", func := "loop.example/dualmodes/laws.FnExactRunJobs", spec := "fnExactRunJobs", inPlace := ["internal/reflectlite.TypeOf"], unfollowed := true, recurses := true, named := ["loop.example/dualmodes/impl.errTooGreat"], ifaces := true, apart := false, laid := [("loop.example/dualmodes/impl.errTooGreat", laid_loop_example_dualmodes_impl_errTooGreat)], narrowed := true }
def FnExactRunJobsUptoSaid : Prop := fnExactRunJobsUptoRow.holds Tryz.pinned (OpenSpec.upto fnExactRunJobsSpec)

end Rows
end Go.Proofs.YtgponahmkjohiabGreatDoor
