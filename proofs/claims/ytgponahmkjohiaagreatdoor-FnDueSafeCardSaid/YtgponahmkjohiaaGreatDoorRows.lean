/-
  NARROWER THAN 'FOR EVERY INPUT', by the rows' own cells (each row's printed sentence says how): FnPlaceSafe: ifaces, laid · FnDueSafe: ifaces, laid · FnRunTicks: ifaces, laid · FnRunEnds: ifaces, laid · FnRunPart: ifaces, laid · FnRunLow: ifaces, laid · FnRunWork: ifaces, laid · FnRunOwn: ifaces, laid · FnRunFirst: ifaces, laid · FnRunSwitch: ifaces, laid · FnRunIdleLow: ifaces, laid · FnRunNoJobs: ifaces, laid.
  DERIVED. THE GIVEN ROWS OF THIS SEAT. 12 by the template 'for every input the law returns true; each argument reads behind the call as it read before'; 0 by the template 'total and deterministic' (their statements: YtgponahmkjohiaaGreatDoorTotals.lean).
  GIVEN WITH THE SEED: the statements are not yours to turn. If you find one false, say at which input.
  Laid BY PROGRAM, IN A SANDBOX (cutbox-rows.mjs): the forced cells as the released guide's own fill.sh prints them over the translation 89f5f642f2657871… (all of the seat's roots in one cut). By AI agents, Wed Nov 11 2026. No macro, syntax, notation, axiom, sorry.
-/
import Derived.Test.YtgponahmkjohiaaGreatDoorChecked
import GoSem.Claim
import GoSem.ClaimJoined
import GoSem.ClaimMapViews
import Derived.JoinedTies
import Derived.KernelRfl
namespace Go.Proofs.YtgponahmkjohiaaGreatDoor
/- THE CELL 'sum', in the pinned program and in every row, IS THE sha256 OF THE DUMP (.gsa) THAT YtgponahmkjohiaaGreatDoorProg.lean LOADS. Nothing in Lean hashes anything: it is a label: what it is worth is what the hold of that sum in a sandbox is worth. -/
noncomputable def Tryz.pinned : Pinned := { name := "ytgponahmkjohiaagreatdoor", sum := "89f5f642f2657871009911e93871844d85cb5819b2f978e84686ca89e4277cab", checked := Tryz.checked }
namespace Rows
def none {H : Type} : Left H := { results := [], args := [] }

/- WHAT THE LISTED PACKAGE-LEVEL VARIABLES READ AS WHEN THE CALL BEGINS. Each datum BY PROGRAM (the guide's laid-datum.mjs) off the statement by which the dump's own 'gosem.cut.vars' lays the variable. In a bare row this is a premise. The card (YtgponahmkjohiaaGreatDoorCards.lean) ties it to the program's text. -/
def laid_loop_example_dualmodes_impl_errTooGreat {H : Type} : DataW H := .iface "*errors.errorString" (.ptr (.agg [.lit (.string [116, 104, 101, 32, 115, 104, 97, 114, 101, 32, 104, 97, 115, 32, 116, 111, 111, 32, 103, 114, 101, 97, 116, 32, 97, 32, 110, 117, 109, 98, 101, 114])]))

/-- 'laws.FnPlaceSafe': WHATEVER THE INPUT: true; the input reads as it did. -/
def fnPlaceSafeSpec : ChangeSpec := { name := "fnPlaceSafe", vars := ["loop.example/dualmodes/impl.errTooGreat"], fn := fun _ => fun
  | [d, g1] => { results := [.lit (.bool true)], args := [d], vars := [g1] }
  | _ => none }
def fnPlaceSafeRow : OpenClaim := { program := "ytgponahmkjohiaagreatdoor", sum := "89f5f642f2657871009911e93871844d85cb5819b2f978e84686ca89e4277cab", func := "loop.example/dualmodes/laws.FnPlaceSafe", spec := "fnPlaceSafe", inPlace := ["internal/reflectlite.TypeOf"], unfollowed := true, recurses := true, named := ["loop.example/dualmodes/impl.errTooGreat"], ifaces := true, apart := false, laid := [("loop.example/dualmodes/impl.errTooGreat", laid_loop_example_dualmodes_impl_errTooGreat)] }
def FnPlaceSafeSaid : Prop := fnPlaceSafeRow.holds Tryz.pinned (OpenSpec.ofChange fnPlaceSafeSpec)

/-- ITS FALSE NEIGHBOUR: 'it returns false'. Refute it at one input. -/
def fnPlaceSafeWrong : ChangeSpec := { name := "fnPlaceSafe", vars := ["loop.example/dualmodes/impl.errTooGreat"], fn := fun _ => fun
  | [d, g1] => { results := [.lit (.bool false)], args := [d], vars := [g1] }
  | _ => none }
def FnPlaceSafeWrongFalsely : Prop := fnPlaceSafeRow.holds Tryz.pinned (OpenSpec.ofChange fnPlaceSafeWrong)

/-- 'laws.FnDueSafe': WHATEVER THE INPUT: true; the input reads as it did. -/
def fnDueSafeSpec : ChangeSpec := { name := "fnDueSafe", vars := ["loop.example/dualmodes/impl.errTooGreat"], fn := fun _ => fun
  | [d, g1] => { results := [.lit (.bool true)], args := [d], vars := [g1] }
  | _ => none }
def fnDueSafeRow : OpenClaim := { program := "ytgponahmkjohiaagreatdoor", sum := "89f5f642f2657871009911e93871844d85cb5819b2f978e84686ca89e4277cab", func := "loop.example/dualmodes/laws.FnDueSafe", spec := "fnDueSafe", inPlace := ["internal/reflectlite.TypeOf"], unfollowed := true, recurses := true, named := ["loop.example/dualmodes/impl.errTooGreat"], ifaces := true, apart := false, laid := [("loop.example/dualmodes/impl.errTooGreat", laid_loop_example_dualmodes_impl_errTooGreat)] }
def FnDueSafeSaid : Prop := fnDueSafeRow.holds Tryz.pinned (OpenSpec.ofChange fnDueSafeSpec)

/-- ITS FALSE NEIGHBOUR: 'it returns false'. Refute it at one input. -/
def fnDueSafeWrong : ChangeSpec := { name := "fnDueSafe", vars := ["loop.example/dualmodes/impl.errTooGreat"], fn := fun _ => fun
  | [d, g1] => { results := [.lit (.bool false)], args := [d], vars := [g1] }
  | _ => none }
def FnDueSafeWrongFalsely : Prop := fnDueSafeRow.holds Tryz.pinned (OpenSpec.ofChange fnDueSafeWrong)

/-- 'laws.FnRunTicks': WHATEVER THE INPUT: true; the input reads as it did. -/
def fnRunTicksSpec : ChangeSpec := { name := "fnRunTicks", vars := ["loop.example/dualmodes/impl.errTooGreat"], fn := fun _ => fun
  | [d, g1] => { results := [.lit (.bool true)], args := [d], vars := [g1] }
  | _ => none }
def fnRunTicksRow : OpenClaim := { program := "ytgponahmkjohiaagreatdoor", sum := "89f5f642f2657871009911e93871844d85cb5819b2f978e84686ca89e4277cab", func := "loop.example/dualmodes/laws.FnRunTicks", spec := "fnRunTicks", inPlace := ["internal/reflectlite.TypeOf"], unfollowed := true, recurses := true, named := ["loop.example/dualmodes/impl.errTooGreat"], ifaces := true, apart := false, laid := [("loop.example/dualmodes/impl.errTooGreat", laid_loop_example_dualmodes_impl_errTooGreat)] }
def FnRunTicksSaid : Prop := fnRunTicksRow.holds Tryz.pinned (OpenSpec.ofChange fnRunTicksSpec)

/-- ITS FALSE NEIGHBOUR: 'it returns false'. Refute it at one input. -/
def fnRunTicksWrong : ChangeSpec := { name := "fnRunTicks", vars := ["loop.example/dualmodes/impl.errTooGreat"], fn := fun _ => fun
  | [d, g1] => { results := [.lit (.bool false)], args := [d], vars := [g1] }
  | _ => none }
def FnRunTicksWrongFalsely : Prop := fnRunTicksRow.holds Tryz.pinned (OpenSpec.ofChange fnRunTicksWrong)

/-- 'laws.FnRunEnds': WHATEVER THE INPUT: true; the input reads as it did. -/
def fnRunEndsSpec : ChangeSpec := { name := "fnRunEnds", vars := ["loop.example/dualmodes/impl.errTooGreat"], fn := fun _ => fun
  | [d, g1] => { results := [.lit (.bool true)], args := [d], vars := [g1] }
  | _ => none }
def fnRunEndsRow : OpenClaim := { program := "ytgponahmkjohiaagreatdoor", sum := "89f5f642f2657871009911e93871844d85cb5819b2f978e84686ca89e4277cab", func := "loop.example/dualmodes/laws.FnRunEnds", spec := "fnRunEnds", inPlace := ["internal/reflectlite.TypeOf"], unfollowed := true, recurses := true, named := ["loop.example/dualmodes/impl.errTooGreat"], ifaces := true, apart := false, laid := [("loop.example/dualmodes/impl.errTooGreat", laid_loop_example_dualmodes_impl_errTooGreat)] }
def FnRunEndsSaid : Prop := fnRunEndsRow.holds Tryz.pinned (OpenSpec.ofChange fnRunEndsSpec)

/-- ITS FALSE NEIGHBOUR: 'it returns false'. Refute it at one input. -/
def fnRunEndsWrong : ChangeSpec := { name := "fnRunEnds", vars := ["loop.example/dualmodes/impl.errTooGreat"], fn := fun _ => fun
  | [d, g1] => { results := [.lit (.bool false)], args := [d], vars := [g1] }
  | _ => none }
def FnRunEndsWrongFalsely : Prop := fnRunEndsRow.holds Tryz.pinned (OpenSpec.ofChange fnRunEndsWrong)

/-- 'laws.FnRunPart': WHATEVER THE INPUT: true; the input reads as it did. -/
def fnRunPartSpec : ChangeSpec := { name := "fnRunPart", vars := ["loop.example/dualmodes/impl.errTooGreat"], fn := fun _ => fun
  | [d, g1] => { results := [.lit (.bool true)], args := [d], vars := [g1] }
  | _ => none }
def fnRunPartRow : OpenClaim := { program := "ytgponahmkjohiaagreatdoor", sum := "89f5f642f2657871009911e93871844d85cb5819b2f978e84686ca89e4277cab", func := "loop.example/dualmodes/laws.FnRunPart", spec := "fnRunPart", inPlace := ["internal/reflectlite.TypeOf"], unfollowed := true, recurses := true, named := ["loop.example/dualmodes/impl.errTooGreat"], ifaces := true, apart := false, laid := [("loop.example/dualmodes/impl.errTooGreat", laid_loop_example_dualmodes_impl_errTooGreat)] }
def FnRunPartSaid : Prop := fnRunPartRow.holds Tryz.pinned (OpenSpec.ofChange fnRunPartSpec)

/-- ITS FALSE NEIGHBOUR: 'it returns false'. Refute it at one input. -/
def fnRunPartWrong : ChangeSpec := { name := "fnRunPart", vars := ["loop.example/dualmodes/impl.errTooGreat"], fn := fun _ => fun
  | [d, g1] => { results := [.lit (.bool false)], args := [d], vars := [g1] }
  | _ => none }
def FnRunPartWrongFalsely : Prop := fnRunPartRow.holds Tryz.pinned (OpenSpec.ofChange fnRunPartWrong)

/-- 'laws.FnRunLow': WHATEVER THE INPUT: true; the input reads as it did. -/
def fnRunLowSpec : ChangeSpec := { name := "fnRunLow", vars := ["loop.example/dualmodes/impl.errTooGreat"], fn := fun _ => fun
  | [d, g1] => { results := [.lit (.bool true)], args := [d], vars := [g1] }
  | _ => none }
def fnRunLowRow : OpenClaim := { program := "ytgponahmkjohiaagreatdoor", sum := "89f5f642f2657871009911e93871844d85cb5819b2f978e84686ca89e4277cab", func := "loop.example/dualmodes/laws.FnRunLow", spec := "fnRunLow", inPlace := ["internal/reflectlite.TypeOf"], unfollowed := true, recurses := true, named := ["loop.example/dualmodes/impl.errTooGreat"], ifaces := true, apart := false, laid := [("loop.example/dualmodes/impl.errTooGreat", laid_loop_example_dualmodes_impl_errTooGreat)] }
def FnRunLowSaid : Prop := fnRunLowRow.holds Tryz.pinned (OpenSpec.ofChange fnRunLowSpec)

/-- ITS FALSE NEIGHBOUR: 'it returns false'. Refute it at one input. -/
def fnRunLowWrong : ChangeSpec := { name := "fnRunLow", vars := ["loop.example/dualmodes/impl.errTooGreat"], fn := fun _ => fun
  | [d, g1] => { results := [.lit (.bool false)], args := [d], vars := [g1] }
  | _ => none }
def FnRunLowWrongFalsely : Prop := fnRunLowRow.holds Tryz.pinned (OpenSpec.ofChange fnRunLowWrong)

/-- 'laws.FnRunWork': WHATEVER THE INPUT: true; the input reads as it did. -/
def fnRunWorkSpec : ChangeSpec := { name := "fnRunWork", vars := ["loop.example/dualmodes/impl.errTooGreat"], fn := fun _ => fun
  | [d, g1] => { results := [.lit (.bool true)], args := [d], vars := [g1] }
  | _ => none }
def fnRunWorkRow : OpenClaim := { program := "ytgponahmkjohiaagreatdoor", sum := "89f5f642f2657871009911e93871844d85cb5819b2f978e84686ca89e4277cab", func := "loop.example/dualmodes/laws.FnRunWork", spec := "fnRunWork", inPlace := ["internal/reflectlite.TypeOf"], unfollowed := true, recurses := true, named := ["loop.example/dualmodes/impl.errTooGreat"], ifaces := true, apart := false, laid := [("loop.example/dualmodes/impl.errTooGreat", laid_loop_example_dualmodes_impl_errTooGreat)] }
def FnRunWorkSaid : Prop := fnRunWorkRow.holds Tryz.pinned (OpenSpec.ofChange fnRunWorkSpec)

/-- ITS FALSE NEIGHBOUR: 'it returns false'. Refute it at one input. -/
def fnRunWorkWrong : ChangeSpec := { name := "fnRunWork", vars := ["loop.example/dualmodes/impl.errTooGreat"], fn := fun _ => fun
  | [d, g1] => { results := [.lit (.bool false)], args := [d], vars := [g1] }
  | _ => none }
def FnRunWorkWrongFalsely : Prop := fnRunWorkRow.holds Tryz.pinned (OpenSpec.ofChange fnRunWorkWrong)

/-- 'laws.FnRunOwn': WHATEVER THE INPUT: true; the input reads as it did. -/
def fnRunOwnSpec : ChangeSpec := { name := "fnRunOwn", vars := ["loop.example/dualmodes/impl.errTooGreat"], fn := fun _ => fun
  | [d, g1] => { results := [.lit (.bool true)], args := [d], vars := [g1] }
  | _ => none }
def fnRunOwnRow : OpenClaim := { program := "ytgponahmkjohiaagreatdoor", sum := "89f5f642f2657871009911e93871844d85cb5819b2f978e84686ca89e4277cab", func := "loop.example/dualmodes/laws.FnRunOwn", spec := "fnRunOwn", inPlace := ["internal/reflectlite.TypeOf"], unfollowed := true, recurses := true, named := ["loop.example/dualmodes/impl.errTooGreat"], ifaces := true, apart := false, laid := [("loop.example/dualmodes/impl.errTooGreat", laid_loop_example_dualmodes_impl_errTooGreat)] }
def FnRunOwnSaid : Prop := fnRunOwnRow.holds Tryz.pinned (OpenSpec.ofChange fnRunOwnSpec)

/-- ITS FALSE NEIGHBOUR: 'it returns false'. Refute it at one input. -/
def fnRunOwnWrong : ChangeSpec := { name := "fnRunOwn", vars := ["loop.example/dualmodes/impl.errTooGreat"], fn := fun _ => fun
  | [d, g1] => { results := [.lit (.bool false)], args := [d], vars := [g1] }
  | _ => none }
def FnRunOwnWrongFalsely : Prop := fnRunOwnRow.holds Tryz.pinned (OpenSpec.ofChange fnRunOwnWrong)

/-- 'laws.FnRunFirst': WHATEVER THE INPUT: true; the input reads as it did. -/
def fnRunFirstSpec : ChangeSpec := { name := "fnRunFirst", vars := ["loop.example/dualmodes/impl.errTooGreat"], fn := fun _ => fun
  | [d, g1] => { results := [.lit (.bool true)], args := [d], vars := [g1] }
  | _ => none }
def fnRunFirstRow : OpenClaim := { program := "ytgponahmkjohiaagreatdoor", sum := "89f5f642f2657871009911e93871844d85cb5819b2f978e84686ca89e4277cab", func := "loop.example/dualmodes/laws.FnRunFirst", spec := "fnRunFirst", inPlace := ["internal/reflectlite.TypeOf"], unfollowed := true, recurses := true, named := ["loop.example/dualmodes/impl.errTooGreat"], ifaces := true, apart := false, laid := [("loop.example/dualmodes/impl.errTooGreat", laid_loop_example_dualmodes_impl_errTooGreat)] }
def FnRunFirstSaid : Prop := fnRunFirstRow.holds Tryz.pinned (OpenSpec.ofChange fnRunFirstSpec)

/-- ITS FALSE NEIGHBOUR: 'it returns false'. Refute it at one input. -/
def fnRunFirstWrong : ChangeSpec := { name := "fnRunFirst", vars := ["loop.example/dualmodes/impl.errTooGreat"], fn := fun _ => fun
  | [d, g1] => { results := [.lit (.bool false)], args := [d], vars := [g1] }
  | _ => none }
def FnRunFirstWrongFalsely : Prop := fnRunFirstRow.holds Tryz.pinned (OpenSpec.ofChange fnRunFirstWrong)

/-- 'laws.FnRunSwitch': WHATEVER THE INPUT: true; the input reads as it did. -/
def fnRunSwitchSpec : ChangeSpec := { name := "fnRunSwitch", vars := ["loop.example/dualmodes/impl.errTooGreat"], fn := fun _ => fun
  | [d, g1] => { results := [.lit (.bool true)], args := [d], vars := [g1] }
  | _ => none }
def fnRunSwitchRow : OpenClaim := { program := "ytgponahmkjohiaagreatdoor", sum := "89f5f642f2657871009911e93871844d85cb5819b2f978e84686ca89e4277cab", func := "loop.example/dualmodes/laws.FnRunSwitch", spec := "fnRunSwitch", inPlace := ["internal/reflectlite.TypeOf"], unfollowed := true, recurses := true, named := ["loop.example/dualmodes/impl.errTooGreat"], ifaces := true, apart := false, laid := [("loop.example/dualmodes/impl.errTooGreat", laid_loop_example_dualmodes_impl_errTooGreat)] }
def FnRunSwitchSaid : Prop := fnRunSwitchRow.holds Tryz.pinned (OpenSpec.ofChange fnRunSwitchSpec)

/-- ITS FALSE NEIGHBOUR: 'it returns false'. Refute it at one input. -/
def fnRunSwitchWrong : ChangeSpec := { name := "fnRunSwitch", vars := ["loop.example/dualmodes/impl.errTooGreat"], fn := fun _ => fun
  | [d, g1] => { results := [.lit (.bool false)], args := [d], vars := [g1] }
  | _ => none }
def FnRunSwitchWrongFalsely : Prop := fnRunSwitchRow.holds Tryz.pinned (OpenSpec.ofChange fnRunSwitchWrong)

/-- 'laws.FnRunIdleLow': WHATEVER THE INPUT: true; the input reads as it did. -/
def fnRunIdleLowSpec : ChangeSpec := { name := "fnRunIdleLow", vars := ["loop.example/dualmodes/impl.errTooGreat"], fn := fun _ => fun
  | [d, g1] => { results := [.lit (.bool true)], args := [d], vars := [g1] }
  | _ => none }
def fnRunIdleLowRow : OpenClaim := { program := "ytgponahmkjohiaagreatdoor", sum := "89f5f642f2657871009911e93871844d85cb5819b2f978e84686ca89e4277cab", func := "loop.example/dualmodes/laws.FnRunIdleLow", spec := "fnRunIdleLow", inPlace := ["internal/reflectlite.TypeOf"], unfollowed := true, recurses := true, named := ["loop.example/dualmodes/impl.errTooGreat"], ifaces := true, apart := false, laid := [("loop.example/dualmodes/impl.errTooGreat", laid_loop_example_dualmodes_impl_errTooGreat)] }
def FnRunIdleLowSaid : Prop := fnRunIdleLowRow.holds Tryz.pinned (OpenSpec.ofChange fnRunIdleLowSpec)

/-- ITS FALSE NEIGHBOUR: 'it returns false'. Refute it at one input. -/
def fnRunIdleLowWrong : ChangeSpec := { name := "fnRunIdleLow", vars := ["loop.example/dualmodes/impl.errTooGreat"], fn := fun _ => fun
  | [d, g1] => { results := [.lit (.bool false)], args := [d], vars := [g1] }
  | _ => none }
def FnRunIdleLowWrongFalsely : Prop := fnRunIdleLowRow.holds Tryz.pinned (OpenSpec.ofChange fnRunIdleLowWrong)

/-- 'laws.FnRunNoJobs': WHATEVER THE INPUT: true; the input reads as it did. -/
def fnRunNoJobsSpec : ChangeSpec := { name := "fnRunNoJobs", vars := ["loop.example/dualmodes/impl.errTooGreat"], fn := fun _ => fun
  | [d, g1] => { results := [.lit (.bool true)], args := [d], vars := [g1] }
  | _ => none }
def fnRunNoJobsRow : OpenClaim := { program := "ytgponahmkjohiaagreatdoor", sum := "89f5f642f2657871009911e93871844d85cb5819b2f978e84686ca89e4277cab", func := "loop.example/dualmodes/laws.FnRunNoJobs", spec := "fnRunNoJobs", inPlace := ["internal/reflectlite.TypeOf"], unfollowed := true, recurses := true, named := ["loop.example/dualmodes/impl.errTooGreat"], ifaces := true, apart := false, laid := [("loop.example/dualmodes/impl.errTooGreat", laid_loop_example_dualmodes_impl_errTooGreat)] }
def FnRunNoJobsSaid : Prop := fnRunNoJobsRow.holds Tryz.pinned (OpenSpec.ofChange fnRunNoJobsSpec)

/-- ITS FALSE NEIGHBOUR: 'it returns false'. Refute it at one input. -/
def fnRunNoJobsWrong : ChangeSpec := { name := "fnRunNoJobs", vars := ["loop.example/dualmodes/impl.errTooGreat"], fn := fun _ => fun
  | [d, g1] => { results := [.lit (.bool false)], args := [d], vars := [g1] }
  | _ => none }
def FnRunNoJobsWrongFalsely : Prop := fnRunNoJobsRow.holds Tryz.pinned (OpenSpec.ofChange fnRunNoJobsWrong)

/- THE SECOND FORM. 'bulk': how many values and letters a reading holds, each counted each time it is reached (what is shared counts as often as it is met; a slice's spare places count too). A statement '..UptoSaid' is the law's where the arguments, and the package variables that the reading takes, are together of bulk at most 1048576: NARROWER than '..Said'. Prove '..Said' where nothing that the law and all that it calls make is longer than what came in: it says more and counts as full. Else prove '..UptoSaid'. A law counts once. -/
mutual
def uptoBulk {H : Type} : DataW H → Nat
  | .lit (.string bytes) => bytes.length + 1
  | .lit _ => 1
  | .nil => 1
  | .ptr d => uptoBulk d + 1
  | .slice elems spare => uptoBulkAll elems + uptoBulkAll spare + 1
  | .agg parts => uptoBulkAll parts + 1
  | .iface _ d => uptoBulk d + 1
  | .map entries => uptoBulkEntries entries + 1
  | .held _ => 1
def uptoBulkAll {H : Type} : List (DataW H) → Nat
  | [] => 0
  | d :: r => uptoBulk d + uptoBulkAll r
def uptoBulkEntries {H : Type} : List (Lit × DataW H) → Nat
  | [] => 0
  | x :: r => uptoBulkEntry x + uptoBulkEntries r
def uptoBulkEntry {H : Type} : Lit × DataW H → Nat
  | (.string bytes, d) => bytes.length + uptoBulk d + 1
  | (_, d) => uptoBulk d + 1
 end
def uptoSmall : (H : Type) → List (DataW H) → Bool := fun _ ds => decide (uptoBulkAll ds ≤ 1048576)
def OpenSpec.upto (s : _root_.Go.ChangeSpec) : _root_.Go.OpenSpec := { _root_.Go.OpenSpec.ofChange s with cond := some uptoSmall }

/-- 'laws.FnPlaceSafe', WHERE WHAT IT READS IS OF BULK AT MOST 1048576: true; the input reads as it did. -/
def fnPlaceSafeUptoRow : OpenClaim := { program := "ytgponahmkjohiaagreatdoor", sum := "89f5f642f2657871009911e93871844d85cb5819b2f978e84686ca89e4277cab", func := "loop.example/dualmodes/laws.FnPlaceSafe", spec := "fnPlaceSafe", inPlace := ["internal/reflectlite.TypeOf"], unfollowed := true, recurses := true, named := ["loop.example/dualmodes/impl.errTooGreat"], ifaces := true, apart := false, laid := [("loop.example/dualmodes/impl.errTooGreat", laid_loop_example_dualmodes_impl_errTooGreat)], narrowed := true }
def FnPlaceSafeUptoSaid : Prop := fnPlaceSafeUptoRow.holds Tryz.pinned (OpenSpec.upto fnPlaceSafeSpec)

/-- 'laws.FnDueSafe', WHERE WHAT IT READS IS OF BULK AT MOST 1048576: true; the input reads as it did. -/
def fnDueSafeUptoRow : OpenClaim := { program := "ytgponahmkjohiaagreatdoor", sum := "89f5f642f2657871009911e93871844d85cb5819b2f978e84686ca89e4277cab", func := "loop.example/dualmodes/laws.FnDueSafe", spec := "fnDueSafe", inPlace := ["internal/reflectlite.TypeOf"], unfollowed := true, recurses := true, named := ["loop.example/dualmodes/impl.errTooGreat"], ifaces := true, apart := false, laid := [("loop.example/dualmodes/impl.errTooGreat", laid_loop_example_dualmodes_impl_errTooGreat)], narrowed := true }
def FnDueSafeUptoSaid : Prop := fnDueSafeUptoRow.holds Tryz.pinned (OpenSpec.upto fnDueSafeSpec)

/-- 'laws.FnRunTicks', WHERE WHAT IT READS IS OF BULK AT MOST 1048576: true; the input reads as it did. -/
def fnRunTicksUptoRow : OpenClaim := { program := "ytgponahmkjohiaagreatdoor", sum := "89f5f642f2657871009911e93871844d85cb5819b2f978e84686ca89e4277cab", func := "loop.example/dualmodes/laws.FnRunTicks", spec := "fnRunTicks", inPlace := ["internal/reflectlite.TypeOf"], unfollowed := true, recurses := true, named := ["loop.example/dualmodes/impl.errTooGreat"], ifaces := true, apart := false, laid := [("loop.example/dualmodes/impl.errTooGreat", laid_loop_example_dualmodes_impl_errTooGreat)], narrowed := true }
def FnRunTicksUptoSaid : Prop := fnRunTicksUptoRow.holds Tryz.pinned (OpenSpec.upto fnRunTicksSpec)

/-- 'laws.FnRunEnds', WHERE WHAT IT READS IS OF BULK AT MOST 1048576: true; the input reads as it did. -/
def fnRunEndsUptoRow : OpenClaim := { program := "ytgponahmkjohiaagreatdoor", sum := "89f5f642f2657871009911e93871844d85cb5819b2f978e84686ca89e4277cab", func := "loop.example/dualmodes/laws.FnRunEnds", spec := "fnRunEnds", inPlace := ["internal/reflectlite.TypeOf"], unfollowed := true, recurses := true, named := ["loop.example/dualmodes/impl.errTooGreat"], ifaces := true, apart := false, laid := [("loop.example/dualmodes/impl.errTooGreat", laid_loop_example_dualmodes_impl_errTooGreat)], narrowed := true }
def FnRunEndsUptoSaid : Prop := fnRunEndsUptoRow.holds Tryz.pinned (OpenSpec.upto fnRunEndsSpec)

/-- 'laws.FnRunPart', WHERE WHAT IT READS IS OF BULK AT MOST 1048576: true; the input reads as it did. -/
def fnRunPartUptoRow : OpenClaim := { program := "ytgponahmkjohiaagreatdoor", sum := "89f5f642f2657871009911e93871844d85cb5819b2f978e84686ca89e4277cab", func := "loop.example/dualmodes/laws.FnRunPart", spec := "fnRunPart", inPlace := ["internal/reflectlite.TypeOf"], unfollowed := true, recurses := true, named := ["loop.example/dualmodes/impl.errTooGreat"], ifaces := true, apart := false, laid := [("loop.example/dualmodes/impl.errTooGreat", laid_loop_example_dualmodes_impl_errTooGreat)], narrowed := true }
def FnRunPartUptoSaid : Prop := fnRunPartUptoRow.holds Tryz.pinned (OpenSpec.upto fnRunPartSpec)

/-- 'laws.FnRunLow', WHERE WHAT IT READS IS OF BULK AT MOST 1048576: true; the input reads as it did. -/
def fnRunLowUptoRow : OpenClaim := { program := "ytgponahmkjohiaagreatdoor", sum := "89f5f642f2657871009911e93871844d85cb5819b2f978e84686ca89e4277cab", func := "loop.example/dualmodes/laws.FnRunLow", spec := "fnRunLow", inPlace := ["internal/reflectlite.TypeOf"], unfollowed := true, recurses := true, named := ["loop.example/dualmodes/impl.errTooGreat"], ifaces := true, apart := false, laid := [("loop.example/dualmodes/impl.errTooGreat", laid_loop_example_dualmodes_impl_errTooGreat)], narrowed := true }
def FnRunLowUptoSaid : Prop := fnRunLowUptoRow.holds Tryz.pinned (OpenSpec.upto fnRunLowSpec)

/-- 'laws.FnRunWork', WHERE WHAT IT READS IS OF BULK AT MOST 1048576: true; the input reads as it did. -/
def fnRunWorkUptoRow : OpenClaim := { program := "ytgponahmkjohiaagreatdoor", sum := "89f5f642f2657871009911e93871844d85cb5819b2f978e84686ca89e4277cab", func := "loop.example/dualmodes/laws.FnRunWork", spec := "fnRunWork", inPlace := ["internal/reflectlite.TypeOf"], unfollowed := true, recurses := true, named := ["loop.example/dualmodes/impl.errTooGreat"], ifaces := true, apart := false, laid := [("loop.example/dualmodes/impl.errTooGreat", laid_loop_example_dualmodes_impl_errTooGreat)], narrowed := true }
def FnRunWorkUptoSaid : Prop := fnRunWorkUptoRow.holds Tryz.pinned (OpenSpec.upto fnRunWorkSpec)

/-- 'laws.FnRunOwn', WHERE WHAT IT READS IS OF BULK AT MOST 1048576: true; the input reads as it did. -/
def fnRunOwnUptoRow : OpenClaim := { program := "ytgponahmkjohiaagreatdoor", sum := "89f5f642f2657871009911e93871844d85cb5819b2f978e84686ca89e4277cab", func := "loop.example/dualmodes/laws.FnRunOwn", spec := "fnRunOwn", inPlace := ["internal/reflectlite.TypeOf"], unfollowed := true, recurses := true, named := ["loop.example/dualmodes/impl.errTooGreat"], ifaces := true, apart := false, laid := [("loop.example/dualmodes/impl.errTooGreat", laid_loop_example_dualmodes_impl_errTooGreat)], narrowed := true }
def FnRunOwnUptoSaid : Prop := fnRunOwnUptoRow.holds Tryz.pinned (OpenSpec.upto fnRunOwnSpec)

/-- 'laws.FnRunFirst', WHERE WHAT IT READS IS OF BULK AT MOST 1048576: true; the input reads as it did. -/
def fnRunFirstUptoRow : OpenClaim := { program := "ytgponahmkjohiaagreatdoor", sum := "89f5f642f2657871009911e93871844d85cb5819b2f978e84686ca89e4277cab", func := "loop.example/dualmodes/laws.FnRunFirst", spec := "fnRunFirst", inPlace := ["internal/reflectlite.TypeOf"], unfollowed := true, recurses := true, named := ["loop.example/dualmodes/impl.errTooGreat"], ifaces := true, apart := false, laid := [("loop.example/dualmodes/impl.errTooGreat", laid_loop_example_dualmodes_impl_errTooGreat)], narrowed := true }
def FnRunFirstUptoSaid : Prop := fnRunFirstUptoRow.holds Tryz.pinned (OpenSpec.upto fnRunFirstSpec)

/-- 'laws.FnRunSwitch', WHERE WHAT IT READS IS OF BULK AT MOST 1048576: true; the input reads as it did. -/
def fnRunSwitchUptoRow : OpenClaim := { program := "ytgponahmkjohiaagreatdoor", sum := "89f5f642f2657871009911e93871844d85cb5819b2f978e84686ca89e4277cab", func := "loop.example/dualmodes/laws.FnRunSwitch", spec := "fnRunSwitch", inPlace := ["internal/reflectlite.TypeOf"], unfollowed := true, recurses := true, named := ["loop.example/dualmodes/impl.errTooGreat"], ifaces := true, apart := false, laid := [("loop.example/dualmodes/impl.errTooGreat", laid_loop_example_dualmodes_impl_errTooGreat)], narrowed := true }
def FnRunSwitchUptoSaid : Prop := fnRunSwitchUptoRow.holds Tryz.pinned (OpenSpec.upto fnRunSwitchSpec)

/-- 'laws.FnRunIdleLow', WHERE WHAT IT READS IS OF BULK AT MOST 1048576: true; the input reads as it did. -/
def fnRunIdleLowUptoRow : OpenClaim := { program := "ytgponahmkjohiaagreatdoor", sum := "89f5f642f2657871009911e93871844d85cb5819b2f978e84686ca89e4277cab", func := "loop.example/dualmodes/laws.FnRunIdleLow", spec := "fnRunIdleLow", inPlace := ["internal/reflectlite.TypeOf"], unfollowed := true, recurses := true, named := ["loop.example/dualmodes/impl.errTooGreat"], ifaces := true, apart := false, laid := [("loop.example/dualmodes/impl.errTooGreat", laid_loop_example_dualmodes_impl_errTooGreat)], narrowed := true }
def FnRunIdleLowUptoSaid : Prop := fnRunIdleLowUptoRow.holds Tryz.pinned (OpenSpec.upto fnRunIdleLowSpec)

/-- 'laws.FnRunNoJobs', WHERE WHAT IT READS IS OF BULK AT MOST 1048576: true; the input reads as it did. -/
def fnRunNoJobsUptoRow : OpenClaim := { program := "ytgponahmkjohiaagreatdoor", sum := "89f5f642f2657871009911e93871844d85cb5819b2f978e84686ca89e4277cab", func := "loop.example/dualmodes/laws.FnRunNoJobs", spec := "fnRunNoJobs", inPlace := ["internal/reflectlite.TypeOf"], unfollowed := true, recurses := true, named := ["loop.example/dualmodes/impl.errTooGreat"], ifaces := true, apart := false, laid := [("loop.example/dualmodes/impl.errTooGreat", laid_loop_example_dualmodes_impl_errTooGreat)], narrowed := true }
def FnRunNoJobsUptoSaid : Prop := fnRunNoJobsUptoRow.holds Tryz.pinned (OpenSpec.upto fnRunNoJobsSpec)

end Rows
end Go.Proofs.YtgponahmkjohiaaGreatDoor
