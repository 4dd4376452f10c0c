/-
  NARROWER THAN 'FOR EVERY INPUT', by the rows' own cells (each row's printed sentence says how): FnHoldsVirtual: ifaces, laid · FnFactorOf: ifaces, laid · FnVirtualDue: ifaces, laid · FnHoldsPlain: ifaces, laid · FnLoadOf: ifaces, laid · FnImplicit: ifaces, laid · FnPlainFactor: ifaces, laid · FnVirtualSort: ifaces, laid · FnVirtualLow: ifaces, laid · FnFactorLow: ifaces, laid · FnFactorExact: ifaces, laid · FnVirtualOrder: ifaces, laid.
  DERIVED. THE GIVEN ROWS OF THIS SEAT. 12 by the template 'for every input the law returns true; each argument reads behind the call as it read before'; 0 by the template 'total and deterministic' (their statements: YtpngfonnoepmfaaDoorTotals.lean).
  GIVEN WITH THE SEED: the statements are not yours to turn. If you find one false, say at which input.
  Laid BY PROGRAM, IN A SANDBOX (cutbox-rows.mjs): the forced cells as the released guide's own fill.sh prints them over the translation e7488502d4d89af8… (all of the seat's roots in one cut). By AI agents, Wed Nov 11 2026. No macro, syntax, notation, axiom, sorry.
-/
import Derived.Test.YtpngfonnoepmfaaDoorChecked
import GoSem.Claim
import GoSem.ClaimJoined
import GoSem.ClaimMapViews
import Derived.JoinedTies
import Derived.KernelRfl
namespace Go.Proofs.YtpngfonnoepmfaaDoor
/- THE CELL 'sum', in the pinned program and in every row, IS THE sha256 OF THE DUMP (.gsa) THAT YtpngfonnoepmfaaDoorProg.lean LOADS. Nothing in Lean hashes anything: it is a label: what it is worth is what the hold of that sum in a sandbox is worth. -/
noncomputable def Tryd.pinned : Pinned := { name := "ytpngfonnoepmfaadoor", sum := "e7488502d4d89af890fee321eeed510b993fd96a18b318fdeb80ab4046dfa013", checked := Tryd.checked }
namespace Rows
def none {H : Type} : Left H := { results := [], args := [] }

/- WHAT THE LISTED PACKAGE-LEVEL VARIABLES READ AS WHEN THE CALL BEGINS. Each datum BY PROGRAM (the guide's laid-datum.mjs) off the statement by which the dump's own 'gosem.cut.vars' lays the variable. In a bare row this is a premise. The card (YtpngfonnoepmfaaDoorCards.lean) ties it to the program's text. -/
def laid_loop_example_dualmodes_impl_errTooGreat {H : Type} : DataW H := .iface "*errors.errorString" (.ptr (.agg [.lit (.string [116, 104, 101, 32, 115, 104, 97, 114, 101, 32, 104, 97, 115, 32, 116, 111, 111, 32, 103, 114, 101, 97, 116, 32, 97, 32, 110, 117, 109, 98, 101, 114])]))

/-- 'laws.FnHoldsVirtual': WHATEVER THE INPUT: true; the input reads as it did. -/
def fnHoldsVirtualSpec : ChangeSpec := { name := "fnHoldsVirtual", vars := ["loop.example/dualmodes/impl.errTooGreat"], fn := fun _ => fun
  | [d, g1] => { results := [.lit (.bool true)], args := [d], vars := [g1] }
  | _ => none }
def fnHoldsVirtualRow : OpenClaim := { program := "ytpngfonnoepmfaadoor", sum := "e7488502d4d89af890fee321eeed510b993fd96a18b318fdeb80ab4046dfa013", func := "loop.example/dualmodes/laws.FnHoldsVirtual", spec := "fnHoldsVirtual", inPlace := ["internal/reflectlite.TypeOf"], unfollowed := true, recurses := true, named := ["loop.example/dualmodes/impl.errTooGreat"], ifaces := true, apart := false, laid := [("loop.example/dualmodes/impl.errTooGreat", laid_loop_example_dualmodes_impl_errTooGreat)] }
def FnHoldsVirtualSaid : Prop := fnHoldsVirtualRow.holds Tryd.pinned (OpenSpec.ofChange fnHoldsVirtualSpec)

/-- ITS FALSE NEIGHBOUR: 'it returns false'. Refute it at one input. -/
def fnHoldsVirtualWrong : ChangeSpec := { name := "fnHoldsVirtual", vars := ["loop.example/dualmodes/impl.errTooGreat"], fn := fun _ => fun
  | [d, g1] => { results := [.lit (.bool false)], args := [d], vars := [g1] }
  | _ => none }
def FnHoldsVirtualWrongFalsely : Prop := fnHoldsVirtualRow.holds Tryd.pinned (OpenSpec.ofChange fnHoldsVirtualWrong)

/-- 'laws.FnFactorOf': WHATEVER THE INPUT: true; the input reads as it did. -/
def fnFactorOfSpec : ChangeSpec := { name := "fnFactorOf", vars := ["loop.example/dualmodes/impl.errTooGreat"], fn := fun _ => fun
  | [d, g1] => { results := [.lit (.bool true)], args := [d], vars := [g1] }
  | _ => none }
def fnFactorOfRow : OpenClaim := { program := "ytpngfonnoepmfaadoor", sum := "e7488502d4d89af890fee321eeed510b993fd96a18b318fdeb80ab4046dfa013", func := "loop.example/dualmodes/laws.FnFactorOf", spec := "fnFactorOf", inPlace := ["internal/reflectlite.TypeOf"], unfollowed := true, recurses := true, named := ["loop.example/dualmodes/impl.errTooGreat"], ifaces := true, apart := false, laid := [("loop.example/dualmodes/impl.errTooGreat", laid_loop_example_dualmodes_impl_errTooGreat)] }
def FnFactorOfSaid : Prop := fnFactorOfRow.holds Tryd.pinned (OpenSpec.ofChange fnFactorOfSpec)

/-- ITS FALSE NEIGHBOUR: 'it returns false'. Refute it at one input. -/
def fnFactorOfWrong : ChangeSpec := { name := "fnFactorOf", vars := ["loop.example/dualmodes/impl.errTooGreat"], fn := fun _ => fun
  | [d, g1] => { results := [.lit (.bool false)], args := [d], vars := [g1] }
  | _ => none }
def FnFactorOfWrongFalsely : Prop := fnFactorOfRow.holds Tryd.pinned (OpenSpec.ofChange fnFactorOfWrong)

/-- 'laws.FnVirtualDue': WHATEVER THE INPUT: true; the input reads as it did. -/
def fnVirtualDueSpec : ChangeSpec := { name := "fnVirtualDue", vars := ["loop.example/dualmodes/impl.errTooGreat"], fn := fun _ => fun
  | [d, g1] => { results := [.lit (.bool true)], args := [d], vars := [g1] }
  | _ => none }
def fnVirtualDueRow : OpenClaim := { program := "ytpngfonnoepmfaadoor", sum := "e7488502d4d89af890fee321eeed510b993fd96a18b318fdeb80ab4046dfa013", func := "loop.example/dualmodes/laws.FnVirtualDue", spec := "fnVirtualDue", inPlace := ["internal/reflectlite.TypeOf"], unfollowed := true, recurses := true, named := ["loop.example/dualmodes/impl.errTooGreat"], ifaces := true, apart := false, laid := [("loop.example/dualmodes/impl.errTooGreat", laid_loop_example_dualmodes_impl_errTooGreat)] }
def FnVirtualDueSaid : Prop := fnVirtualDueRow.holds Tryd.pinned (OpenSpec.ofChange fnVirtualDueSpec)

/-- ITS FALSE NEIGHBOUR: 'it returns false'. Refute it at one input. -/
def fnVirtualDueWrong : ChangeSpec := { name := "fnVirtualDue", vars := ["loop.example/dualmodes/impl.errTooGreat"], fn := fun _ => fun
  | [d, g1] => { results := [.lit (.bool false)], args := [d], vars := [g1] }
  | _ => none }
def FnVirtualDueWrongFalsely : Prop := fnVirtualDueRow.holds Tryd.pinned (OpenSpec.ofChange fnVirtualDueWrong)

/-- 'laws.FnHoldsPlain': WHATEVER THE INPUT: true; the input reads as it did. -/
def fnHoldsPlainSpec : ChangeSpec := { name := "fnHoldsPlain", vars := ["loop.example/dualmodes/impl.errTooGreat"], fn := fun _ => fun
  | [d, g1] => { results := [.lit (.bool true)], args := [d], vars := [g1] }
  | _ => none }
def fnHoldsPlainRow : OpenClaim := { program := "ytpngfonnoepmfaadoor", sum := "e7488502d4d89af890fee321eeed510b993fd96a18b318fdeb80ab4046dfa013", func := "loop.example/dualmodes/laws.FnHoldsPlain", spec := "fnHoldsPlain", inPlace := ["internal/reflectlite.TypeOf"], unfollowed := true, recurses := true, named := ["loop.example/dualmodes/impl.errTooGreat"], ifaces := true, apart := false, laid := [("loop.example/dualmodes/impl.errTooGreat", laid_loop_example_dualmodes_impl_errTooGreat)] }
def FnHoldsPlainSaid : Prop := fnHoldsPlainRow.holds Tryd.pinned (OpenSpec.ofChange fnHoldsPlainSpec)

/-- ITS FALSE NEIGHBOUR: 'it returns false'. Refute it at one input. -/
def fnHoldsPlainWrong : ChangeSpec := { name := "fnHoldsPlain", vars := ["loop.example/dualmodes/impl.errTooGreat"], fn := fun _ => fun
  | [d, g1] => { results := [.lit (.bool false)], args := [d], vars := [g1] }
  | _ => none }
def FnHoldsPlainWrongFalsely : Prop := fnHoldsPlainRow.holds Tryd.pinned (OpenSpec.ofChange fnHoldsPlainWrong)

/-- 'laws.FnLoadOf': WHATEVER THE INPUT: true; the input reads as it did. -/
def fnLoadOfSpec : ChangeSpec := { name := "fnLoadOf", vars := ["loop.example/dualmodes/impl.errTooGreat"], fn := fun _ => fun
  | [d, g1] => { results := [.lit (.bool true)], args := [d], vars := [g1] }
  | _ => none }
def fnLoadOfRow : OpenClaim := { program := "ytpngfonnoepmfaadoor", sum := "e7488502d4d89af890fee321eeed510b993fd96a18b318fdeb80ab4046dfa013", func := "loop.example/dualmodes/laws.FnLoadOf", spec := "fnLoadOf", inPlace := ["internal/reflectlite.TypeOf"], unfollowed := true, recurses := true, named := ["loop.example/dualmodes/impl.errTooGreat"], ifaces := true, apart := false, laid := [("loop.example/dualmodes/impl.errTooGreat", laid_loop_example_dualmodes_impl_errTooGreat)] }
def FnLoadOfSaid : Prop := fnLoadOfRow.holds Tryd.pinned (OpenSpec.ofChange fnLoadOfSpec)

/-- ITS FALSE NEIGHBOUR: 'it returns false'. Refute it at one input. -/
def fnLoadOfWrong : ChangeSpec := { name := "fnLoadOf", vars := ["loop.example/dualmodes/impl.errTooGreat"], fn := fun _ => fun
  | [d, g1] => { results := [.lit (.bool false)], args := [d], vars := [g1] }
  | _ => none }
def FnLoadOfWrongFalsely : Prop := fnLoadOfRow.holds Tryd.pinned (OpenSpec.ofChange fnLoadOfWrong)

/-- 'laws.FnImplicit': WHATEVER THE INPUT: true; the input reads as it did. -/
def fnImplicitSpec : ChangeSpec := { name := "fnImplicit", vars := ["loop.example/dualmodes/impl.errTooGreat"], fn := fun _ => fun
  | [d, g1] => { results := [.lit (.bool true)], args := [d], vars := [g1] }
  | _ => none }
def fnImplicitRow : OpenClaim := { program := "ytpngfonnoepmfaadoor", sum := "e7488502d4d89af890fee321eeed510b993fd96a18b318fdeb80ab4046dfa013", func := "loop.example/dualmodes/laws.FnImplicit", spec := "fnImplicit", inPlace := ["internal/reflectlite.TypeOf"], unfollowed := true, recurses := true, named := ["loop.example/dualmodes/impl.errTooGreat"], ifaces := true, apart := false, laid := [("loop.example/dualmodes/impl.errTooGreat", laid_loop_example_dualmodes_impl_errTooGreat)] }
def FnImplicitSaid : Prop := fnImplicitRow.holds Tryd.pinned (OpenSpec.ofChange fnImplicitSpec)

/-- ITS FALSE NEIGHBOUR: 'it returns false'. Refute it at one input. -/
def fnImplicitWrong : ChangeSpec := { name := "fnImplicit", vars := ["loop.example/dualmodes/impl.errTooGreat"], fn := fun _ => fun
  | [d, g1] => { results := [.lit (.bool false)], args := [d], vars := [g1] }
  | _ => none }
def FnImplicitWrongFalsely : Prop := fnImplicitRow.holds Tryd.pinned (OpenSpec.ofChange fnImplicitWrong)

/-- 'laws.FnPlainFactor': WHATEVER THE INPUT: true; the input reads as it did. -/
def fnPlainFactorSpec : ChangeSpec := { name := "fnPlainFactor", vars := ["loop.example/dualmodes/impl.errTooGreat"], fn := fun _ => fun
  | [d, g1] => { results := [.lit (.bool true)], args := [d], vars := [g1] }
  | _ => none }
def fnPlainFactorRow : OpenClaim := { program := "ytpngfonnoepmfaadoor", sum := "e7488502d4d89af890fee321eeed510b993fd96a18b318fdeb80ab4046dfa013", func := "loop.example/dualmodes/laws.FnPlainFactor", spec := "fnPlainFactor", inPlace := ["internal/reflectlite.TypeOf"], unfollowed := true, recurses := true, named := ["loop.example/dualmodes/impl.errTooGreat"], ifaces := true, apart := false, laid := [("loop.example/dualmodes/impl.errTooGreat", laid_loop_example_dualmodes_impl_errTooGreat)] }
def FnPlainFactorSaid : Prop := fnPlainFactorRow.holds Tryd.pinned (OpenSpec.ofChange fnPlainFactorSpec)

/-- ITS FALSE NEIGHBOUR: 'it returns false'. Refute it at one input. -/
def fnPlainFactorWrong : ChangeSpec := { name := "fnPlainFactor", vars := ["loop.example/dualmodes/impl.errTooGreat"], fn := fun _ => fun
  | [d, g1] => { results := [.lit (.bool false)], args := [d], vars := [g1] }
  | _ => none }
def FnPlainFactorWrongFalsely : Prop := fnPlainFactorRow.holds Tryd.pinned (OpenSpec.ofChange fnPlainFactorWrong)

/-- 'laws.FnVirtualSort': WHATEVER THE INPUT: true; the input reads as it did. -/
def fnVirtualSortSpec : ChangeSpec := { name := "fnVirtualSort", vars := ["loop.example/dualmodes/impl.errTooGreat"], fn := fun _ => fun
  | [d, g1] => { results := [.lit (.bool true)], args := [d], vars := [g1] }
  | _ => none }
def fnVirtualSortRow : OpenClaim := { program := "ytpngfonnoepmfaadoor", sum := "e7488502d4d89af890fee321eeed510b993fd96a18b318fdeb80ab4046dfa013", func := "loop.example/dualmodes/laws.FnVirtualSort", spec := "fnVirtualSort", inPlace := ["internal/reflectlite.TypeOf", "slices.overlaps[loop.example/dualmodes/impl.Task]"], unfollowed := true, recurses := true, named := ["loop.example/dualmodes/impl.errTooGreat"], ifaces := true, apart := false, laid := [("loop.example/dualmodes/impl.errTooGreat", laid_loop_example_dualmodes_impl_errTooGreat)] }
def FnVirtualSortSaid : Prop := fnVirtualSortRow.holds Tryd.pinned (OpenSpec.ofChange fnVirtualSortSpec)

/-- ITS FALSE NEIGHBOUR: 'it returns false'. Refute it at one input. -/
def fnVirtualSortWrong : ChangeSpec := { name := "fnVirtualSort", vars := ["loop.example/dualmodes/impl.errTooGreat"], fn := fun _ => fun
  | [d, g1] => { results := [.lit (.bool false)], args := [d], vars := [g1] }
  | _ => none }
def FnVirtualSortWrongFalsely : Prop := fnVirtualSortRow.holds Tryd.pinned (OpenSpec.ofChange fnVirtualSortWrong)

/-- 'laws.FnVirtualLow': WHATEVER THE INPUT: true; the input reads as it did. -/
def fnVirtualLowSpec : ChangeSpec := { name := "fnVirtualLow", vars := ["loop.example/dualmodes/impl.errTooGreat"], fn := fun _ => fun
  | [d, g1] => { results := [.lit (.bool true)], args := [d], vars := [g1] }
  | _ => none }
def fnVirtualLowRow : OpenClaim := { program := "ytpngfonnoepmfaadoor", sum := "e7488502d4d89af890fee321eeed510b993fd96a18b318fdeb80ab4046dfa013", func := "loop.example/dualmodes/laws.FnVirtualLow", spec := "fnVirtualLow", inPlace := ["internal/reflectlite.TypeOf"], unfollowed := true, recurses := true, named := ["loop.example/dualmodes/impl.errTooGreat"], ifaces := true, apart := false, laid := [("loop.example/dualmodes/impl.errTooGreat", laid_loop_example_dualmodes_impl_errTooGreat)] }
def FnVirtualLowSaid : Prop := fnVirtualLowRow.holds Tryd.pinned (OpenSpec.ofChange fnVirtualLowSpec)

/-- ITS FALSE NEIGHBOUR: 'it returns false'. Refute it at one input. -/
def fnVirtualLowWrong : ChangeSpec := { name := "fnVirtualLow", vars := ["loop.example/dualmodes/impl.errTooGreat"], fn := fun _ => fun
  | [d, g1] => { results := [.lit (.bool false)], args := [d], vars := [g1] }
  | _ => none }
def FnVirtualLowWrongFalsely : Prop := fnVirtualLowRow.holds Tryd.pinned (OpenSpec.ofChange fnVirtualLowWrong)

/-- 'laws.FnFactorLow': WHATEVER THE INPUT: true; the input reads as it did. -/
def fnFactorLowSpec : ChangeSpec := { name := "fnFactorLow", vars := ["loop.example/dualmodes/impl.errTooGreat"], fn := fun _ => fun
  | [d, g1] => { results := [.lit (.bool true)], args := [d], vars := [g1] }
  | _ => none }
def fnFactorLowRow : OpenClaim := { program := "ytpngfonnoepmfaadoor", sum := "e7488502d4d89af890fee321eeed510b993fd96a18b318fdeb80ab4046dfa013", func := "loop.example/dualmodes/laws.FnFactorLow", spec := "fnFactorLow", inPlace := ["internal/reflectlite.TypeOf"], unfollowed := true, recurses := true, named := ["loop.example/dualmodes/impl.errTooGreat"], ifaces := true, apart := false, laid := [("loop.example/dualmodes/impl.errTooGreat", laid_loop_example_dualmodes_impl_errTooGreat)] }
def FnFactorLowSaid : Prop := fnFactorLowRow.holds Tryd.pinned (OpenSpec.ofChange fnFactorLowSpec)

/-- ITS FALSE NEIGHBOUR: 'it returns false'. Refute it at one input. -/
def fnFactorLowWrong : ChangeSpec := { name := "fnFactorLow", vars := ["loop.example/dualmodes/impl.errTooGreat"], fn := fun _ => fun
  | [d, g1] => { results := [.lit (.bool false)], args := [d], vars := [g1] }
  | _ => none }
def FnFactorLowWrongFalsely : Prop := fnFactorLowRow.holds Tryd.pinned (OpenSpec.ofChange fnFactorLowWrong)

/-- 'laws.FnFactorExact': WHATEVER THE INPUT: true; the input reads as it did. -/
def fnFactorExactSpec : ChangeSpec := { name := "fnFactorExact", vars := ["loop.example/dualmodes/impl.errTooGreat"], fn := fun _ => fun
  | [d, g1] => { results := [.lit (.bool true)], args := [d], vars := [g1] }
  | _ => none }
def fnFactorExactRow : OpenClaim := { program := "ytpngfonnoepmfaadoor", sum := "e7488502d4d89af890fee321eeed510b993fd96a18b318fdeb80ab4046dfa013", func := "loop.example/dualmodes/laws.FnFactorExact", spec := "fnFactorExact", inPlace := ["internal/reflectlite.TypeOf"], unfollowed := true, recurses := true, named := ["loop.example/dualmodes/impl.errTooGreat"], ifaces := true, apart := false, laid := [("loop.example/dualmodes/impl.errTooGreat", laid_loop_example_dualmodes_impl_errTooGreat)] }
def FnFactorExactSaid : Prop := fnFactorExactRow.holds Tryd.pinned (OpenSpec.ofChange fnFactorExactSpec)

/-- ITS FALSE NEIGHBOUR: 'it returns false'. Refute it at one input. -/
def fnFactorExactWrong : ChangeSpec := { name := "fnFactorExact", vars := ["loop.example/dualmodes/impl.errTooGreat"], fn := fun _ => fun
  | [d, g1] => { results := [.lit (.bool false)], args := [d], vars := [g1] }
  | _ => none }
def FnFactorExactWrongFalsely : Prop := fnFactorExactRow.holds Tryd.pinned (OpenSpec.ofChange fnFactorExactWrong)

/-- 'laws.FnVirtualOrder': WHATEVER THE INPUT: true; the input reads as it did. -/
def fnVirtualOrderSpec : ChangeSpec := { name := "fnVirtualOrder", vars := ["loop.example/dualmodes/impl.errTooGreat"], fn := fun _ => fun
  | [d, g1] => { results := [.lit (.bool true)], args := [d], vars := [g1] }
  | _ => none }
def fnVirtualOrderRow : OpenClaim := { program := "ytpngfonnoepmfaadoor", sum := "e7488502d4d89af890fee321eeed510b993fd96a18b318fdeb80ab4046dfa013", func := "loop.example/dualmodes/laws.FnVirtualOrder", spec := "fnVirtualOrder", inPlace := ["internal/reflectlite.TypeOf"], unfollowed := true, recurses := true, named := ["loop.example/dualmodes/impl.errTooGreat"], ifaces := true, apart := false, laid := [("loop.example/dualmodes/impl.errTooGreat", laid_loop_example_dualmodes_impl_errTooGreat)] }
def FnVirtualOrderSaid : Prop := fnVirtualOrderRow.holds Tryd.pinned (OpenSpec.ofChange fnVirtualOrderSpec)

/-- ITS FALSE NEIGHBOUR: 'it returns false'. Refute it at one input. -/
def fnVirtualOrderWrong : ChangeSpec := { name := "fnVirtualOrder", vars := ["loop.example/dualmodes/impl.errTooGreat"], fn := fun _ => fun
  | [d, g1] => { results := [.lit (.bool false)], args := [d], vars := [g1] }
  | _ => none }
def FnVirtualOrderWrongFalsely : Prop := fnVirtualOrderRow.holds Tryd.pinned (OpenSpec.ofChange fnVirtualOrderWrong)

/- THE SECOND FORM. 'bulk': how many values and letters a reading holds, each counted each time it is reached (what is shared counts as often as it is met; a slice's spare places count too). A statement '..UptoSaid' is the law's where the arguments, and the package variables that the reading takes, are together of bulk at most 1048576: NARROWER than '..Said'. Prove '..Said' where nothing that the law and all that it calls make is longer than what came in: it says more and counts as full. Else prove '..UptoSaid'. A law counts once. -/
mutual
def uptoBulk {H : Type} : DataW H → Nat
  | .lit (.string bytes) => bytes.length + 1
  | .lit _ => 1
  | .nil => 1
  | .ptr d => uptoBulk d + 1
  | .slice elems spare => uptoBulkAll elems + uptoBulkAll spare + 1
  | .agg parts => uptoBulkAll parts + 1
  | .iface _ d => uptoBulk d + 1
  | .map entries => uptoBulkEntries entries + 1
  | .held _ => 1
def uptoBulkAll {H : Type} : List (DataW H) → Nat
  | [] => 0
  | d :: r => uptoBulk d + uptoBulkAll r
def uptoBulkEntries {H : Type} : List (Lit × DataW H) → Nat
  | [] => 0
  | x :: r => uptoBulkEntry x + uptoBulkEntries r
def uptoBulkEntry {H : Type} : Lit × DataW H → Nat
  | (.string bytes, d) => bytes.length + uptoBulk d + 1
  | (_, d) => uptoBulk d + 1
 end
def uptoSmall : (H : Type) → List (DataW H) → Bool := fun _ ds => decide (uptoBulkAll ds ≤ 1048576)
def OpenSpec.upto (s : _root_.Go.ChangeSpec) : _root_.Go.OpenSpec := { _root_.Go.OpenSpec.ofChange s with cond := some uptoSmall }

/-- 'laws.FnHoldsVirtual', WHERE WHAT IT READS IS OF BULK AT MOST 1048576: true; the input reads as it did. -/
def fnHoldsVirtualUptoRow : OpenClaim := { program := "ytpngfonnoepmfaadoor", sum := "e7488502d4d89af890fee321eeed510b993fd96a18b318fdeb80ab4046dfa013", func := "loop.example/dualmodes/laws.FnHoldsVirtual", spec := "fnHoldsVirtual", inPlace := ["internal/reflectlite.TypeOf"], unfollowed := true, recurses := true, named := ["loop.example/dualmodes/impl.errTooGreat"], ifaces := true, apart := false, laid := [("loop.example/dualmodes/impl.errTooGreat", laid_loop_example_dualmodes_impl_errTooGreat)], narrowed := true }
def FnHoldsVirtualUptoSaid : Prop := fnHoldsVirtualUptoRow.holds Tryd.pinned (OpenSpec.upto fnHoldsVirtualSpec)

/-- 'laws.FnFactorOf', WHERE WHAT IT READS IS OF BULK AT MOST 1048576: true; the input reads as it did. -/
def fnFactorOfUptoRow : OpenClaim := { program := "ytpngfonnoepmfaadoor", sum := "e7488502d4d89af890fee321eeed510b993fd96a18b318fdeb80ab4046dfa013", func := "loop.example/dualmodes/laws.FnFactorOf", spec := "fnFactorOf", inPlace := ["internal/reflectlite.TypeOf"], unfollowed := true, recurses := true, named := ["loop.example/dualmodes/impl.errTooGreat"], ifaces := true, apart := false, laid := [("loop.example/dualmodes/impl.errTooGreat", laid_loop_example_dualmodes_impl_errTooGreat)], narrowed := true }
def FnFactorOfUptoSaid : Prop := fnFactorOfUptoRow.holds Tryd.pinned (OpenSpec.upto fnFactorOfSpec)

/-- 'laws.FnVirtualDue', WHERE WHAT IT READS IS OF BULK AT MOST 1048576: true; the input reads as it did. -/
def fnVirtualDueUptoRow : OpenClaim := { program := "ytpngfonnoepmfaadoor", sum := "e7488502d4d89af890fee321eeed510b993fd96a18b318fdeb80ab4046dfa013", func := "loop.example/dualmodes/laws.FnVirtualDue", spec := "fnVirtualDue", inPlace := ["internal/reflectlite.TypeOf"], unfollowed := true, recurses := true, named := ["loop.example/dualmodes/impl.errTooGreat"], ifaces := true, apart := false, laid := [("loop.example/dualmodes/impl.errTooGreat", laid_loop_example_dualmodes_impl_errTooGreat)], narrowed := true }
def FnVirtualDueUptoSaid : Prop := fnVirtualDueUptoRow.holds Tryd.pinned (OpenSpec.upto fnVirtualDueSpec)

/-- 'laws.FnHoldsPlain', WHERE WHAT IT READS IS OF BULK AT MOST 1048576: true; the input reads as it did. -/
def fnHoldsPlainUptoRow : OpenClaim := { program := "ytpngfonnoepmfaadoor", sum := "e7488502d4d89af890fee321eeed510b993fd96a18b318fdeb80ab4046dfa013", func := "loop.example/dualmodes/laws.FnHoldsPlain", spec := "fnHoldsPlain", inPlace := ["internal/reflectlite.TypeOf"], unfollowed := true, recurses := true, named := ["loop.example/dualmodes/impl.errTooGreat"], ifaces := true, apart := false, laid := [("loop.example/dualmodes/impl.errTooGreat", laid_loop_example_dualmodes_impl_errTooGreat)], narrowed := true }
def FnHoldsPlainUptoSaid : Prop := fnHoldsPlainUptoRow.holds Tryd.pinned (OpenSpec.upto fnHoldsPlainSpec)

/-- 'laws.FnLoadOf', WHERE WHAT IT READS IS OF BULK AT MOST 1048576: true; the input reads as it did. -/
def fnLoadOfUptoRow : OpenClaim := { program := "ytpngfonnoepmfaadoor", sum := "e7488502d4d89af890fee321eeed510b993fd96a18b318fdeb80ab4046dfa013", func := "loop.example/dualmodes/laws.FnLoadOf", spec := "fnLoadOf", inPlace := ["internal/reflectlite.TypeOf"], unfollowed := true, recurses := true, named := ["loop.example/dualmodes/impl.errTooGreat"], ifaces := true, apart := false, laid := [("loop.example/dualmodes/impl.errTooGreat", laid_loop_example_dualmodes_impl_errTooGreat)], narrowed := true }
def FnLoadOfUptoSaid : Prop := fnLoadOfUptoRow.holds Tryd.pinned (OpenSpec.upto fnLoadOfSpec)

/-- 'laws.FnImplicit', WHERE WHAT IT READS IS OF BULK AT MOST 1048576: true; the input reads as it did. -/
def fnImplicitUptoRow : OpenClaim := { program := "ytpngfonnoepmfaadoor", sum := "e7488502d4d89af890fee321eeed510b993fd96a18b318fdeb80ab4046dfa013", func := "loop.example/dualmodes/laws.FnImplicit", spec := "fnImplicit", inPlace := ["internal/reflectlite.TypeOf"], unfollowed := true, recurses := true, named := ["loop.example/dualmodes/impl.errTooGreat"], ifaces := true, apart := false, laid := [("loop.example/dualmodes/impl.errTooGreat", laid_loop_example_dualmodes_impl_errTooGreat)], narrowed := true }
def FnImplicitUptoSaid : Prop := fnImplicitUptoRow.holds Tryd.pinned (OpenSpec.upto fnImplicitSpec)

/-- 'laws.FnPlainFactor', WHERE WHAT IT READS IS OF BULK AT MOST 1048576: true; the input reads as it did. -/
def fnPlainFactorUptoRow : OpenClaim := { program := "ytpngfonnoepmfaadoor", sum := "e7488502d4d89af890fee321eeed510b993fd96a18b318fdeb80ab4046dfa013", func := "loop.example/dualmodes/laws.FnPlainFactor", spec := "fnPlainFactor", inPlace := ["internal/reflectlite.TypeOf"], unfollowed := true, recurses := true, named := ["loop.example/dualmodes/impl.errTooGreat"], ifaces := true, apart := false, laid := [("loop.example/dualmodes/impl.errTooGreat", laid_loop_example_dualmodes_impl_errTooGreat)], narrowed := true }
def FnPlainFactorUptoSaid : Prop := fnPlainFactorUptoRow.holds Tryd.pinned (OpenSpec.upto fnPlainFactorSpec)

/-- 'laws.FnVirtualSort', WHERE WHAT IT READS IS OF BULK AT MOST 1048576: true; the input reads as it did. -/
def fnVirtualSortUptoRow : OpenClaim := { program := "ytpngfonnoepmfaadoor", sum := "e7488502d4d89af890fee321eeed510b993fd96a18b318fdeb80ab4046dfa013", func := "loop.example/dualmodes/laws.FnVirtualSort", spec := "fnVirtualSort", inPlace := ["internal/reflectlite.TypeOf", "slices.overlaps[loop.example/dualmodes/impl.Task]"], unfollowed := true, recurses := true, named := ["loop.example/dualmodes/impl.errTooGreat"], ifaces := true, apart := false, laid := [("loop.example/dualmodes/impl.errTooGreat", laid_loop_example_dualmodes_impl_errTooGreat)], narrowed := true }
def FnVirtualSortUptoSaid : Prop := fnVirtualSortUptoRow.holds Tryd.pinned (OpenSpec.upto fnVirtualSortSpec)

/-- 'laws.FnVirtualLow', WHERE WHAT IT READS IS OF BULK AT MOST 1048576: true; the input reads as it did. -/
def fnVirtualLowUptoRow : OpenClaim := { program := "ytpngfonnoepmfaadoor", sum := "e7488502d4d89af890fee321eeed510b993fd96a18b318fdeb80ab4046dfa013", func := "loop.example/dualmodes/laws.FnVirtualLow", spec := "fnVirtualLow", inPlace := ["internal/reflectlite.TypeOf"], unfollowed := true, recurses := true, named := ["loop.example/dualmodes/impl.errTooGreat"], ifaces := true, apart := false, laid := [("loop.example/dualmodes/impl.errTooGreat", laid_loop_example_dualmodes_impl_errTooGreat)], narrowed := true }
def FnVirtualLowUptoSaid : Prop := fnVirtualLowUptoRow.holds Tryd.pinned (OpenSpec.upto fnVirtualLowSpec)

/-- 'laws.FnFactorLow', WHERE WHAT IT READS IS OF BULK AT MOST 1048576: true; the input reads as it did. -/
def fnFactorLowUptoRow : OpenClaim := { program := "ytpngfonnoepmfaadoor", sum := "e7488502d4d89af890fee321eeed510b993fd96a18b318fdeb80ab4046dfa013", func := "loop.example/dualmodes/laws.FnFactorLow", spec := "fnFactorLow", inPlace := ["internal/reflectlite.TypeOf"], unfollowed := true, recurses := true, named := ["loop.example/dualmodes/impl.errTooGreat"], ifaces := true, apart := false, laid := [("loop.example/dualmodes/impl.errTooGreat", laid_loop_example_dualmodes_impl_errTooGreat)], narrowed := true }
def FnFactorLowUptoSaid : Prop := fnFactorLowUptoRow.holds Tryd.pinned (OpenSpec.upto fnFactorLowSpec)

/-- 'laws.FnFactorExact', WHERE WHAT IT READS IS OF BULK AT MOST 1048576: true; the input reads as it did. -/
def fnFactorExactUptoRow : OpenClaim := { program := "ytpngfonnoepmfaadoor", sum := "e7488502d4d89af890fee321eeed510b993fd96a18b318fdeb80ab4046dfa013", func := "loop.example/dualmodes/laws.FnFactorExact", spec := "fnFactorExact", inPlace := ["internal/reflectlite.TypeOf"], unfollowed := true, recurses := true, named := ["loop.example/dualmodes/impl.errTooGreat"], ifaces := true, apart := false, laid := [("loop.example/dualmodes/impl.errTooGreat", laid_loop_example_dualmodes_impl_errTooGreat)], narrowed := true }
def FnFactorExactUptoSaid : Prop := fnFactorExactUptoRow.holds Tryd.pinned (OpenSpec.upto fnFactorExactSpec)

/-- 'laws.FnVirtualOrder', WHERE WHAT IT READS IS OF BULK AT MOST 1048576: true; the input reads as it did. -/
def fnVirtualOrderUptoRow : OpenClaim := { program := "ytpngfonnoepmfaadoor", sum := "e7488502d4d89af890fee321eeed510b993fd96a18b318fdeb80ab4046dfa013", func := "loop.example/dualmodes/laws.FnVirtualOrder", spec := "fnVirtualOrder", inPlace := ["internal/reflectlite.TypeOf"], unfollowed := true, recurses := true, named := ["loop.example/dualmodes/impl.errTooGreat"], ifaces := true, apart := false, laid := [("loop.example/dualmodes/impl.errTooGreat", laid_loop_example_dualmodes_impl_errTooGreat)], narrowed := true }
def FnVirtualOrderUptoSaid : Prop := fnVirtualOrderUptoRow.holds Tryd.pinned (OpenSpec.upto fnVirtualOrderSpec)

end Rows
end Go.Proofs.YtpngfonnoepmfaaDoor
