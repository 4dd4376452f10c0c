/-
  NARROWER THAN 'FOR EVERY INPUT', by the rows' own cells (each row's printed sentence says how): FnMakeShare: ifaces, laid · FnAddShares: ifaces, laid · FnCompareShares: ifaces, laid · FnShareZero: ifaces, laid · FnShareTwice: ifaces, laid · FnAddMore: ifaces, laid · FnCompareSame: ifaces, laid · FnShareValid: ifaces, laid · FnExactMakeShare: ifaces, laid · FnExactShareValid: ifaces, laid · FnExactAddShares: ifaces, laid · FnExactCompareShares: ifaces, laid.
  DERIVED. THE GIVEN ROWS OF THIS SEAT. 12 by the template 'for every input the law returns true; each argument reads behind the call as it read before'; 0 by the template 'total and deterministic' (their statements: YtbaecbibkmdbiabDoorTotals.lean).
  GIVEN WITH THE SEED: the statements are not yours to turn. If you find one false, say at which input.
  Laid BY PROGRAM, IN A SANDBOX (cutbox-rows.mjs): the forced cells as the released guide's own fill.sh prints them over the translation eee133fd61cc5ee3… (all of the seat's roots in one cut). By AI agents, Wed Nov 11 2026. No macro, syntax, notation, axiom, sorry.
-/
import Derived.Test.YtbaecbibkmdbiabDoorChecked
import GoSem.Claim
import GoSem.ClaimJoined
import GoSem.ClaimMapViews
import Derived.JoinedTies
import Derived.KernelRfl
namespace Go.Proofs.YtbaecbibkmdbiabDoor
/- THE CELL 'sum', in the pinned program and in every row, IS THE sha256 OF THE DUMP (.gsa) THAT YtbaecbibkmdbiabDoorProg.lean LOADS. Nothing in Lean hashes anything: it is a label: what it is worth is what the hold of that sum in a sandbox is worth. -/
noncomputable def Tryd.pinned : Pinned := { name := "ytbaecbibkmdbiabdoor", sum := "eee133fd61cc5ee3ffb1f78db11b1e64432ef4d6dd4a0d59741268a7b76dc4ef", checked := Tryd.checked }
namespace Rows
def none {H : Type} : Left H := { results := [], args := [] }

/- WHAT THE LISTED PACKAGE-LEVEL VARIABLES READ AS WHEN THE CALL BEGINS. Each datum BY PROGRAM (the guide's laid-datum.mjs) off the statement by which the dump's own 'gosem.cut.vars' lays the variable. In a bare row this is a premise. The card (YtbaecbibkmdbiabDoorCards.lean) ties it to the program's text. -/
def laid_loop_example_dualmodes_impl_errTooGreat {H : Type} : DataW H := .iface "*errors.errorString" (.ptr (.agg [.lit (.string [116, 104, 101, 32, 115, 104, 97, 114, 101, 32, 104, 97, 115, 32, 116, 111, 111, 32, 103, 114, 101, 97, 116, 32, 97, 32, 110, 117, 109, 98, 101, 114])]))

/-- 'laws.FnMakeShare': WHATEVER THE INPUT: true; the input reads as it did. -/
def fnMakeShareSpec : ChangeSpec := { name := "fnMakeShare", vars := ["loop.example/dualmodes/impl.errTooGreat"], fn := fun _ => fun
  | [d, g1] => { results := [.lit (.bool true)], args := [d], vars := [g1] }
  | _ => none }
def fnMakeShareRow : OpenClaim := { program := "ytbaecbibkmdbiabdoor", sum := "eee133fd61cc5ee3ffb1f78db11b1e64432ef4d6dd4a0d59741268a7b76dc4ef", func := "loop.example/dualmodes/laws.FnMakeShare", spec := "fnMakeShare", named := ["loop.example/dualmodes/impl.errTooGreat"], ifaces := true, apart := false, laid := [("loop.example/dualmodes/impl.errTooGreat", laid_loop_example_dualmodes_impl_errTooGreat)] }
def FnMakeShareSaid : Prop := fnMakeShareRow.holds Tryd.pinned (OpenSpec.ofChange fnMakeShareSpec)

/-- ITS FALSE NEIGHBOUR: 'it returns false'. Refute it at one input. -/
def fnMakeShareWrong : ChangeSpec := { name := "fnMakeShare", vars := ["loop.example/dualmodes/impl.errTooGreat"], fn := fun _ => fun
  | [d, g1] => { results := [.lit (.bool false)], args := [d], vars := [g1] }
  | _ => none }
def FnMakeShareWrongFalsely : Prop := fnMakeShareRow.holds Tryd.pinned (OpenSpec.ofChange fnMakeShareWrong)

/-- 'laws.FnAddShares': WHATEVER THE INPUT: true; the input reads as it did. -/
def fnAddSharesSpec : ChangeSpec := { name := "fnAddShares", vars := ["loop.example/dualmodes/impl.errTooGreat"], fn := fun _ => fun
  | [d, g1] => { results := [.lit (.bool true)], args := [d], vars := [g1] }
  | _ => none }
def fnAddSharesRow : OpenClaim := { program := "ytbaecbibkmdbiabdoor", sum := "eee133fd61cc5ee3ffb1f78db11b1e64432ef4d6dd4a0d59741268a7b76dc4ef", func := "loop.example/dualmodes/laws.FnAddShares", spec := "fnAddShares", inPlace := ["internal/reflectlite.TypeOf"], unfollowed := true, recurses := true, named := ["loop.example/dualmodes/impl.errTooGreat"], ifaces := true, apart := false, laid := [("loop.example/dualmodes/impl.errTooGreat", laid_loop_example_dualmodes_impl_errTooGreat)] }
def FnAddSharesSaid : Prop := fnAddSharesRow.holds Tryd.pinned (OpenSpec.ofChange fnAddSharesSpec)

/-- ITS FALSE NEIGHBOUR: 'it returns false'. Refute it at one input. -/
def fnAddSharesWrong : ChangeSpec := { name := "fnAddShares", vars := ["loop.example/dualmodes/impl.errTooGreat"], fn := fun _ => fun
  | [d, g1] => { results := [.lit (.bool false)], args := [d], vars := [g1] }
  | _ => none }
def FnAddSharesWrongFalsely : Prop := fnAddSharesRow.holds Tryd.pinned (OpenSpec.ofChange fnAddSharesWrong)

/-- 'laws.FnCompareShares': WHATEVER THE INPUT: true; the input reads as it did. -/
def fnCompareSharesSpec : ChangeSpec := { name := "fnCompareShares", vars := ["loop.example/dualmodes/impl.errTooGreat"], fn := fun _ => fun
  | [d, g1] => { results := [.lit (.bool true)], args := [d], vars := [g1] }
  | _ => none }
def fnCompareSharesRow : OpenClaim := { program := "ytbaecbibkmdbiabdoor", sum := "eee133fd61cc5ee3ffb1f78db11b1e64432ef4d6dd4a0d59741268a7b76dc4ef", func := "loop.example/dualmodes/laws.FnCompareShares", spec := "fnCompareShares", named := ["loop.example/dualmodes/impl.errTooGreat"], ifaces := true, apart := false, laid := [("loop.example/dualmodes/impl.errTooGreat", laid_loop_example_dualmodes_impl_errTooGreat)] }
def FnCompareSharesSaid : Prop := fnCompareSharesRow.holds Tryd.pinned (OpenSpec.ofChange fnCompareSharesSpec)

/-- ITS FALSE NEIGHBOUR: 'it returns false'. Refute it at one input. -/
def fnCompareSharesWrong : ChangeSpec := { name := "fnCompareShares", vars := ["loop.example/dualmodes/impl.errTooGreat"], fn := fun _ => fun
  | [d, g1] => { results := [.lit (.bool false)], args := [d], vars := [g1] }
  | _ => none }
def FnCompareSharesWrongFalsely : Prop := fnCompareSharesRow.holds Tryd.pinned (OpenSpec.ofChange fnCompareSharesWrong)

/-- 'laws.FnShareZero': WHATEVER THE INPUT: true; the input reads as it did. -/
def fnShareZeroSpec : ChangeSpec := { name := "fnShareZero", vars := ["loop.example/dualmodes/impl.errTooGreat"], fn := fun _ => fun
  | [d, g1] => { results := [.lit (.bool true)], args := [d], vars := [g1] }
  | _ => none }
def fnShareZeroRow : OpenClaim := { program := "ytbaecbibkmdbiabdoor", sum := "eee133fd61cc5ee3ffb1f78db11b1e64432ef4d6dd4a0d59741268a7b76dc4ef", func := "loop.example/dualmodes/laws.FnShareZero", spec := "fnShareZero", inPlace := ["internal/reflectlite.TypeOf"], unfollowed := true, recurses := true, named := ["loop.example/dualmodes/impl.errTooGreat"], ifaces := true, apart := false, laid := [("loop.example/dualmodes/impl.errTooGreat", laid_loop_example_dualmodes_impl_errTooGreat)] }
def FnShareZeroSaid : Prop := fnShareZeroRow.holds Tryd.pinned (OpenSpec.ofChange fnShareZeroSpec)

/-- ITS FALSE NEIGHBOUR: 'it returns false'. Refute it at one input. -/
def fnShareZeroWrong : ChangeSpec := { name := "fnShareZero", vars := ["loop.example/dualmodes/impl.errTooGreat"], fn := fun _ => fun
  | [d, g1] => { results := [.lit (.bool false)], args := [d], vars := [g1] }
  | _ => none }
def FnShareZeroWrongFalsely : Prop := fnShareZeroRow.holds Tryd.pinned (OpenSpec.ofChange fnShareZeroWrong)

/-- 'laws.FnShareTwice': WHATEVER THE INPUT: true; the input reads as it did. -/
def fnShareTwiceSpec : ChangeSpec := { name := "fnShareTwice", vars := ["loop.example/dualmodes/impl.errTooGreat"], fn := fun _ => fun
  | [d, g1] => { results := [.lit (.bool true)], args := [d], vars := [g1] }
  | _ => none }
def fnShareTwiceRow : OpenClaim := { program := "ytbaecbibkmdbiabdoor", sum := "eee133fd61cc5ee3ffb1f78db11b1e64432ef4d6dd4a0d59741268a7b76dc4ef", func := "loop.example/dualmodes/laws.FnShareTwice", spec := "fnShareTwice", named := ["loop.example/dualmodes/impl.errTooGreat"], ifaces := true, apart := false, laid := [("loop.example/dualmodes/impl.errTooGreat", laid_loop_example_dualmodes_impl_errTooGreat)] }
def FnShareTwiceSaid : Prop := fnShareTwiceRow.holds Tryd.pinned (OpenSpec.ofChange fnShareTwiceSpec)

/-- ITS FALSE NEIGHBOUR: 'it returns false'. Refute it at one input. -/
def fnShareTwiceWrong : ChangeSpec := { name := "fnShareTwice", vars := ["loop.example/dualmodes/impl.errTooGreat"], fn := fun _ => fun
  | [d, g1] => { results := [.lit (.bool false)], args := [d], vars := [g1] }
  | _ => none }
def FnShareTwiceWrongFalsely : Prop := fnShareTwiceRow.holds Tryd.pinned (OpenSpec.ofChange fnShareTwiceWrong)

/-- 'laws.FnAddMore': WHATEVER THE INPUT: true; the input reads as it did. -/
def fnAddMoreSpec : ChangeSpec := { name := "fnAddMore", vars := ["loop.example/dualmodes/impl.errTooGreat"], fn := fun _ => fun
  | [d, g1] => { results := [.lit (.bool true)], args := [d], vars := [g1] }
  | _ => none }
def fnAddMoreRow : OpenClaim := { program := "ytbaecbibkmdbiabdoor", sum := "eee133fd61cc5ee3ffb1f78db11b1e64432ef4d6dd4a0d59741268a7b76dc4ef", func := "loop.example/dualmodes/laws.FnAddMore", spec := "fnAddMore", inPlace := ["internal/reflectlite.TypeOf"], unfollowed := true, recurses := true, named := ["loop.example/dualmodes/impl.errTooGreat"], ifaces := true, apart := false, laid := [("loop.example/dualmodes/impl.errTooGreat", laid_loop_example_dualmodes_impl_errTooGreat)] }
def FnAddMoreSaid : Prop := fnAddMoreRow.holds Tryd.pinned (OpenSpec.ofChange fnAddMoreSpec)

/-- ITS FALSE NEIGHBOUR: 'it returns false'. Refute it at one input. -/
def fnAddMoreWrong : ChangeSpec := { name := "fnAddMore", vars := ["loop.example/dualmodes/impl.errTooGreat"], fn := fun _ => fun
  | [d, g1] => { results := [.lit (.bool false)], args := [d], vars := [g1] }
  | _ => none }
def FnAddMoreWrongFalsely : Prop := fnAddMoreRow.holds Tryd.pinned (OpenSpec.ofChange fnAddMoreWrong)

/-- 'laws.FnCompareSame': WHATEVER THE INPUT: true; the input reads as it did. -/
def fnCompareSameSpec : ChangeSpec := { name := "fnCompareSame", vars := ["loop.example/dualmodes/impl.errTooGreat"], fn := fun _ => fun
  | [d, g1] => { results := [.lit (.bool true)], args := [d], vars := [g1] }
  | _ => none }
def fnCompareSameRow : OpenClaim := { program := "ytbaecbibkmdbiabdoor", sum := "eee133fd61cc5ee3ffb1f78db11b1e64432ef4d6dd4a0d59741268a7b76dc4ef", func := "loop.example/dualmodes/laws.FnCompareSame", spec := "fnCompareSame", named := ["loop.example/dualmodes/impl.errTooGreat"], ifaces := true, apart := false, laid := [("loop.example/dualmodes/impl.errTooGreat", laid_loop_example_dualmodes_impl_errTooGreat)] }
def FnCompareSameSaid : Prop := fnCompareSameRow.holds Tryd.pinned (OpenSpec.ofChange fnCompareSameSpec)

/-- ITS FALSE NEIGHBOUR: 'it returns false'. Refute it at one input. -/
def fnCompareSameWrong : ChangeSpec := { name := "fnCompareSame", vars := ["loop.example/dualmodes/impl.errTooGreat"], fn := fun _ => fun
  | [d, g1] => { results := [.lit (.bool false)], args := [d], vars := [g1] }
  | _ => none }
def FnCompareSameWrongFalsely : Prop := fnCompareSameRow.holds Tryd.pinned (OpenSpec.ofChange fnCompareSameWrong)

/-- 'laws.FnShareValid': WHATEVER THE INPUT: true; the input reads as it did. -/
def fnShareValidSpec : ChangeSpec := { name := "fnShareValid", vars := ["loop.example/dualmodes/impl.errTooGreat"], fn := fun _ => fun
  | [d, g1] => { results := [.lit (.bool true)], args := [d], vars := [g1] }
  | _ => none }
def fnShareValidRow : OpenClaim := { program := "ytbaecbibkmdbiabdoor", sum := "eee133fd61cc5ee3ffb1f78db11b1e64432ef4d6dd4a0d59741268a7b76dc4ef", func := "loop.example/dualmodes/laws.FnShareValid", spec := "fnShareValid", named := ["loop.example/dualmodes/impl.errTooGreat"], ifaces := true, apart := false, laid := [("loop.example/dualmodes/impl.errTooGreat", laid_loop_example_dualmodes_impl_errTooGreat)] }
def FnShareValidSaid : Prop := fnShareValidRow.holds Tryd.pinned (OpenSpec.ofChange fnShareValidSpec)

/-- ITS FALSE NEIGHBOUR: 'it returns false'. Refute it at one input. -/
def fnShareValidWrong : ChangeSpec := { name := "fnShareValid", vars := ["loop.example/dualmodes/impl.errTooGreat"], fn := fun _ => fun
  | [d, g1] => { results := [.lit (.bool false)], args := [d], vars := [g1] }
  | _ => none }
def FnShareValidWrongFalsely : Prop := fnShareValidRow.holds Tryd.pinned (OpenSpec.ofChange fnShareValidWrong)

/-- 'laws.FnExactMakeShare': WHATEVER THE INPUT: true; the input reads as it did. -/
def fnExactMakeShareSpec : ChangeSpec := { name := "fnExactMakeShare", vars := ["loop.example/dualmodes/impl.errTooGreat"], fn := fun _ => fun
  | [d1, d2, g1] => { results := [.lit (.bool true)], args := [d1, d2], vars := [g1] }
  | _ => none }
def fnExactMakeShareRow : OpenClaim := { program := "ytbaecbibkmdbiabdoor", sum := "eee133fd61cc5ee3ffb1f78db11b1e64432ef4d6dd4a0d59741268a7b76dc4ef", func := "loop.example/dualmodes/laws.FnExactMakeShare", spec := "fnExactMakeShare", named := ["loop.example/dualmodes/impl.errTooGreat"], ifaces := true, apart := false, laid := [("loop.example/dualmodes/impl.errTooGreat", laid_loop_example_dualmodes_impl_errTooGreat)] }
def FnExactMakeShareSaid : Prop := fnExactMakeShareRow.holds Tryd.pinned (OpenSpec.ofChange fnExactMakeShareSpec)

/-- ITS FALSE NEIGHBOUR: 'it returns false'. Refute it at one input. -/
def fnExactMakeShareWrong : ChangeSpec := { name := "fnExactMakeShare", vars := ["loop.example/dualmodes/impl.errTooGreat"], fn := fun _ => fun
  | [d1, d2, g1] => { results := [.lit (.bool false)], args := [d1, d2], vars := [g1] }
  | _ => none }
def FnExactMakeShareWrongFalsely : Prop := fnExactMakeShareRow.holds Tryd.pinned (OpenSpec.ofChange fnExactMakeShareWrong)

/-- 'laws.FnExactShareValid': WHATEVER THE INPUT: true; the input reads as it did. -/
def fnExactShareValidSpec : ChangeSpec := { name := "fnExactShareValid", vars := ["loop.example/dualmodes/impl.errTooGreat"], fn := fun _ => fun
  | [d, g1] => { results := [.lit (.bool true)], args := [d], vars := [g1] }
  | _ => none }
def fnExactShareValidRow : OpenClaim := { program := "ytbaecbibkmdbiabdoor", sum := "eee133fd61cc5ee3ffb1f78db11b1e64432ef4d6dd4a0d59741268a7b76dc4ef", func := "loop.example/dualmodes/laws.FnExactShareValid", spec := "fnExactShareValid", named := ["loop.example/dualmodes/impl.errTooGreat"], ifaces := true, apart := false, laid := [("loop.example/dualmodes/impl.errTooGreat", laid_loop_example_dualmodes_impl_errTooGreat)] }
def FnExactShareValidSaid : Prop := fnExactShareValidRow.holds Tryd.pinned (OpenSpec.ofChange fnExactShareValidSpec)

/-- ITS FALSE NEIGHBOUR: 'it returns false'. Refute it at one input. -/
def fnExactShareValidWrong : ChangeSpec := { name := "fnExactShareValid", vars := ["loop.example/dualmodes/impl.errTooGreat"], fn := fun _ => fun
  | [d, g1] => { results := [.lit (.bool false)], args := [d], vars := [g1] }
  | _ => none }
def FnExactShareValidWrongFalsely : Prop := fnExactShareValidRow.holds Tryd.pinned (OpenSpec.ofChange fnExactShareValidWrong)

/-- 'laws.FnExactAddShares': WHATEVER THE INPUT: true; the input reads as it did. -/
def fnExactAddSharesSpec : ChangeSpec := { name := "fnExactAddShares", vars := ["loop.example/dualmodes/impl.errTooGreat"], fn := fun _ => fun
  | [d1, d2, g1] => { results := [.lit (.bool true)], args := [d1, d2], vars := [g1] }
  | _ => none }
def fnExactAddSharesRow : OpenClaim := { program := "ytbaecbibkmdbiabdoor", sum := "eee133fd61cc5ee3ffb1f78db11b1e64432ef4d6dd4a0d59741268a7b76dc4ef", func := "loop.example/dualmodes/laws.FnExactAddShares", spec := "fnExactAddShares", inPlace := ["internal/reflectlite.TypeOf"], unfollowed := true, recurses := true, named := ["loop.example/dualmodes/impl.errTooGreat"], ifaces := true, apart := false, laid := [("loop.example/dualmodes/impl.errTooGreat", laid_loop_example_dualmodes_impl_errTooGreat)] }
def FnExactAddSharesSaid : Prop := fnExactAddSharesRow.holds Tryd.pinned (OpenSpec.ofChange fnExactAddSharesSpec)

/-- ITS FALSE NEIGHBOUR: 'it returns false'. Refute it at one input. -/
def fnExactAddSharesWrong : ChangeSpec := { name := "fnExactAddShares", vars := ["loop.example/dualmodes/impl.errTooGreat"], fn := fun _ => fun
  | [d1, d2, g1] => { results := [.lit (.bool false)], args := [d1, d2], vars := [g1] }
  | _ => none }
def FnExactAddSharesWrongFalsely : Prop := fnExactAddSharesRow.holds Tryd.pinned (OpenSpec.ofChange fnExactAddSharesWrong)

/-- 'laws.FnExactCompareShares': WHATEVER THE INPUT: true; the input reads as it did. -/
def fnExactCompareSharesSpec : ChangeSpec := { name := "fnExactCompareShares", vars := ["loop.example/dualmodes/impl.errTooGreat"], fn := fun _ => fun
  | [d1, d2, g1] => { results := [.lit (.bool true)], args := [d1, d2], vars := [g1] }
  | _ => none }
def fnExactCompareSharesRow : OpenClaim := { program := "ytbaecbibkmdbiabdoor", sum := "eee133fd61cc5ee3ffb1f78db11b1e64432ef4d6dd4a0d59741268a7b76dc4ef", func := "loop.example/dualmodes/laws.FnExactCompareShares", spec := "fnExactCompareShares", named := ["loop.example/dualmodes/impl.errTooGreat"], ifaces := true, apart := false, laid := [("loop.example/dualmodes/impl.errTooGreat", laid_loop_example_dualmodes_impl_errTooGreat)] }
def FnExactCompareSharesSaid : Prop := fnExactCompareSharesRow.holds Tryd.pinned (OpenSpec.ofChange fnExactCompareSharesSpec)

/-- ITS FALSE NEIGHBOUR: 'it returns false'. Refute it at one input. -/
def fnExactCompareSharesWrong : ChangeSpec := { name := "fnExactCompareShares", vars := ["loop.example/dualmodes/impl.errTooGreat"], fn := fun _ => fun
  | [d1, d2, g1] => { results := [.lit (.bool false)], args := [d1, d2], vars := [g1] }
  | _ => none }
def FnExactCompareSharesWrongFalsely : Prop := fnExactCompareSharesRow.holds Tryd.pinned (OpenSpec.ofChange fnExactCompareSharesWrong)

/- THE SECOND FORM. 'bulk': how many values and letters a reading holds, each counted each time it is reached (what is shared counts as often as it is met; a slice's spare places count too). A statement '..UptoSaid' is the law's where the arguments, and the package variables that the reading takes, are together of bulk at most 1048576: NARROWER than '..Said'. Prove '..Said' where nothing that the law and all that it calls make is longer than what came in: it says more and counts as full. Else prove '..UptoSaid'. A law counts once. -/
mutual
def uptoBulk {H : Type} : DataW H → Nat
  | .lit (.string bytes) => bytes.length + 1
  | .lit _ => 1
  | .nil => 1
  | .ptr d => uptoBulk d + 1
  | .slice elems spare => uptoBulkAll elems + uptoBulkAll spare + 1
  | .agg parts => uptoBulkAll parts + 1
  | .iface _ d => uptoBulk d + 1
  | .map entries => uptoBulkEntries entries + 1
  | .held _ => 1
def uptoBulkAll {H : Type} : List (DataW H) → Nat
  | [] => 0
  | d :: r => uptoBulk d + uptoBulkAll r
def uptoBulkEntries {H : Type} : List (Lit × DataW H) → Nat
  | [] => 0
  | x :: r => uptoBulkEntry x + uptoBulkEntries r
def uptoBulkEntry {H : Type} : Lit × DataW H → Nat
  | (.string bytes, d) => bytes.length + uptoBulk d + 1
  | (_, d) => uptoBulk d + 1
 end
def uptoSmall : (H : Type) → List (DataW H) → Bool := fun _ ds => decide (uptoBulkAll ds ≤ 1048576)
def OpenSpec.upto (s : _root_.Go.ChangeSpec) : _root_.Go.OpenSpec := { _root_.Go.OpenSpec.ofChange s with cond := some uptoSmall }

/-- 'laws.FnMakeShare', WHERE WHAT IT READS IS OF BULK AT MOST 1048576: true; the input reads as it did. -/
def fnMakeShareUptoRow : OpenClaim := { program := "ytbaecbibkmdbiabdoor", sum := "eee133fd61cc5ee3ffb1f78db11b1e64432ef4d6dd4a0d59741268a7b76dc4ef", func := "loop.example/dualmodes/laws.FnMakeShare", spec := "fnMakeShare", named := ["loop.example/dualmodes/impl.errTooGreat"], ifaces := true, apart := false, laid := [("loop.example/dualmodes/impl.errTooGreat", laid_loop_example_dualmodes_impl_errTooGreat)], narrowed := true }
def FnMakeShareUptoSaid : Prop := fnMakeShareUptoRow.holds Tryd.pinned (OpenSpec.upto fnMakeShareSpec)

/-- 'laws.FnAddShares', WHERE WHAT IT READS IS OF BULK AT MOST 1048576: true; the input reads as it did. -/
def fnAddSharesUptoRow : OpenClaim := { program := "ytbaecbibkmdbiabdoor", sum := "eee133fd61cc5ee3ffb1f78db11b1e64432ef4d6dd4a0d59741268a7b76dc4ef", func := "loop.example/dualmodes/laws.FnAddShares", spec := "fnAddShares", inPlace := ["internal/reflectlite.TypeOf"], unfollowed := true, recurses := true, named := ["loop.example/dualmodes/impl.errTooGreat"], ifaces := true, apart := false, laid := [("loop.example/dualmodes/impl.errTooGreat", laid_loop_example_dualmodes_impl_errTooGreat)], narrowed := true }
def FnAddSharesUptoSaid : Prop := fnAddSharesUptoRow.holds Tryd.pinned (OpenSpec.upto fnAddSharesSpec)

/-- 'laws.FnCompareShares', WHERE WHAT IT READS IS OF BULK AT MOST 1048576: true; the input reads as it did. -/
def fnCompareSharesUptoRow : OpenClaim := { program := "ytbaecbibkmdbiabdoor", sum := "eee133fd61cc5ee3ffb1f78db11b1e64432ef4d6dd4a0d59741268a7b76dc4ef", func := "loop.example/dualmodes/laws.FnCompareShares", spec := "fnCompareShares", named := ["loop.example/dualmodes/impl.errTooGreat"], ifaces := true, apart := false, laid := [("loop.example/dualmodes/impl.errTooGreat", laid_loop_example_dualmodes_impl_errTooGreat)], narrowed := true }
def FnCompareSharesUptoSaid : Prop := fnCompareSharesUptoRow.holds Tryd.pinned (OpenSpec.upto fnCompareSharesSpec)

/-- 'laws.FnShareZero', WHERE WHAT IT READS IS OF BULK AT MOST 1048576: true; the input reads as it did. -/
def fnShareZeroUptoRow : OpenClaim := { program := "ytbaecbibkmdbiabdoor", sum := "eee133fd61cc5ee3ffb1f78db11b1e64432ef4d6dd4a0d59741268a7b76dc4ef", func := "loop.example/dualmodes/laws.FnShareZero", spec := "fnShareZero", inPlace := ["internal/reflectlite.TypeOf"], unfollowed := true, recurses := true, named := ["loop.example/dualmodes/impl.errTooGreat"], ifaces := true, apart := false, laid := [("loop.example/dualmodes/impl.errTooGreat", laid_loop_example_dualmodes_impl_errTooGreat)], narrowed := true }
def FnShareZeroUptoSaid : Prop := fnShareZeroUptoRow.holds Tryd.pinned (OpenSpec.upto fnShareZeroSpec)

/-- 'laws.FnShareTwice', WHERE WHAT IT READS IS OF BULK AT MOST 1048576: true; the input reads as it did. -/
def fnShareTwiceUptoRow : OpenClaim := { program := "ytbaecbibkmdbiabdoor", sum := "eee133fd61cc5ee3ffb1f78db11b1e64432ef4d6dd4a0d59741268a7b76dc4ef", func := "loop.example/dualmodes/laws.FnShareTwice", spec := "fnShareTwice", named := ["loop.example/dualmodes/impl.errTooGreat"], ifaces := true, apart := false, laid := [("loop.example/dualmodes/impl.errTooGreat", laid_loop_example_dualmodes_impl_errTooGreat)], narrowed := true }
def FnShareTwiceUptoSaid : Prop := fnShareTwiceUptoRow.holds Tryd.pinned (OpenSpec.upto fnShareTwiceSpec)

/-- 'laws.FnAddMore', WHERE WHAT IT READS IS OF BULK AT MOST 1048576: true; the input reads as it did. -/
def fnAddMoreUptoRow : OpenClaim := { program := "ytbaecbibkmdbiabdoor", sum := "eee133fd61cc5ee3ffb1f78db11b1e64432ef4d6dd4a0d59741268a7b76dc4ef", func := "loop.example/dualmodes/laws.FnAddMore", spec := "fnAddMore", inPlace := ["internal/reflectlite.TypeOf"], unfollowed := true, recurses := true, named := ["loop.example/dualmodes/impl.errTooGreat"], ifaces := true, apart := false, laid := [("loop.example/dualmodes/impl.errTooGreat", laid_loop_example_dualmodes_impl_errTooGreat)], narrowed := true }
def FnAddMoreUptoSaid : Prop := fnAddMoreUptoRow.holds Tryd.pinned (OpenSpec.upto fnAddMoreSpec)

/-- 'laws.FnCompareSame', WHERE WHAT IT READS IS OF BULK AT MOST 1048576: true; the input reads as it did. -/
def fnCompareSameUptoRow : OpenClaim := { program := "ytbaecbibkmdbiabdoor", sum := "eee133fd61cc5ee3ffb1f78db11b1e64432ef4d6dd4a0d59741268a7b76dc4ef", func := "loop.example/dualmodes/laws.FnCompareSame", spec := "fnCompareSame", named := ["loop.example/dualmodes/impl.errTooGreat"], ifaces := true, apart := false, laid := [("loop.example/dualmodes/impl.errTooGreat", laid_loop_example_dualmodes_impl_errTooGreat)], narrowed := true }
def FnCompareSameUptoSaid : Prop := fnCompareSameUptoRow.holds Tryd.pinned (OpenSpec.upto fnCompareSameSpec)

/-- 'laws.FnShareValid', WHERE WHAT IT READS IS OF BULK AT MOST 1048576: true; the input reads as it did. -/
def fnShareValidUptoRow : OpenClaim := { program := "ytbaecbibkmdbiabdoor", sum := "eee133fd61cc5ee3ffb1f78db11b1e64432ef4d6dd4a0d59741268a7b76dc4ef", func := "loop.example/dualmodes/laws.FnShareValid", spec := "fnShareValid", named := ["loop.example/dualmodes/impl.errTooGreat"], ifaces := true, apart := false, laid := [("loop.example/dualmodes/impl.errTooGreat", laid_loop_example_dualmodes_impl_errTooGreat)], narrowed := true }
def FnShareValidUptoSaid : Prop := fnShareValidUptoRow.holds Tryd.pinned (OpenSpec.upto fnShareValidSpec)

/-- 'laws.FnExactMakeShare', WHERE WHAT IT READS IS OF BULK AT MOST 1048576: true; the input reads as it did. -/
def fnExactMakeShareUptoRow : OpenClaim := { program := "ytbaecbibkmdbiabdoor", sum := "eee133fd61cc5ee3ffb1f78db11b1e64432ef4d6dd4a0d59741268a7b76dc4ef", func := "loop.example/dualmodes/laws.FnExactMakeShare", spec := "fnExactMakeShare", named := ["loop.example/dualmodes/impl.errTooGreat"], ifaces := true, apart := false, laid := [("loop.example/dualmodes/impl.errTooGreat", laid_loop_example_dualmodes_impl_errTooGreat)], narrowed := true }
def FnExactMakeShareUptoSaid : Prop := fnExactMakeShareUptoRow.holds Tryd.pinned (OpenSpec.upto fnExactMakeShareSpec)

/-- 'laws.FnExactShareValid', WHERE WHAT IT READS IS OF BULK AT MOST 1048576: true; the input reads as it did. -/
def fnExactShareValidUptoRow : OpenClaim := { program := "ytbaecbibkmdbiabdoor", sum := "eee133fd61cc5ee3ffb1f78db11b1e64432ef4d6dd4a0d59741268a7b76dc4ef", func := "loop.example/dualmodes/laws.FnExactShareValid", spec := "fnExactShareValid", named := ["loop.example/dualmodes/impl.errTooGreat"], ifaces := true, apart := false, laid := [("loop.example/dualmodes/impl.errTooGreat", laid_loop_example_dualmodes_impl_errTooGreat)], narrowed := true }
def FnExactShareValidUptoSaid : Prop := fnExactShareValidUptoRow.holds Tryd.pinned (OpenSpec.upto fnExactShareValidSpec)

/-- 'laws.FnExactAddShares', WHERE WHAT IT READS IS OF BULK AT MOST 1048576: true; the input reads as it did. -/
def fnExactAddSharesUptoRow : OpenClaim := { program := "ytbaecbibkmdbiabdoor", sum := "eee133fd61cc5ee3ffb1f78db11b1e64432ef4d6dd4a0d59741268a7b76dc4ef", func := "loop.example/dualmodes/laws.FnExactAddShares", spec := "fnExactAddShares", inPlace := ["internal/reflectlite.TypeOf"], unfollowed := true, recurses := true, named := ["loop.example/dualmodes/impl.errTooGreat"], ifaces := true, apart := false, laid := [("loop.example/dualmodes/impl.errTooGreat", laid_loop_example_dualmodes_impl_errTooGreat)], narrowed := true }
def FnExactAddSharesUptoSaid : Prop := fnExactAddSharesUptoRow.holds Tryd.pinned (OpenSpec.upto fnExactAddSharesSpec)

/-- 'laws.FnExactCompareShares', WHERE WHAT IT READS IS OF BULK AT MOST 1048576: true; the input reads as it did. -/
def fnExactCompareSharesUptoRow : OpenClaim := { program := "ytbaecbibkmdbiabdoor", sum := "eee133fd61cc5ee3ffb1f78db11b1e64432ef4d6dd4a0d59741268a7b76dc4ef", func := "loop.example/dualmodes/laws.FnExactCompareShares", spec := "fnExactCompareShares", named := ["loop.example/dualmodes/impl.errTooGreat"], ifaces := true, apart := false, laid := [("loop.example/dualmodes/impl.errTooGreat", laid_loop_example_dualmodes_impl_errTooGreat)], narrowed := true }
def FnExactCompareSharesUptoSaid : Prop := fnExactCompareSharesUptoRow.holds Tryd.pinned (OpenSpec.upto fnExactCompareSharesSpec)

end Rows
end Go.Proofs.YtbaecbibkmdbiabDoor
