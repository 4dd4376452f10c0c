/-
  NARROWER THAN 'FOR EVERY INPUT', by the rows' own cells (each row's printed sentence says how): FnLowShare: ifaces, laid · FnHighShare: ifaces, laid · FnLowParts: ifaces, laid · FnHighParts: ifaces, laid · FnShareSort: ifaces, laid · FnShareHyper: ifaces, laid · FnShareOne: ifaces, laid · FnExactLowShare: ifaces, laid · FnExactHighShare: ifaces, laid · FnHoldsLow: ifaces, laid · FnBusyShare: ifaces, laid.
  DERIVED. THE GIVEN ROWS OF THIS SEAT. 11 by the template 'for every input the law returns true; each argument reads behind the call as it read before'; 0 by the template 'total and deterministic' (their statements: YthaflbgkhlggkaaDoorTotals.lean).
  GIVEN WITH THE SEED: the statements are not yours to turn. If you find one false, say at which input.
  Laid BY PROGRAM, IN A SANDBOX (cutbox-rows.mjs): the forced cells as the released guide's own fill.sh prints them over the translation 7aa3feaaaf02e713… (all of the seat's roots in one cut). By AI agents, Wed Nov 11 2026. No macro, syntax, notation, axiom, sorry.
-/
import Derived.Test.YthaflbgkhlggkaaDoorChecked
import GoSem.Claim
import GoSem.ClaimJoined
import GoSem.ClaimMapViews
import Derived.JoinedTies
import Derived.KernelRfl
namespace Go.Proofs.YthaflbgkhlggkaaDoor
/- THE CELL 'sum', in the pinned program and in every row, IS THE sha256 OF THE DUMP (.gsa) THAT YthaflbgkhlggkaaDoorProg.lean LOADS. Nothing in Lean hashes anything: it is a label: what it is worth is what the hold of that sum in a sandbox is worth. -/
noncomputable def Tryd.pinned : Pinned := { name := "ythaflbgkhlggkaadoor", sum := "7aa3feaaaf02e71322079ada07c4f37121399a46fefa2df393d0a12e351811d9", checked := Tryd.checked }
namespace Rows
def none {H : Type} : Left H := { results := [], args := [] }

/- WHAT THE LISTED PACKAGE-LEVEL VARIABLES READ AS WHEN THE CALL BEGINS. Each datum BY PROGRAM (the guide's laid-datum.mjs) off the statement by which the dump's own 'gosem.cut.vars' lays the variable. In a bare row this is a premise. The card (YthaflbgkhlggkaaDoorCards.lean) ties it to the program's text. -/
def laid_loop_example_dualmodes_impl_errTooGreat {H : Type} : DataW H := .iface "*errors.errorString" (.ptr (.agg [.lit (.string [116, 104, 101, 32, 115, 104, 97, 114, 101, 32, 104, 97, 115, 32, 116, 111, 111, 32, 103, 114, 101, 97, 116, 32, 97, 32, 110, 117, 109, 98, 101, 114])]))

/-- 'laws.FnLowShare': WHATEVER THE INPUT: true; the input reads as it did. -/
def fnLowShareSpec : ChangeSpec := { name := "fnLowShare", vars := ["loop.example/dualmodes/impl.errTooGreat"], fn := fun _ => fun
  | [d, g1] => { results := [.lit (.bool true)], args := [d], vars := [g1] }
  | _ => none }
def fnLowShareRow : OpenClaim := { program := "ythaflbgkhlggkaadoor", sum := "7aa3feaaaf02e71322079ada07c4f37121399a46fefa2df393d0a12e351811d9", func := "loop.example/dualmodes/laws.FnLowShare", spec := "fnLowShare", inPlace := ["internal/reflectlite.TypeOf"], unfollowed := true, recurses := true, named := ["loop.example/dualmodes/impl.errTooGreat"], ifaces := true, apart := false, laid := [("loop.example/dualmodes/impl.errTooGreat", laid_loop_example_dualmodes_impl_errTooGreat)] }
def FnLowShareSaid : Prop := fnLowShareRow.holds Tryd.pinned (OpenSpec.ofChange fnLowShareSpec)

/-- ITS FALSE NEIGHBOUR: 'it returns false'. Refute it at one input. -/
def fnLowShareWrong : ChangeSpec := { name := "fnLowShare", vars := ["loop.example/dualmodes/impl.errTooGreat"], fn := fun _ => fun
  | [d, g1] => { results := [.lit (.bool false)], args := [d], vars := [g1] }
  | _ => none }
def FnLowShareWrongFalsely : Prop := fnLowShareRow.holds Tryd.pinned (OpenSpec.ofChange fnLowShareWrong)

/-- 'laws.FnHighShare': WHATEVER THE INPUT: true; the input reads as it did. -/
def fnHighShareSpec : ChangeSpec := { name := "fnHighShare", vars := ["loop.example/dualmodes/impl.errTooGreat"], fn := fun _ => fun
  | [d, g1] => { results := [.lit (.bool true)], args := [d], vars := [g1] }
  | _ => none }
def fnHighShareRow : OpenClaim := { program := "ythaflbgkhlggkaadoor", sum := "7aa3feaaaf02e71322079ada07c4f37121399a46fefa2df393d0a12e351811d9", func := "loop.example/dualmodes/laws.FnHighShare", spec := "fnHighShare", inPlace := ["internal/reflectlite.TypeOf"], unfollowed := true, recurses := true, named := ["loop.example/dualmodes/impl.errTooGreat"], ifaces := true, apart := false, laid := [("loop.example/dualmodes/impl.errTooGreat", laid_loop_example_dualmodes_impl_errTooGreat)] }
def FnHighShareSaid : Prop := fnHighShareRow.holds Tryd.pinned (OpenSpec.ofChange fnHighShareSpec)

/-- ITS FALSE NEIGHBOUR: 'it returns false'. Refute it at one input. -/
def fnHighShareWrong : ChangeSpec := { name := "fnHighShare", vars := ["loop.example/dualmodes/impl.errTooGreat"], fn := fun _ => fun
  | [d, g1] => { results := [.lit (.bool false)], args := [d], vars := [g1] }
  | _ => none }
def FnHighShareWrongFalsely : Prop := fnHighShareRow.holds Tryd.pinned (OpenSpec.ofChange fnHighShareWrong)

/-- 'laws.FnLowParts': WHATEVER THE INPUT: true; the input reads as it did. -/
def fnLowPartsSpec : ChangeSpec := { name := "fnLowParts", vars := ["loop.example/dualmodes/impl.errTooGreat"], fn := fun _ => fun
  | [d, g1] => { results := [.lit (.bool true)], args := [d], vars := [g1] }
  | _ => none }
def fnLowPartsRow : OpenClaim := { program := "ythaflbgkhlggkaadoor", sum := "7aa3feaaaf02e71322079ada07c4f37121399a46fefa2df393d0a12e351811d9", func := "loop.example/dualmodes/laws.FnLowParts", spec := "fnLowParts", inPlace := ["internal/reflectlite.TypeOf"], unfollowed := true, recurses := true, named := ["loop.example/dualmodes/impl.errTooGreat"], ifaces := true, apart := false, laid := [("loop.example/dualmodes/impl.errTooGreat", laid_loop_example_dualmodes_impl_errTooGreat)] }
def FnLowPartsSaid : Prop := fnLowPartsRow.holds Tryd.pinned (OpenSpec.ofChange fnLowPartsSpec)

/-- ITS FALSE NEIGHBOUR: 'it returns false'. Refute it at one input. -/
def fnLowPartsWrong : ChangeSpec := { name := "fnLowParts", vars := ["loop.example/dualmodes/impl.errTooGreat"], fn := fun _ => fun
  | [d, g1] => { results := [.lit (.bool false)], args := [d], vars := [g1] }
  | _ => none }
def FnLowPartsWrongFalsely : Prop := fnLowPartsRow.holds Tryd.pinned (OpenSpec.ofChange fnLowPartsWrong)

/-- 'laws.FnHighParts': WHATEVER THE INPUT: true; the input reads as it did. -/
def fnHighPartsSpec : ChangeSpec := { name := "fnHighParts", vars := ["loop.example/dualmodes/impl.errTooGreat"], fn := fun _ => fun
  | [d, g1] => { results := [.lit (.bool true)], args := [d], vars := [g1] }
  | _ => none }
def fnHighPartsRow : OpenClaim := { program := "ythaflbgkhlggkaadoor", sum := "7aa3feaaaf02e71322079ada07c4f37121399a46fefa2df393d0a12e351811d9", func := "loop.example/dualmodes/laws.FnHighParts", spec := "fnHighParts", inPlace := ["internal/reflectlite.TypeOf"], unfollowed := true, recurses := true, named := ["loop.example/dualmodes/impl.errTooGreat"], ifaces := true, apart := false, laid := [("loop.example/dualmodes/impl.errTooGreat", laid_loop_example_dualmodes_impl_errTooGreat)] }
def FnHighPartsSaid : Prop := fnHighPartsRow.holds Tryd.pinned (OpenSpec.ofChange fnHighPartsSpec)

/-- ITS FALSE NEIGHBOUR: 'it returns false'. Refute it at one input. -/
def fnHighPartsWrong : ChangeSpec := { name := "fnHighParts", vars := ["loop.example/dualmodes/impl.errTooGreat"], fn := fun _ => fun
  | [d, g1] => { results := [.lit (.bool false)], args := [d], vars := [g1] }
  | _ => none }
def FnHighPartsWrongFalsely : Prop := fnHighPartsRow.holds Tryd.pinned (OpenSpec.ofChange fnHighPartsWrong)

/-- 'laws.FnShareSort': WHATEVER THE INPUT: true; the input reads as it did. -/
def fnShareSortSpec : ChangeSpec := { name := "fnShareSort", vars := ["loop.example/dualmodes/impl.errTooGreat"], fn := fun _ => fun
  | [d, g1] => { results := [.lit (.bool true)], args := [d], vars := [g1] }
  | _ => none }
def fnShareSortRow : OpenClaim := { program := "ythaflbgkhlggkaadoor", sum := "7aa3feaaaf02e71322079ada07c4f37121399a46fefa2df393d0a12e351811d9", func := "loop.example/dualmodes/laws.FnShareSort", spec := "fnShareSort", inPlace := ["internal/reflectlite.TypeOf", "slices.overlaps[loop.example/dualmodes/impl.Task]"], unfollowed := true, recurses := true, named := ["loop.example/dualmodes/impl.errTooGreat"], ifaces := true, apart := false, laid := [("loop.example/dualmodes/impl.errTooGreat", laid_loop_example_dualmodes_impl_errTooGreat)] }
def FnShareSortSaid : Prop := fnShareSortRow.holds Tryd.pinned (OpenSpec.ofChange fnShareSortSpec)

/-- ITS FALSE NEIGHBOUR: 'it returns false'. Refute it at one input. -/
def fnShareSortWrong : ChangeSpec := { name := "fnShareSort", vars := ["loop.example/dualmodes/impl.errTooGreat"], fn := fun _ => fun
  | [d, g1] => { results := [.lit (.bool false)], args := [d], vars := [g1] }
  | _ => none }
def FnShareSortWrongFalsely : Prop := fnShareSortRow.holds Tryd.pinned (OpenSpec.ofChange fnShareSortWrong)

/-- 'laws.FnShareHyper': WHATEVER THE INPUT: true; the input reads as it did. -/
def fnShareHyperSpec : ChangeSpec := { name := "fnShareHyper", vars := ["loop.example/dualmodes/impl.errTooGreat"], fn := fun _ => fun
  | [d, g1] => { results := [.lit (.bool true)], args := [d], vars := [g1] }
  | _ => none }
def fnShareHyperRow : OpenClaim := { program := "ythaflbgkhlggkaadoor", sum := "7aa3feaaaf02e71322079ada07c4f37121399a46fefa2df393d0a12e351811d9", func := "loop.example/dualmodes/laws.FnShareHyper", spec := "fnShareHyper", inPlace := ["internal/reflectlite.TypeOf"], unfollowed := true, recurses := true, named := ["loop.example/dualmodes/impl.errTooGreat"], ifaces := true, apart := false, laid := [("loop.example/dualmodes/impl.errTooGreat", laid_loop_example_dualmodes_impl_errTooGreat)] }
def FnShareHyperSaid : Prop := fnShareHyperRow.holds Tryd.pinned (OpenSpec.ofChange fnShareHyperSpec)

/-- ITS FALSE NEIGHBOUR: 'it returns false'. Refute it at one input. -/
def fnShareHyperWrong : ChangeSpec := { name := "fnShareHyper", vars := ["loop.example/dualmodes/impl.errTooGreat"], fn := fun _ => fun
  | [d, g1] => { results := [.lit (.bool false)], args := [d], vars := [g1] }
  | _ => none }
def FnShareHyperWrongFalsely : Prop := fnShareHyperRow.holds Tryd.pinned (OpenSpec.ofChange fnShareHyperWrong)

/-- 'laws.FnShareOne': WHATEVER THE INPUT: true; the input reads as it did. -/
def fnShareOneSpec : ChangeSpec := { name := "fnShareOne", vars := ["loop.example/dualmodes/impl.errTooGreat"], fn := fun _ => fun
  | [d, g1] => { results := [.lit (.bool true)], args := [d], vars := [g1] }
  | _ => none }
def fnShareOneRow : OpenClaim := { program := "ythaflbgkhlggkaadoor", sum := "7aa3feaaaf02e71322079ada07c4f37121399a46fefa2df393d0a12e351811d9", func := "loop.example/dualmodes/laws.FnShareOne", spec := "fnShareOne", inPlace := ["internal/reflectlite.TypeOf"], unfollowed := true, recurses := true, named := ["loop.example/dualmodes/impl.errTooGreat"], ifaces := true, apart := false, laid := [("loop.example/dualmodes/impl.errTooGreat", laid_loop_example_dualmodes_impl_errTooGreat)] }
def FnShareOneSaid : Prop := fnShareOneRow.holds Tryd.pinned (OpenSpec.ofChange fnShareOneSpec)

/-- ITS FALSE NEIGHBOUR: 'it returns false'. Refute it at one input. -/
def fnShareOneWrong : ChangeSpec := { name := "fnShareOne", vars := ["loop.example/dualmodes/impl.errTooGreat"], fn := fun _ => fun
  | [d, g1] => { results := [.lit (.bool false)], args := [d], vars := [g1] }
  | _ => none }
def FnShareOneWrongFalsely : Prop := fnShareOneRow.holds Tryd.pinned (OpenSpec.ofChange fnShareOneWrong)

/-- 'laws.FnExactLowShare': WHATEVER THE INPUT: true; the input reads as it did. -/
def fnExactLowShareSpec : ChangeSpec := { name := "fnExactLowShare", vars := ["loop.example/dualmodes/impl.errTooGreat"], fn := fun _ => fun
  | [d1, d2, g1] => { results := [.lit (.bool true)], args := [d1, d2], vars := [g1] }
  | _ => none }
def fnExactLowShareRow : OpenClaim := { program := "ythaflbgkhlggkaadoor", sum := "7aa3feaaaf02e71322079ada07c4f37121399a46fefa2df393d0a12e351811d9", func := "loop.example/dualmodes/laws.FnExactLowShare", spec := "fnExactLowShare", inPlace := ["internal/reflectlite.TypeOf"], unfollowed := true, recurses := true, named := ["loop.example/dualmodes/impl.errTooGreat"], ifaces := true, apart := false, laid := [("loop.example/dualmodes/impl.errTooGreat", laid_loop_example_dualmodes_impl_errTooGreat)] }
def FnExactLowShareSaid : Prop := fnExactLowShareRow.holds Tryd.pinned (OpenSpec.ofChange fnExactLowShareSpec)

/-- ITS FALSE NEIGHBOUR: 'it returns false'. Refute it at one input. -/
def fnExactLowShareWrong : ChangeSpec := { name := "fnExactLowShare", vars := ["loop.example/dualmodes/impl.errTooGreat"], fn := fun _ => fun
  | [d1, d2, g1] => { results := [.lit (.bool false)], args := [d1, d2], vars := [g1] }
  | _ => none }
def FnExactLowShareWrongFalsely : Prop := fnExactLowShareRow.holds Tryd.pinned (OpenSpec.ofChange fnExactLowShareWrong)

/-- 'laws.FnExactHighShare': WHATEVER THE INPUT: true; the input reads as it did. -/
def fnExactHighShareSpec : ChangeSpec := { name := "fnExactHighShare", vars := ["loop.example/dualmodes/impl.errTooGreat"], fn := fun _ => fun
  | [d, g1] => { results := [.lit (.bool true)], args := [d], vars := [g1] }
  | _ => none }
def fnExactHighShareRow : OpenClaim := { program := "ythaflbgkhlggkaadoor", sum := "7aa3feaaaf02e71322079ada07c4f37121399a46fefa2df393d0a12e351811d9", func := "loop.example/dualmodes/laws.FnExactHighShare", spec := "fnExactHighShare", inPlace := ["internal/reflectlite.TypeOf"], unfollowed := true, recurses := true, named := ["loop.example/dualmodes/impl.errTooGreat"], ifaces := true, apart := false, laid := [("loop.example/dualmodes/impl.errTooGreat", laid_loop_example_dualmodes_impl_errTooGreat)] }
def FnExactHighShareSaid : Prop := fnExactHighShareRow.holds Tryd.pinned (OpenSpec.ofChange fnExactHighShareSpec)

/-- ITS FALSE NEIGHBOUR: 'it returns false'. Refute it at one input. -/
def fnExactHighShareWrong : ChangeSpec := { name := "fnExactHighShare", vars := ["loop.example/dualmodes/impl.errTooGreat"], fn := fun _ => fun
  | [d, g1] => { results := [.lit (.bool false)], args := [d], vars := [g1] }
  | _ => none }
def FnExactHighShareWrongFalsely : Prop := fnExactHighShareRow.holds Tryd.pinned (OpenSpec.ofChange fnExactHighShareWrong)

/-- 'laws.FnHoldsLow': WHATEVER THE INPUT: true; the input reads as it did. -/
def fnHoldsLowSpec : ChangeSpec := { name := "fnHoldsLow", vars := ["loop.example/dualmodes/impl.errTooGreat"], fn := fun _ => fun
  | [d, g1] => { results := [.lit (.bool true)], args := [d], vars := [g1] }
  | _ => none }
def fnHoldsLowRow : OpenClaim := { program := "ythaflbgkhlggkaadoor", sum := "7aa3feaaaf02e71322079ada07c4f37121399a46fefa2df393d0a12e351811d9", func := "loop.example/dualmodes/laws.FnHoldsLow", spec := "fnHoldsLow", inPlace := ["internal/reflectlite.TypeOf"], unfollowed := true, recurses := true, named := ["loop.example/dualmodes/impl.errTooGreat"], ifaces := true, apart := false, laid := [("loop.example/dualmodes/impl.errTooGreat", laid_loop_example_dualmodes_impl_errTooGreat)] }
def FnHoldsLowSaid : Prop := fnHoldsLowRow.holds Tryd.pinned (OpenSpec.ofChange fnHoldsLowSpec)

/-- ITS FALSE NEIGHBOUR: 'it returns false'. Refute it at one input. -/
def fnHoldsLowWrong : ChangeSpec := { name := "fnHoldsLow", vars := ["loop.example/dualmodes/impl.errTooGreat"], fn := fun _ => fun
  | [d, g1] => { results := [.lit (.bool false)], args := [d], vars := [g1] }
  | _ => none }
def FnHoldsLowWrongFalsely : Prop := fnHoldsLowRow.holds Tryd.pinned (OpenSpec.ofChange fnHoldsLowWrong)

/-- 'laws.FnBusyShare': WHATEVER THE INPUT: true; the input reads as it did. -/
def fnBusyShareSpec : ChangeSpec := { name := "fnBusyShare", vars := ["loop.example/dualmodes/impl.errTooGreat"], fn := fun _ => fun
  | [d, g1] => { results := [.lit (.bool true)], args := [d], vars := [g1] }
  | _ => none }
def fnBusyShareRow : OpenClaim := { program := "ythaflbgkhlggkaadoor", sum := "7aa3feaaaf02e71322079ada07c4f37121399a46fefa2df393d0a12e351811d9", func := "loop.example/dualmodes/laws.FnBusyShare", spec := "fnBusyShare", inPlace := ["internal/reflectlite.TypeOf"], unfollowed := true, recurses := true, named := ["loop.example/dualmodes/impl.errTooGreat"], ifaces := true, apart := false, laid := [("loop.example/dualmodes/impl.errTooGreat", laid_loop_example_dualmodes_impl_errTooGreat)] }
def FnBusyShareSaid : Prop := fnBusyShareRow.holds Tryd.pinned (OpenSpec.ofChange fnBusyShareSpec)

/-- ITS FALSE NEIGHBOUR: 'it returns false'. Refute it at one input. -/
def fnBusyShareWrong : ChangeSpec := { name := "fnBusyShare", vars := ["loop.example/dualmodes/impl.errTooGreat"], fn := fun _ => fun
  | [d, g1] => { results := [.lit (.bool false)], args := [d], vars := [g1] }
  | _ => none }
def FnBusyShareWrongFalsely : Prop := fnBusyShareRow.holds Tryd.pinned (OpenSpec.ofChange fnBusyShareWrong)

/- THE SECOND FORM. 'bulk': how many values and letters a reading holds, each counted each time it is reached (what is shared counts as often as it is met; a slice's spare places count too). A statement '..UptoSaid' is the law's where the arguments, and the package variables that the reading takes, are together of bulk at most 1048576: NARROWER than '..Said'. Prove '..Said' where nothing that the law and all that it calls make is longer than what came in: it says more and counts as full. Else prove '..UptoSaid'. A law counts once. -/
mutual
def uptoBulk {H : Type} : DataW H → Nat
  | .lit (.string bytes) => bytes.length + 1
  | .lit _ => 1
  | .nil => 1
  | .ptr d => uptoBulk d + 1
  | .slice elems spare => uptoBulkAll elems + uptoBulkAll spare + 1
  | .agg parts => uptoBulkAll parts + 1
  | .iface _ d => uptoBulk d + 1
  | .map entries => uptoBulkEntries entries + 1
  | .held _ => 1
def uptoBulkAll {H : Type} : List (DataW H) → Nat
  | [] => 0
  | d :: r => uptoBulk d + uptoBulkAll r
def uptoBulkEntries {H : Type} : List (Lit × DataW H) → Nat
  | [] => 0
  | x :: r => uptoBulkEntry x + uptoBulkEntries r
def uptoBulkEntry {H : Type} : Lit × DataW H → Nat
  | (.string bytes, d) => bytes.length + uptoBulk d + 1
  | (_, d) => uptoBulk d + 1
 end
def uptoSmall : (H : Type) → List (DataW H) → Bool := fun _ ds => decide (uptoBulkAll ds ≤ 1048576)
def OpenSpec.upto (s : _root_.Go.ChangeSpec) : _root_.Go.OpenSpec := { _root_.Go.OpenSpec.ofChange s with cond := some uptoSmall }

/-- 'laws.FnLowShare', WHERE WHAT IT READS IS OF BULK AT MOST 1048576: true; the input reads as it did. -/
def fnLowShareUptoRow : OpenClaim := { program := "ythaflbgkhlggkaadoor", sum := "7aa3feaaaf02e71322079ada07c4f37121399a46fefa2df393d0a12e351811d9", func := "loop.example/dualmodes/laws.FnLowShare", spec := "fnLowShare", inPlace := ["internal/reflectlite.TypeOf"], unfollowed := true, recurses := true, named := ["loop.example/dualmodes/impl.errTooGreat"], ifaces := true, apart := false, laid := [("loop.example/dualmodes/impl.errTooGreat", laid_loop_example_dualmodes_impl_errTooGreat)], narrowed := true }
def FnLowShareUptoSaid : Prop := fnLowShareUptoRow.holds Tryd.pinned (OpenSpec.upto fnLowShareSpec)

/-- 'laws.FnHighShare', WHERE WHAT IT READS IS OF BULK AT MOST 1048576: true; the input reads as it did. -/
def fnHighShareUptoRow : OpenClaim := { program := "ythaflbgkhlggkaadoor", sum := "7aa3feaaaf02e71322079ada07c4f37121399a46fefa2df393d0a12e351811d9", func := "loop.example/dualmodes/laws.FnHighShare", spec := "fnHighShare", inPlace := ["internal/reflectlite.TypeOf"], unfollowed := true, recurses := true, named := ["loop.example/dualmodes/impl.errTooGreat"], ifaces := true, apart := false, laid := [("loop.example/dualmodes/impl.errTooGreat", laid_loop_example_dualmodes_impl_errTooGreat)], narrowed := true }
def FnHighShareUptoSaid : Prop := fnHighShareUptoRow.holds Tryd.pinned (OpenSpec.upto fnHighShareSpec)

/-- 'laws.FnLowParts', WHERE WHAT IT READS IS OF BULK AT MOST 1048576: true; the input reads as it did. -/
def fnLowPartsUptoRow : OpenClaim := { program := "ythaflbgkhlggkaadoor", sum := "7aa3feaaaf02e71322079ada07c4f37121399a46fefa2df393d0a12e351811d9", func := "loop.example/dualmodes/laws.FnLowParts", spec := "fnLowParts", inPlace := ["internal/reflectlite.TypeOf"], unfollowed := true, recurses := true, named := ["loop.example/dualmodes/impl.errTooGreat"], ifaces := true, apart := false, laid := [("loop.example/dualmodes/impl.errTooGreat", laid_loop_example_dualmodes_impl_errTooGreat)], narrowed := true }
def FnLowPartsUptoSaid : Prop := fnLowPartsUptoRow.holds Tryd.pinned (OpenSpec.upto fnLowPartsSpec)

/-- 'laws.FnHighParts', WHERE WHAT IT READS IS OF BULK AT MOST 1048576: true; the input reads as it did. -/
def fnHighPartsUptoRow : OpenClaim := { program := "ythaflbgkhlggkaadoor", sum := "7aa3feaaaf02e71322079ada07c4f37121399a46fefa2df393d0a12e351811d9", func := "loop.example/dualmodes/laws.FnHighParts", spec := "fnHighParts", inPlace := ["internal/reflectlite.TypeOf"], unfollowed := true, recurses := true, named := ["loop.example/dualmodes/impl.errTooGreat"], ifaces := true, apart := false, laid := [("loop.example/dualmodes/impl.errTooGreat", laid_loop_example_dualmodes_impl_errTooGreat)], narrowed := true }
def FnHighPartsUptoSaid : Prop := fnHighPartsUptoRow.holds Tryd.pinned (OpenSpec.upto fnHighPartsSpec)

/-- 'laws.FnShareSort', WHERE WHAT IT READS IS OF BULK AT MOST 1048576: true; the input reads as it did. -/
def fnShareSortUptoRow : OpenClaim := { program := "ythaflbgkhlggkaadoor", sum := "7aa3feaaaf02e71322079ada07c4f37121399a46fefa2df393d0a12e351811d9", func := "loop.example/dualmodes/laws.FnShareSort", spec := "fnShareSort", inPlace := ["internal/reflectlite.TypeOf", "slices.overlaps[loop.example/dualmodes/impl.Task]"], unfollowed := true, recurses := true, named := ["loop.example/dualmodes/impl.errTooGreat"], ifaces := true, apart := false, laid := [("loop.example/dualmodes/impl.errTooGreat", laid_loop_example_dualmodes_impl_errTooGreat)], narrowed := true }
def FnShareSortUptoSaid : Prop := fnShareSortUptoRow.holds Tryd.pinned (OpenSpec.upto fnShareSortSpec)

/-- 'laws.FnShareHyper', WHERE WHAT IT READS IS OF BULK AT MOST 1048576: true; the input reads as it did. -/
def fnShareHyperUptoRow : OpenClaim := { program := "ythaflbgkhlggkaadoor", sum := "7aa3feaaaf02e71322079ada07c4f37121399a46fefa2df393d0a12e351811d9", func := "loop.example/dualmodes/laws.FnShareHyper", spec := "fnShareHyper", inPlace := ["internal/reflectlite.TypeOf"], unfollowed := true, recurses := true, named := ["loop.example/dualmodes/impl.errTooGreat"], ifaces := true, apart := false, laid := [("loop.example/dualmodes/impl.errTooGreat", laid_loop_example_dualmodes_impl_errTooGreat)], narrowed := true }
def FnShareHyperUptoSaid : Prop := fnShareHyperUptoRow.holds Tryd.pinned (OpenSpec.upto fnShareHyperSpec)

/-- 'laws.FnShareOne', WHERE WHAT IT READS IS OF BULK AT MOST 1048576: true; the input reads as it did. -/
def fnShareOneUptoRow : OpenClaim := { program := "ythaflbgkhlggkaadoor", sum := "7aa3feaaaf02e71322079ada07c4f37121399a46fefa2df393d0a12e351811d9", func := "loop.example/dualmodes/laws.FnShareOne", spec := "fnShareOne", inPlace := ["internal/reflectlite.TypeOf"], unfollowed := true, recurses := true, named := ["loop.example/dualmodes/impl.errTooGreat"], ifaces := true, apart := false, laid := [("loop.example/dualmodes/impl.errTooGreat", laid_loop_example_dualmodes_impl_errTooGreat)], narrowed := true }
def FnShareOneUptoSaid : Prop := fnShareOneUptoRow.holds Tryd.pinned (OpenSpec.upto fnShareOneSpec)

/-- 'laws.FnExactLowShare', WHERE WHAT IT READS IS OF BULK AT MOST 1048576: true; the input reads as it did. -/
def fnExactLowShareUptoRow : OpenClaim := { program := "ythaflbgkhlggkaadoor", sum := "7aa3feaaaf02e71322079ada07c4f37121399a46fefa2df393d0a12e351811d9", func := "loop.example/dualmodes/laws.FnExactLowShare", spec := "fnExactLowShare", inPlace := ["internal/reflectlite.TypeOf"], unfollowed := true, recurses := true, named := ["loop.example/dualmodes/impl.errTooGreat"], ifaces := true, apart := false, laid := [("loop.example/dualmodes/impl.errTooGreat", laid_loop_example_dualmodes_impl_errTooGreat)], narrowed := true }
def FnExactLowShareUptoSaid : Prop := fnExactLowShareUptoRow.holds Tryd.pinned (OpenSpec.upto fnExactLowShareSpec)

/-- 'laws.FnExactHighShare', WHERE WHAT IT READS IS OF BULK AT MOST 1048576: true; the input reads as it did. -/
def fnExactHighShareUptoRow : OpenClaim := { program := "ythaflbgkhlggkaadoor", sum := "7aa3feaaaf02e71322079ada07c4f37121399a46fefa2df393d0a12e351811d9", func := "loop.example/dualmodes/laws.FnExactHighShare", spec := "fnExactHighShare", inPlace := ["internal/reflectlite.TypeOf"], unfollowed := true, recurses := true, named := ["loop.example/dualmodes/impl.errTooGreat"], ifaces := true, apart := false, laid := [("loop.example/dualmodes/impl.errTooGreat", laid_loop_example_dualmodes_impl_errTooGreat)], narrowed := true }
def FnExactHighShareUptoSaid : Prop := fnExactHighShareUptoRow.holds Tryd.pinned (OpenSpec.upto fnExactHighShareSpec)

/-- 'laws.FnHoldsLow', WHERE WHAT IT READS IS OF BULK AT MOST 1048576: true; the input reads as it did. -/
def fnHoldsLowUptoRow : OpenClaim := { program := "ythaflbgkhlggkaadoor", sum := "7aa3feaaaf02e71322079ada07c4f37121399a46fefa2df393d0a12e351811d9", func := "loop.example/dualmodes/laws.FnHoldsLow", spec := "fnHoldsLow", inPlace := ["internal/reflectlite.TypeOf"], unfollowed := true, recurses := true, named := ["loop.example/dualmodes/impl.errTooGreat"], ifaces := true, apart := false, laid := [("loop.example/dualmodes/impl.errTooGreat", laid_loop_example_dualmodes_impl_errTooGreat)], narrowed := true }
def FnHoldsLowUptoSaid : Prop := fnHoldsLowUptoRow.holds Tryd.pinned (OpenSpec.upto fnHoldsLowSpec)

/-- 'laws.FnBusyShare', WHERE WHAT IT READS IS OF BULK AT MOST 1048576: true; the input reads as it did. -/
def fnBusyShareUptoRow : OpenClaim := { program := "ythaflbgkhlggkaadoor", sum := "7aa3feaaaf02e71322079ada07c4f37121399a46fefa2df393d0a12e351811d9", func := "loop.example/dualmodes/laws.FnBusyShare", spec := "fnBusyShare", inPlace := ["internal/reflectlite.TypeOf"], unfollowed := true, recurses := true, named := ["loop.example/dualmodes/impl.errTooGreat"], ifaces := true, apart := false, laid := [("loop.example/dualmodes/impl.errTooGreat", laid_loop_example_dualmodes_impl_errTooGreat)], narrowed := true }
def FnBusyShareUptoSaid : Prop := fnBusyShareUptoRow.holds Tryd.pinned (OpenSpec.upto fnBusyShareSpec)

end Rows
end Go.Proofs.YthaflbgkhlggkaaDoor
