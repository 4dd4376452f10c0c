/-
  NARROWER THAN 'FOR EVERY INPUT', by the rows' own cells (each row's printed sentence says how): FnHoldsLow: ifaces, laid · FnBusyShare: ifaces, laid.
  DERIVED. THE GIVEN ROWS OF THIS SEAT. 2 by the template 'for every input the law returns true; each argument reads behind the call as it read before'; 0 by the template 'total and deterministic' (their statements: YtobkbbgllapcoabDoorTotals.lean).
  GIVEN WITH THE SEED: the statements are not yours to turn. If you find one false, say at which input.
  Laid BY PROGRAM, IN A SANDBOX (cutbox-rows.mjs): the forced cells as the released guide's own fill.sh prints them over the translation 9fc8d1611944dd93… (all of the seat's roots in one cut). By AI agents, Wed Nov 11 2026. No macro, syntax, notation, axiom, sorry.
-/
import Derived.Test.YtobkbbgllapcoabDoorChecked
import GoSem.Claim
import GoSem.ClaimJoined
import GoSem.ClaimMapViews
import Derived.JoinedTies
import Derived.KernelRfl
namespace Go.Proofs.YtobkbbgllapcoabDoor
/- THE CELL 'sum', in the pinned program and in every row, IS THE sha256 OF THE DUMP (.gsa) THAT YtobkbbgllapcoabDoorProg.lean LOADS. Nothing in Lean hashes anything: it is a label: what it is worth is what the hold of that sum in a sandbox is worth. -/
noncomputable def Tryd.pinned : Pinned := { name := "ytobkbbgllapcoabdoor", sum := "9fc8d1611944dd9398491952d97f0b6f395623a3042bcb83c4d96724b505a55d", checked := Tryd.checked }
namespace Rows
def none {H : Type} : Left H := { results := [], args := [] }

/- WHAT THE LISTED PACKAGE-LEVEL VARIABLES READ AS WHEN THE CALL BEGINS. Each datum BY PROGRAM (the guide's laid-datum.mjs) off the statement by which the dump's own 'gosem.cut.vars' lays the variable. In a bare row this is a premise. The card (YtobkbbgllapcoabDoorCards.lean) ties it to the program's text. -/
def laid_loop_example_dualmodes_impl_errTooGreat {H : Type} : DataW H := .iface "*errors.errorString" (.ptr (.agg [.lit (.string [116, 104, 101, 32, 115, 104, 97, 114, 101, 32, 104, 97, 115, 32, 116, 111, 111, 32, 103, 114, 101, 97, 116, 32, 97, 32, 110, 117, 109, 98, 101, 114])]))

/-- 'laws.FnHoldsLow': WHATEVER THE INPUT: true; the input reads as it did. -/
def fnHoldsLowSpec : ChangeSpec := { name := "fnHoldsLow", vars := ["loop.example/dualmodes/impl.errTooGreat"], fn := fun _ => fun
  | [d, g1] => { results := [.lit (.bool true)], args := [d], vars := [g1] }
  | _ => none }
def fnHoldsLowRow : OpenClaim := { program := "ytobkbbgllapcoabdoor", sum := "9fc8d1611944dd9398491952d97f0b6f395623a3042bcb83c4d96724b505a55d", func := "loop.example/dualmodes/laws.FnHoldsLow", spec := "fnHoldsLow", inPlace := ["internal/reflectlite.TypeOf"], unfollowed := true, recurses := true, named := ["loop.example/dualmodes/impl.errTooGreat"], ifaces := true, apart := false, laid := [("loop.example/dualmodes/impl.errTooGreat", laid_loop_example_dualmodes_impl_errTooGreat)] }
def FnHoldsLowSaid : Prop := fnHoldsLowRow.holds Tryd.pinned (OpenSpec.ofChange fnHoldsLowSpec)

/-- ITS FALSE NEIGHBOUR: 'it returns false'. Refute it at one input. -/
def fnHoldsLowWrong : ChangeSpec := { name := "fnHoldsLow", vars := ["loop.example/dualmodes/impl.errTooGreat"], fn := fun _ => fun
  | [d, g1] => { results := [.lit (.bool false)], args := [d], vars := [g1] }
  | _ => none }
def FnHoldsLowWrongFalsely : Prop := fnHoldsLowRow.holds Tryd.pinned (OpenSpec.ofChange fnHoldsLowWrong)

/-- 'laws.FnBusyShare': WHATEVER THE INPUT: true; the input reads as it did. -/
def fnBusyShareSpec : ChangeSpec := { name := "fnBusyShare", vars := ["loop.example/dualmodes/impl.errTooGreat"], fn := fun _ => fun
  | [d, g1] => { results := [.lit (.bool true)], args := [d], vars := [g1] }
  | _ => none }
def fnBusyShareRow : OpenClaim := { program := "ytobkbbgllapcoabdoor", sum := "9fc8d1611944dd9398491952d97f0b6f395623a3042bcb83c4d96724b505a55d", func := "loop.example/dualmodes/laws.FnBusyShare", spec := "fnBusyShare", inPlace := ["internal/reflectlite.TypeOf"], unfollowed := true, recurses := true, named := ["loop.example/dualmodes/impl.errTooGreat"], ifaces := true, apart := false, laid := [("loop.example/dualmodes/impl.errTooGreat", laid_loop_example_dualmodes_impl_errTooGreat)] }
def FnBusyShareSaid : Prop := fnBusyShareRow.holds Tryd.pinned (OpenSpec.ofChange fnBusyShareSpec)

/-- ITS FALSE NEIGHBOUR: 'it returns false'. Refute it at one input. -/
def fnBusyShareWrong : ChangeSpec := { name := "fnBusyShare", vars := ["loop.example/dualmodes/impl.errTooGreat"], fn := fun _ => fun
  | [d, g1] => { results := [.lit (.bool false)], args := [d], vars := [g1] }
  | _ => none }
def FnBusyShareWrongFalsely : Prop := fnBusyShareRow.holds Tryd.pinned (OpenSpec.ofChange fnBusyShareWrong)

/- THE SECOND FORM. 'bulk': how many values and letters a reading holds, each counted each time it is reached (what is shared counts as often as it is met; a slice's spare places count too). A statement '..UptoSaid' is the law's where the arguments, and the package variables that the reading takes, are together of bulk at most 1048576: NARROWER than '..Said'. Prove '..Said' where nothing that the law and all that it calls make is longer than what came in: it says more and counts as full. Else prove '..UptoSaid'. A law counts once. -/
mutual
def uptoBulk {H : Type} : DataW H → Nat
  | .lit (.string bytes) => bytes.length + 1
  | .lit _ => 1
  | .nil => 1
  | .ptr d => uptoBulk d + 1
  | .slice elems spare => uptoBulkAll elems + uptoBulkAll spare + 1
  | .agg parts => uptoBulkAll parts + 1
  | .iface _ d => uptoBulk d + 1
  | .map entries => uptoBulkEntries entries + 1
  | .held _ => 1
def uptoBulkAll {H : Type} : List (DataW H) → Nat
  | [] => 0
  | d :: r => uptoBulk d + uptoBulkAll r
def uptoBulkEntries {H : Type} : List (Lit × DataW H) → Nat
  | [] => 0
  | x :: r => uptoBulkEntry x + uptoBulkEntries r
def uptoBulkEntry {H : Type} : Lit × DataW H → Nat
  | (.string bytes, d) => bytes.length + uptoBulk d + 1
  | (_, d) => uptoBulk d + 1
 end
def uptoSmall : (H : Type) → List (DataW H) → Bool := fun _ ds => decide (uptoBulkAll ds ≤ 1048576)
def OpenSpec.upto (s : _root_.Go.ChangeSpec) : _root_.Go.OpenSpec := { _root_.Go.OpenSpec.ofChange s with cond := some uptoSmall }

/-- 'laws.FnHoldsLow', WHERE WHAT IT READS IS OF BULK AT MOST 1048576: true; the input reads as it did. -/
def fnHoldsLowUptoRow : OpenClaim := { program := "ytobkbbgllapcoabdoor", sum := "9fc8d1611944dd9398491952d97f0b6f395623a3042bcb83c4d96724b505a55d", func := "loop.example/dualmodes/laws.FnHoldsLow", spec := "fnHoldsLow", inPlace := ["internal/reflectlite.TypeOf"], unfollowed := true, recurses := true, named := ["loop.example/dualmodes/impl.errTooGreat"], ifaces := true, apart := false, laid := [("loop.example/dualmodes/impl.errTooGreat", laid_loop_example_dualmodes_impl_errTooGreat)], narrowed := true }
def FnHoldsLowUptoSaid : Prop := fnHoldsLowUptoRow.holds Tryd.pinned (OpenSpec.upto fnHoldsLowSpec)

/-- 'laws.FnBusyShare', WHERE WHAT IT READS IS OF BULK AT MOST 1048576: true; the input reads as it did. -/
def fnBusyShareUptoRow : OpenClaim := { program := "ytobkbbgllapcoabdoor", sum := "9fc8d1611944dd9398491952d97f0b6f395623a3042bcb83c4d96724b505a55d", func := "loop.example/dualmodes/laws.FnBusyShare", spec := "fnBusyShare", inPlace := ["internal/reflectlite.TypeOf"], unfollowed := true, recurses := true, named := ["loop.example/dualmodes/impl.errTooGreat"], ifaces := true, apart := false, laid := [("loop.example/dualmodes/impl.errTooGreat", laid_loop_example_dualmodes_impl_errTooGreat)], narrowed := true }
def FnBusyShareUptoSaid : Prop := fnBusyShareUptoRow.holds Tryd.pinned (OpenSpec.upto fnBusyShareSpec)

end Rows
end Go.Proofs.YtobkbbgllapcoabDoor
