/-
  NARROWER THAN 'FOR EVERY INPUT', by the rows' own cells (each row's printed sentence says how): FnAdmitAgain: ifaces, laid · FnAdmitLeave: ifaces, laid · FnAdmitAll: ifaces, laid · FnAdmitNone: ifaces, laid · FnAdmitRefused: ifaces, laid · FnExactAdmitAll: ifaces, laid.
  DERIVED. THE GIVEN ROWS OF THIS SEAT. 6 by the template 'for every input the law returns true; each argument reads behind the call as it read before'; 0 by the template 'total and deterministic' (their statements: YtgfnlfjaekkdfaaGreatDoorTotals.lean).
  GIVEN WITH THE SEED: the statements are not yours to turn. If you find one false, say at which input.
  Laid BY PROGRAM, IN A SANDBOX (cutbox-rows.mjs): the forced cells as the released guide's own fill.sh prints them over the translation 813d19c37f63d2b1… (all of the seat's roots in one cut). By AI agents, Wed Nov 11 2026. No macro, syntax, notation, axiom, sorry.
-/
import Derived.Test.YtgfnlfjaekkdfaaGreatDoorChecked
import GoSem.Claim
import GoSem.ClaimJoined
import GoSem.ClaimMapViews
import Derived.JoinedTies
import Derived.KernelRfl
namespace Go.Proofs.YtgfnlfjaekkdfaaGreatDoor
/- THE CELL 'sum', in the pinned program and in every row, IS THE sha256 OF THE DUMP (.gsa) THAT YtgfnlfjaekkdfaaGreatDoorProg.lean LOADS. Nothing in Lean hashes anything: it is a label: what it is worth is what the hold of that sum in a sandbox is worth. -/
noncomputable def Tryz.pinned : Pinned := { name := "ytgfnlfjaekkdfaagreatdoor", sum := "813d19c37f63d2b17a7096b84988095843c6c2dd5a9bbc08076dc97f27d987a8", checked := Tryz.checked }
namespace Rows
def none {H : Type} : Left H := { results := [], args := [] }

/- WHAT THE LISTED PACKAGE-LEVEL VARIABLES READ AS WHEN THE CALL BEGINS. Each datum BY PROGRAM (the guide's laid-datum.mjs) off the statement by which the dump's own 'gosem.cut.vars' lays the variable. In a bare row this is a premise. The card (YtgfnlfjaekkdfaaGreatDoorCards.lean) ties it to the program's text. -/
def laid_loop_example_dualmodes_impl_errTooGreat {H : Type} : DataW H := .iface "*errors.errorString" (.ptr (.agg [.lit (.string [116, 104, 101, 32, 115, 104, 97, 114, 101, 32, 104, 97, 115, 32, 116, 111, 111, 32, 103, 114, 101, 97, 116, 32, 97, 32, 110, 117, 109, 98, 101, 114])]))

/-- 'laws.FnAdmitAgain': WHATEVER THE INPUT: true; the input reads as it did. -/
def fnAdmitAgainSpec : ChangeSpec := { name := "fnAdmitAgain", vars := ["loop.example/dualmodes/impl.errTooGreat"], fn := fun _ => fun
  | [d, g1] => { results := [.lit (.bool true)], args := [d], vars := [g1] }
  | _ => none }
def fnAdmitAgainRow : OpenClaim := { program := "ytgfnlfjaekkdfaagreatdoor", sum := "813d19c37f63d2b17a7096b84988095843c6c2dd5a9bbc08076dc97f27d987a8", func := "loop.example/dualmodes/laws.FnAdmitAgain", spec := "fnAdmitAgain", inPlace := ["internal/reflectlite.TypeOf"], unfollowed := true, recurses := true, named := ["loop.example/dualmodes/impl.errTooGreat"], ifaces := true, apart := false, laid := [("loop.example/dualmodes/impl.errTooGreat", laid_loop_example_dualmodes_impl_errTooGreat)] }
def FnAdmitAgainSaid : Prop := fnAdmitAgainRow.holds Tryz.pinned (OpenSpec.ofChange fnAdmitAgainSpec)

/-- ITS FALSE NEIGHBOUR: 'it returns false'. Refute it at one input. -/
def fnAdmitAgainWrong : ChangeSpec := { name := "fnAdmitAgain", vars := ["loop.example/dualmodes/impl.errTooGreat"], fn := fun _ => fun
  | [d, g1] => { results := [.lit (.bool false)], args := [d], vars := [g1] }
  | _ => none }
def FnAdmitAgainWrongFalsely : Prop := fnAdmitAgainRow.holds Tryz.pinned (OpenSpec.ofChange fnAdmitAgainWrong)

/-- 'laws.FnAdmitLeave': WHATEVER THE INPUT: true; the input reads as it did. -/
def fnAdmitLeaveSpec : ChangeSpec := { name := "fnAdmitLeave", vars := ["loop.example/dualmodes/impl.errTooGreat"], fn := fun _ => fun
  | [d, g1] => { results := [.lit (.bool true)], args := [d], vars := [g1] }
  | _ => none }
def fnAdmitLeaveRow : OpenClaim := { program := "ytgfnlfjaekkdfaagreatdoor", sum := "813d19c37f63d2b17a7096b84988095843c6c2dd5a9bbc08076dc97f27d987a8", func := "loop.example/dualmodes/laws.FnAdmitLeave", spec := "fnAdmitLeave", inPlace := ["internal/reflectlite.TypeOf"], unfollowed := true, recurses := true, named := ["loop.example/dualmodes/impl.errTooGreat"], ifaces := true, apart := false, laid := [("loop.example/dualmodes/impl.errTooGreat", laid_loop_example_dualmodes_impl_errTooGreat)] }
def FnAdmitLeaveSaid : Prop := fnAdmitLeaveRow.holds Tryz.pinned (OpenSpec.ofChange fnAdmitLeaveSpec)

/-- ITS FALSE NEIGHBOUR: 'it returns false'. Refute it at one input. -/
def fnAdmitLeaveWrong : ChangeSpec := { name := "fnAdmitLeave", vars := ["loop.example/dualmodes/impl.errTooGreat"], fn := fun _ => fun
  | [d, g1] => { results := [.lit (.bool false)], args := [d], vars := [g1] }
  | _ => none }
def FnAdmitLeaveWrongFalsely : Prop := fnAdmitLeaveRow.holds Tryz.pinned (OpenSpec.ofChange fnAdmitLeaveWrong)

/-- 'laws.FnAdmitAll': WHATEVER THE INPUT: true; the input reads as it did. -/
def fnAdmitAllSpec : ChangeSpec := { name := "fnAdmitAll", vars := ["loop.example/dualmodes/impl.errTooGreat"], fn := fun _ => fun
  | [d, g1] => { results := [.lit (.bool true)], args := [d], vars := [g1] }
  | _ => none }
def fnAdmitAllRow : OpenClaim := { program := "ytgfnlfjaekkdfaagreatdoor", sum := "813d19c37f63d2b17a7096b84988095843c6c2dd5a9bbc08076dc97f27d987a8", func := "loop.example/dualmodes/laws.FnAdmitAll", spec := "fnAdmitAll", inPlace := ["internal/reflectlite.TypeOf"], unfollowed := true, recurses := true, named := ["loop.example/dualmodes/impl.errTooGreat"], ifaces := true, apart := false, laid := [("loop.example/dualmodes/impl.errTooGreat", laid_loop_example_dualmodes_impl_errTooGreat)] }
def FnAdmitAllSaid : Prop := fnAdmitAllRow.holds Tryz.pinned (OpenSpec.ofChange fnAdmitAllSpec)

/-- ITS FALSE NEIGHBOUR: 'it returns false'. Refute it at one input. -/
def fnAdmitAllWrong : ChangeSpec := { name := "fnAdmitAll", vars := ["loop.example/dualmodes/impl.errTooGreat"], fn := fun _ => fun
  | [d, g1] => { results := [.lit (.bool false)], args := [d], vars := [g1] }
  | _ => none }
def FnAdmitAllWrongFalsely : Prop := fnAdmitAllRow.holds Tryz.pinned (OpenSpec.ofChange fnAdmitAllWrong)

/-- 'laws.FnAdmitNone': WHATEVER THE INPUT: true; the input reads as it did. -/
def fnAdmitNoneSpec : ChangeSpec := { name := "fnAdmitNone", vars := ["loop.example/dualmodes/impl.errTooGreat"], fn := fun _ => fun
  | [d, g1] => { results := [.lit (.bool true)], args := [d], vars := [g1] }
  | _ => none }
def fnAdmitNoneRow : OpenClaim := { program := "ytgfnlfjaekkdfaagreatdoor", sum := "813d19c37f63d2b17a7096b84988095843c6c2dd5a9bbc08076dc97f27d987a8", func := "loop.example/dualmodes/laws.FnAdmitNone", spec := "fnAdmitNone", inPlace := ["internal/reflectlite.TypeOf"], unfollowed := true, recurses := true, named := ["loop.example/dualmodes/impl.errTooGreat"], ifaces := true, apart := false, laid := [("loop.example/dualmodes/impl.errTooGreat", laid_loop_example_dualmodes_impl_errTooGreat)] }
def FnAdmitNoneSaid : Prop := fnAdmitNoneRow.holds Tryz.pinned (OpenSpec.ofChange fnAdmitNoneSpec)

/-- ITS FALSE NEIGHBOUR: 'it returns false'. Refute it at one input. -/
def fnAdmitNoneWrong : ChangeSpec := { name := "fnAdmitNone", vars := ["loop.example/dualmodes/impl.errTooGreat"], fn := fun _ => fun
  | [d, g1] => { results := [.lit (.bool false)], args := [d], vars := [g1] }
  | _ => none }
def FnAdmitNoneWrongFalsely : Prop := fnAdmitNoneRow.holds Tryz.pinned (OpenSpec.ofChange fnAdmitNoneWrong)

/-- 'laws.FnAdmitRefused': WHATEVER THE INPUT: true; the input reads as it did. -/
def fnAdmitRefusedSpec : ChangeSpec := { name := "fnAdmitRefused", vars := ["loop.example/dualmodes/impl.errTooGreat"], fn := fun _ => fun
  | [d, g1] => { results := [.lit (.bool true)], args := [d], vars := [g1] }
  | _ => none }
def fnAdmitRefusedRow : OpenClaim := { program := "ytgfnlfjaekkdfaagreatdoor", sum := "813d19c37f63d2b17a7096b84988095843c6c2dd5a9bbc08076dc97f27d987a8", func := "loop.example/dualmodes/laws.FnAdmitRefused", spec := "fnAdmitRefused", inPlace := ["internal/reflectlite.TypeOf"], unfollowed := true, recurses := true, named := ["loop.example/dualmodes/impl.errTooGreat"], ifaces := true, apart := false, laid := [("loop.example/dualmodes/impl.errTooGreat", laid_loop_example_dualmodes_impl_errTooGreat)] }
def FnAdmitRefusedSaid : Prop := fnAdmitRefusedRow.holds Tryz.pinned (OpenSpec.ofChange fnAdmitRefusedSpec)

/-- ITS FALSE NEIGHBOUR: 'it returns false'. Refute it at one input. -/
def fnAdmitRefusedWrong : ChangeSpec := { name := "fnAdmitRefused", vars := ["loop.example/dualmodes/impl.errTooGreat"], fn := fun _ => fun
  | [d, g1] => { results := [.lit (.bool false)], args := [d], vars := [g1] }
  | _ => none }
def FnAdmitRefusedWrongFalsely : Prop := fnAdmitRefusedRow.holds Tryz.pinned (OpenSpec.ofChange fnAdmitRefusedWrong)

/-- 'laws.FnExactAdmitAll': WHATEVER THE INPUT: true; the input reads as it did. -/
def fnExactAdmitAllSpec : ChangeSpec := { name := "fnExactAdmitAll", vars := ["loop.example/dualmodes/impl.errTooGreat"], fn := fun _ => fun
  | [d1, d2, g1] => { results := [.lit (.bool true)], args := [d1, d2], vars := [g1] }
  | _ => none }
def fnExactAdmitAllRow : OpenClaim := { program := "ytgfnlfjaekkdfaagreatdoor", sum := "813d19c37f63d2b17a7096b84988095843c6c2dd5a9bbc08076dc97f27d987a8", func := "loop.example/dualmodes/laws.FnExactAdmitAll", spec := "fnExactAdmitAll", inPlace := ["internal/reflectlite.TypeOf"], unfollowed := true, recurses := true, named := ["loop.example/dualmodes/impl.errTooGreat"], ifaces := true, apart := false, laid := [("loop.example/dualmodes/impl.errTooGreat", laid_loop_example_dualmodes_impl_errTooGreat)] }
def FnExactAdmitAllSaid : Prop := fnExactAdmitAllRow.holds Tryz.pinned (OpenSpec.ofChange fnExactAdmitAllSpec)

/-- ITS FALSE NEIGHBOUR: 'it returns false'. Refute it at one input. -/
def fnExactAdmitAllWrong : ChangeSpec := { name := "fnExactAdmitAll", vars := ["loop.example/dualmodes/impl.errTooGreat"], fn := fun _ => fun
  | [d1, d2, g1] => { results := [.lit (.bool false)], args := [d1, d2], vars := [g1] }
  | _ => none }
def FnExactAdmitAllWrongFalsely : Prop := fnExactAdmitAllRow.holds Tryz.pinned (OpenSpec.ofChange fnExactAdmitAllWrong)

/- THE SECOND FORM. 'bulk': how many values and letters a reading holds, each counted each time it is reached (what is shared counts as often as it is met; a slice's spare places count too). A statement '..UptoSaid' is the law's where the arguments, and the package variables that the reading takes, are together of bulk at most 1048576: NARROWER than '..Said'. Prove '..Said' where nothing that the law and all that it calls make is longer than what came in: it says more and counts as full. Else prove '..UptoSaid'. A law counts once. -/
mutual
def uptoBulk {H : Type} : DataW H → Nat
  | .lit (.string bytes) => bytes.length + 1
  | .lit _ => 1
  | .nil => 1
  | .ptr d => uptoBulk d + 1
  | .slice elems spare => uptoBulkAll elems + uptoBulkAll spare + 1
  | .agg parts => uptoBulkAll parts + 1
  | .iface _ d => uptoBulk d + 1
  | .map entries => uptoBulkEntries entries + 1
  | .held _ => 1
def uptoBulkAll {H : Type} : List (DataW H) → Nat
  | [] => 0
  | d :: r => uptoBulk d + uptoBulkAll r
def uptoBulkEntries {H : Type} : List (Lit × DataW H) → Nat
  | [] => 0
  | x :: r => uptoBulkEntry x + uptoBulkEntries r
def uptoBulkEntry {H : Type} : Lit × DataW H → Nat
  | (.string bytes, d) => bytes.length + uptoBulk d + 1
  | (_, d) => uptoBulk d + 1
 end
def uptoSmall : (H : Type) → List (DataW H) → Bool := fun _ ds => decide (uptoBulkAll ds ≤ 1048576)
def OpenSpec.upto (s : _root_.Go.ChangeSpec) : _root_.Go.OpenSpec := { _root_.Go.OpenSpec.ofChange s with cond := some uptoSmall }

/-- 'laws.FnAdmitAgain', WHERE WHAT IT READS IS OF BULK AT MOST 1048576: true; the input reads as it did. -/
def fnAdmitAgainUptoRow : OpenClaim := { program := "ytgfnlfjaekkdfaagreatdoor", sum := "813d19c37f63d2b17a7096b84988095843c6c2dd5a9bbc08076dc97f27d987a8", func := "loop.example/dualmodes/laws.FnAdmitAgain", spec := "fnAdmitAgain", inPlace := ["internal/reflectlite.TypeOf"], unfollowed := true, recurses := true, named := ["loop.example/dualmodes/impl.errTooGreat"], ifaces := true, apart := false, laid := [("loop.example/dualmodes/impl.errTooGreat", laid_loop_example_dualmodes_impl_errTooGreat)], narrowed := true }
def FnAdmitAgainUptoSaid : Prop := fnAdmitAgainUptoRow.holds Tryz.pinned (OpenSpec.upto fnAdmitAgainSpec)

/-- 'laws.FnAdmitLeave', WHERE WHAT IT READS IS OF BULK AT MOST 1048576: true; the input reads as it did. -/
def fnAdmitLeaveUptoRow : OpenClaim := { program := "ytgfnlfjaekkdfaagreatdoor", sum := "813d19c37f63d2b17a7096b84988095843c6c2dd5a9bbc08076dc97f27d987a8", func := "loop.example/dualmodes/laws.FnAdmitLeave", spec := "fnAdmitLeave", inPlace := ["internal/reflectlite.TypeOf"], unfollowed := true, recurses := true, named := ["loop.example/dualmodes/impl.errTooGreat"], ifaces := true, apart := false, laid := [("loop.example/dualmodes/impl.errTooGreat", laid_loop_example_dualmodes_impl_errTooGreat)], narrowed := true }
def FnAdmitLeaveUptoSaid : Prop := fnAdmitLeaveUptoRow.holds Tryz.pinned (OpenSpec.upto fnAdmitLeaveSpec)

/-- 'laws.FnAdmitAll', WHERE WHAT IT READS IS OF BULK AT MOST 1048576: true; the input reads as it did. -/
def fnAdmitAllUptoRow : OpenClaim := { program := "ytgfnlfjaekkdfaagreatdoor", sum := "813d19c37f63d2b17a7096b84988095843c6c2dd5a9bbc08076dc97f27d987a8", func := "loop.example/dualmodes/laws.FnAdmitAll", spec := "fnAdmitAll", inPlace := ["internal/reflectlite.TypeOf"], unfollowed := true, recurses := true, named := ["loop.example/dualmodes/impl.errTooGreat"], ifaces := true, apart := false, laid := [("loop.example/dualmodes/impl.errTooGreat", laid_loop_example_dualmodes_impl_errTooGreat)], narrowed := true }
def FnAdmitAllUptoSaid : Prop := fnAdmitAllUptoRow.holds Tryz.pinned (OpenSpec.upto fnAdmitAllSpec)

/-- 'laws.FnAdmitNone', WHERE WHAT IT READS IS OF BULK AT MOST 1048576: true; the input reads as it did. -/
def fnAdmitNoneUptoRow : OpenClaim := { program := "ytgfnlfjaekkdfaagreatdoor", sum := "813d19c37f63d2b17a7096b84988095843c6c2dd5a9bbc08076dc97f27d987a8", func := "loop.example/dualmodes/laws.FnAdmitNone", spec := "fnAdmitNone", inPlace := ["internal/reflectlite.TypeOf"], unfollowed := true, recurses := true, named := ["loop.example/dualmodes/impl.errTooGreat"], ifaces := true, apart := false, laid := [("loop.example/dualmodes/impl.errTooGreat", laid_loop_example_dualmodes_impl_errTooGreat)], narrowed := true }
def FnAdmitNoneUptoSaid : Prop := fnAdmitNoneUptoRow.holds Tryz.pinned (OpenSpec.upto fnAdmitNoneSpec)

/-- 'laws.FnAdmitRefused', WHERE WHAT IT READS IS OF BULK AT MOST 1048576: true; the input reads as it did. -/
def fnAdmitRefusedUptoRow : OpenClaim := { program := "ytgfnlfjaekkdfaagreatdoor", sum := "813d19c37f63d2b17a7096b84988095843c6c2dd5a9bbc08076dc97f27d987a8", func := "loop.example/dualmodes/laws.FnAdmitRefused", spec := "fnAdmitRefused", inPlace := ["internal/reflectlite.TypeOf"], unfollowed := true, recurses := true, named := ["loop.example/dualmodes/impl.errTooGreat"], ifaces := true, apart := false, laid := [("loop.example/dualmodes/impl.errTooGreat", laid_loop_example_dualmodes_impl_errTooGreat)], narrowed := true }
def FnAdmitRefusedUptoSaid : Prop := fnAdmitRefusedUptoRow.holds Tryz.pinned (OpenSpec.upto fnAdmitRefusedSpec)

/-- 'laws.FnExactAdmitAll', WHERE WHAT IT READS IS OF BULK AT MOST 1048576: true; the input reads as it did. -/
def fnExactAdmitAllUptoRow : OpenClaim := { program := "ytgfnlfjaekkdfaagreatdoor", sum := "813d19c37f63d2b17a7096b84988095843c6c2dd5a9bbc08076dc97f27d987a8", func := "loop.example/dualmodes/laws.FnExactAdmitAll", spec := "fnExactAdmitAll", inPlace := ["internal/reflectlite.TypeOf"], unfollowed := true, recurses := true, named := ["loop.example/dualmodes/impl.errTooGreat"], ifaces := true, apart := false, laid := [("loop.example/dualmodes/impl.errTooGreat", laid_loop_example_dualmodes_impl_errTooGreat)], narrowed := true }
def FnExactAdmitAllUptoSaid : Prop := fnExactAdmitAllUptoRow.holds Tryz.pinned (OpenSpec.upto fnExactAdmitAllSpec)

end Rows
end Go.Proofs.YtgfnlfjaekkdfaaGreatDoor
