/-
  NARROWER THAN 'FOR EVERY INPUT', by the rows' own cells (each row's printed sentence says how): FnAdmitTask: ifaces, laid · FnHoldsBy: ifaces, laid · FnAdmitPolicy: ifaces, laid · FnCanHold: ifaces, laid · FnExactAdmitTask: ifaces, laid.
  DERIVED. THE GIVEN ROWS OF THIS SEAT. 5 by the template 'for every input the law returns true; each argument reads behind the call as it read before'; 0 by the template 'total and deterministic' (their statements: YtfjbkblodgdcnaaGreatDoorTotals.lean).
  GIVEN WITH THE SEED: the statements are not yours to turn. If you find one false, say at which input.
  Laid BY PROGRAM, IN A SANDBOX (cutbox-rows.mjs): the forced cells as the released guide's own fill.sh prints them over the translation 2cb818fc65a55b66… (all of the seat's roots in one cut). By AI agents, Wed Nov 11 2026. No macro, syntax, notation, axiom, sorry.
-/
import Derived.Test.YtfjbkblodgdcnaaGreatDoorChecked
import GoSem.Claim
import GoSem.ClaimJoined
import GoSem.ClaimMapViews
import Derived.JoinedTies
import Derived.KernelRfl
namespace Go.Proofs.YtfjbkblodgdcnaaGreatDoor
/- THE CELL 'sum', in the pinned program and in every row, IS THE sha256 OF THE DUMP (.gsa) THAT YtfjbkblodgdcnaaGreatDoorProg.lean LOADS. Nothing in Lean hashes anything: it is a label: what it is worth is what the hold of that sum in a sandbox is worth. -/
noncomputable def Tryz.pinned : Pinned := { name := "ytfjbkblodgdcnaagreatdoor", sum := "2cb818fc65a55b66d80ab0bf2752db1e5e18c055856d05313260df8b8e3c2f69", checked := Tryz.checked }
namespace Rows
def none {H : Type} : Left H := { results := [], args := [] }

/- WHAT THE LISTED PACKAGE-LEVEL VARIABLES READ AS WHEN THE CALL BEGINS. Each datum BY PROGRAM (the guide's laid-datum.mjs) off the statement by which the dump's own 'gosem.cut.vars' lays the variable. In a bare row this is a premise. The card (YtfjbkblodgdcnaaGreatDoorCards.lean) ties it to the program's text. -/
def laid_loop_example_dualmodes_impl_errTooGreat {H : Type} : DataW H := .iface "*errors.errorString" (.ptr (.agg [.lit (.string [116, 104, 101, 32, 115, 104, 97, 114, 101, 32, 104, 97, 115, 32, 116, 111, 111, 32, 103, 114, 101, 97, 116, 32, 97, 32, 110, 117, 109, 98, 101, 114])]))

/-- 'laws.FnAdmitTask': WHATEVER THE INPUT: true; the input reads as it did. -/
def fnAdmitTaskSpec : ChangeSpec := { name := "fnAdmitTask", vars := ["loop.example/dualmodes/impl.errTooGreat"], fn := fun _ => fun
  | [d, g1] => { results := [.lit (.bool true)], args := [d], vars := [g1] }
  | _ => none }
def fnAdmitTaskRow : OpenClaim := { program := "ytfjbkblodgdcnaagreatdoor", sum := "2cb818fc65a55b66d80ab0bf2752db1e5e18c055856d05313260df8b8e3c2f69", func := "loop.example/dualmodes/laws.FnAdmitTask", spec := "fnAdmitTask", inPlace := ["internal/reflectlite.TypeOf"], unfollowed := true, recurses := true, named := ["loop.example/dualmodes/impl.errTooGreat"], ifaces := true, apart := false, laid := [("loop.example/dualmodes/impl.errTooGreat", laid_loop_example_dualmodes_impl_errTooGreat)] }
def FnAdmitTaskSaid : Prop := fnAdmitTaskRow.holds Tryz.pinned (OpenSpec.ofChange fnAdmitTaskSpec)

/-- ITS FALSE NEIGHBOUR: 'it returns false'. Refute it at one input. -/
def fnAdmitTaskWrong : ChangeSpec := { name := "fnAdmitTask", vars := ["loop.example/dualmodes/impl.errTooGreat"], fn := fun _ => fun
  | [d, g1] => { results := [.lit (.bool false)], args := [d], vars := [g1] }
  | _ => none }
def FnAdmitTaskWrongFalsely : Prop := fnAdmitTaskRow.holds Tryz.pinned (OpenSpec.ofChange fnAdmitTaskWrong)

/-- 'laws.FnHoldsBy': WHATEVER THE INPUT: true; the input reads as it did. -/
def fnHoldsBySpec : ChangeSpec := { name := "fnHoldsBy", vars := ["loop.example/dualmodes/impl.errTooGreat"], fn := fun _ => fun
  | [d, g1] => { results := [.lit (.bool true)], args := [d], vars := [g1] }
  | _ => none }
def fnHoldsByRow : OpenClaim := { program := "ytfjbkblodgdcnaagreatdoor", sum := "2cb818fc65a55b66d80ab0bf2752db1e5e18c055856d05313260df8b8e3c2f69", func := "loop.example/dualmodes/laws.FnHoldsBy", spec := "fnHoldsBy", inPlace := ["internal/reflectlite.TypeOf"], unfollowed := true, recurses := true, named := ["loop.example/dualmodes/impl.errTooGreat"], ifaces := true, apart := false, laid := [("loop.example/dualmodes/impl.errTooGreat", laid_loop_example_dualmodes_impl_errTooGreat)] }
def FnHoldsBySaid : Prop := fnHoldsByRow.holds Tryz.pinned (OpenSpec.ofChange fnHoldsBySpec)

/-- ITS FALSE NEIGHBOUR: 'it returns false'. Refute it at one input. -/
def fnHoldsByWrong : ChangeSpec := { name := "fnHoldsBy", vars := ["loop.example/dualmodes/impl.errTooGreat"], fn := fun _ => fun
  | [d, g1] => { results := [.lit (.bool false)], args := [d], vars := [g1] }
  | _ => none }
def FnHoldsByWrongFalsely : Prop := fnHoldsByRow.holds Tryz.pinned (OpenSpec.ofChange fnHoldsByWrong)

/-- 'laws.FnAdmitPolicy': WHATEVER THE INPUT: true; the input reads as it did. -/
def fnAdmitPolicySpec : ChangeSpec := { name := "fnAdmitPolicy", vars := ["loop.example/dualmodes/impl.errTooGreat"], fn := fun _ => fun
  | [d, g1] => { results := [.lit (.bool true)], args := [d], vars := [g1] }
  | _ => none }
def fnAdmitPolicyRow : OpenClaim := { program := "ytfjbkblodgdcnaagreatdoor", sum := "2cb818fc65a55b66d80ab0bf2752db1e5e18c055856d05313260df8b8e3c2f69", func := "loop.example/dualmodes/laws.FnAdmitPolicy", spec := "fnAdmitPolicy", inPlace := ["internal/reflectlite.TypeOf"], unfollowed := true, recurses := true, named := ["loop.example/dualmodes/impl.errTooGreat"], ifaces := true, apart := false, laid := [("loop.example/dualmodes/impl.errTooGreat", laid_loop_example_dualmodes_impl_errTooGreat)] }
def FnAdmitPolicySaid : Prop := fnAdmitPolicyRow.holds Tryz.pinned (OpenSpec.ofChange fnAdmitPolicySpec)

/-- ITS FALSE NEIGHBOUR: 'it returns false'. Refute it at one input. -/
def fnAdmitPolicyWrong : ChangeSpec := { name := "fnAdmitPolicy", vars := ["loop.example/dualmodes/impl.errTooGreat"], fn := fun _ => fun
  | [d, g1] => { results := [.lit (.bool false)], args := [d], vars := [g1] }
  | _ => none }
def FnAdmitPolicyWrongFalsely : Prop := fnAdmitPolicyRow.holds Tryz.pinned (OpenSpec.ofChange fnAdmitPolicyWrong)

/-- 'laws.FnCanHold': WHATEVER THE INPUT: true; the input reads as it did. -/
def fnCanHoldSpec : ChangeSpec := { name := "fnCanHold", vars := ["loop.example/dualmodes/impl.errTooGreat"], fn := fun _ => fun
  | [d, g1] => { results := [.lit (.bool true)], args := [d], vars := [g1] }
  | _ => none }
def fnCanHoldRow : OpenClaim := { program := "ytfjbkblodgdcnaagreatdoor", sum := "2cb818fc65a55b66d80ab0bf2752db1e5e18c055856d05313260df8b8e3c2f69", func := "loop.example/dualmodes/laws.FnCanHold", spec := "fnCanHold", inPlace := ["internal/reflectlite.TypeOf"], unfollowed := true, recurses := true, named := ["loop.example/dualmodes/impl.errTooGreat"], ifaces := true, apart := false, laid := [("loop.example/dualmodes/impl.errTooGreat", laid_loop_example_dualmodes_impl_errTooGreat)] }
def FnCanHoldSaid : Prop := fnCanHoldRow.holds Tryz.pinned (OpenSpec.ofChange fnCanHoldSpec)

/-- ITS FALSE NEIGHBOUR: 'it returns false'. Refute it at one input. -/
def fnCanHoldWrong : ChangeSpec := { name := "fnCanHold", vars := ["loop.example/dualmodes/impl.errTooGreat"], fn := fun _ => fun
  | [d, g1] => { results := [.lit (.bool false)], args := [d], vars := [g1] }
  | _ => none }
def FnCanHoldWrongFalsely : Prop := fnCanHoldRow.holds Tryz.pinned (OpenSpec.ofChange fnCanHoldWrong)

/-- 'laws.FnExactAdmitTask': WHATEVER THE INPUT: true; the input reads as it did. -/
def fnExactAdmitTaskSpec : ChangeSpec := { name := "fnExactAdmitTask", vars := ["loop.example/dualmodes/impl.errTooGreat"], fn := fun _ => fun
  | [d1, d2, d3, g1] => { results := [.lit (.bool true)], args := [d1, d2, d3], vars := [g1] }
  | _ => none }
def fnExactAdmitTaskRow : OpenClaim := { program := "ytfjbkblodgdcnaagreatdoor", sum := "2cb818fc65a55b66d80ab0bf2752db1e5e18c055856d05313260df8b8e3c2f69", func := "loop.example/dualmodes/laws.FnExactAdmitTask", spec := "fnExactAdmitTask", inPlace := ["internal/reflectlite.TypeOf"], unfollowed := true, recurses := true, named := ["loop.example/dualmodes/impl.errTooGreat"], ifaces := true, apart := false, laid := [("loop.example/dualmodes/impl.errTooGreat", laid_loop_example_dualmodes_impl_errTooGreat)] }
def FnExactAdmitTaskSaid : Prop := fnExactAdmitTaskRow.holds Tryz.pinned (OpenSpec.ofChange fnExactAdmitTaskSpec)

/-- ITS FALSE NEIGHBOUR: 'it returns false'. Refute it at one input. -/
def fnExactAdmitTaskWrong : ChangeSpec := { name := "fnExactAdmitTask", vars := ["loop.example/dualmodes/impl.errTooGreat"], fn := fun _ => fun
  | [d1, d2, d3, g1] => { results := [.lit (.bool false)], args := [d1, d2, d3], vars := [g1] }
  | _ => none }
def FnExactAdmitTaskWrongFalsely : Prop := fnExactAdmitTaskRow.holds Tryz.pinned (OpenSpec.ofChange fnExactAdmitTaskWrong)

/- THE SECOND FORM. 'bulk': how many values and letters a reading holds, each counted each time it is reached (what is shared counts as often as it is met; a slice's spare places count too). A statement '..UptoSaid' is the law's where the arguments, and the package variables that the reading takes, are together of bulk at most 1048576: NARROWER than '..Said'. Prove '..Said' where nothing that the law and all that it calls make is longer than what came in: it says more and counts as full. Else prove '..UptoSaid'. A law counts once. -/
mutual
def uptoBulk {H : Type} : DataW H → Nat
  | .lit (.string bytes) => bytes.length + 1
  | .lit _ => 1
  | .nil => 1
  | .ptr d => uptoBulk d + 1
  | .slice elems spare => uptoBulkAll elems + uptoBulkAll spare + 1
  | .agg parts => uptoBulkAll parts + 1
  | .iface _ d => uptoBulk d + 1
  | .map entries => uptoBulkEntries entries + 1
  | .held _ => 1
def uptoBulkAll {H : Type} : List (DataW H) → Nat
  | [] => 0
  | d :: r => uptoBulk d + uptoBulkAll r
def uptoBulkEntries {H : Type} : List (Lit × DataW H) → Nat
  | [] => 0
  | x :: r => uptoBulkEntry x + uptoBulkEntries r
def uptoBulkEntry {H : Type} : Lit × DataW H → Nat
  | (.string bytes, d) => bytes.length + uptoBulk d + 1
  | (_, d) => uptoBulk d + 1
 end
def uptoSmall : (H : Type) → List (DataW H) → Bool := fun _ ds => decide (uptoBulkAll ds ≤ 1048576)
def OpenSpec.upto (s : _root_.Go.ChangeSpec) : _root_.Go.OpenSpec := { _root_.Go.OpenSpec.ofChange s with cond := some uptoSmall }

/-- 'laws.FnAdmitTask', WHERE WHAT IT READS IS OF BULK AT MOST 1048576: true; the input reads as it did. -/
def fnAdmitTaskUptoRow : OpenClaim := { program := "ytfjbkblodgdcnaagreatdoor", sum := "2cb818fc65a55b66d80ab0bf2752db1e5e18c055856d05313260df8b8e3c2f69", func := "loop.example/dualmodes/laws.FnAdmitTask", spec := "fnAdmitTask", inPlace := ["internal/reflectlite.TypeOf"], unfollowed := true, recurses := true, named := ["loop.example/dualmodes/impl.errTooGreat"], ifaces := true, apart := false, laid := [("loop.example/dualmodes/impl.errTooGreat", laid_loop_example_dualmodes_impl_errTooGreat)], narrowed := true }
def FnAdmitTaskUptoSaid : Prop := fnAdmitTaskUptoRow.holds Tryz.pinned (OpenSpec.upto fnAdmitTaskSpec)

/-- 'laws.FnHoldsBy', WHERE WHAT IT READS IS OF BULK AT MOST 1048576: true; the input reads as it did. -/
def fnHoldsByUptoRow : OpenClaim := { program := "ytfjbkblodgdcnaagreatdoor", sum := "2cb818fc65a55b66d80ab0bf2752db1e5e18c055856d05313260df8b8e3c2f69", func := "loop.example/dualmodes/laws.FnHoldsBy", spec := "fnHoldsBy", inPlace := ["internal/reflectlite.TypeOf"], unfollowed := true, recurses := true, named := ["loop.example/dualmodes/impl.errTooGreat"], ifaces := true, apart := false, laid := [("loop.example/dualmodes/impl.errTooGreat", laid_loop_example_dualmodes_impl_errTooGreat)], narrowed := true }
def FnHoldsByUptoSaid : Prop := fnHoldsByUptoRow.holds Tryz.pinned (OpenSpec.upto fnHoldsBySpec)

/-- 'laws.FnAdmitPolicy', WHERE WHAT IT READS IS OF BULK AT MOST 1048576: true; the input reads as it did. -/
def fnAdmitPolicyUptoRow : OpenClaim := { program := "ytfjbkblodgdcnaagreatdoor", sum := "2cb818fc65a55b66d80ab0bf2752db1e5e18c055856d05313260df8b8e3c2f69", func := "loop.example/dualmodes/laws.FnAdmitPolicy", spec := "fnAdmitPolicy", inPlace := ["internal/reflectlite.TypeOf"], unfollowed := true, recurses := true, named := ["loop.example/dualmodes/impl.errTooGreat"], ifaces := true, apart := false, laid := [("loop.example/dualmodes/impl.errTooGreat", laid_loop_example_dualmodes_impl_errTooGreat)], narrowed := true }
def FnAdmitPolicyUptoSaid : Prop := fnAdmitPolicyUptoRow.holds Tryz.pinned (OpenSpec.upto fnAdmitPolicySpec)

/-- 'laws.FnCanHold', WHERE WHAT IT READS IS OF BULK AT MOST 1048576: true; the input reads as it did. -/
def fnCanHoldUptoRow : OpenClaim := { program := "ytfjbkblodgdcnaagreatdoor", sum := "2cb818fc65a55b66d80ab0bf2752db1e5e18c055856d05313260df8b8e3c2f69", func := "loop.example/dualmodes/laws.FnCanHold", spec := "fnCanHold", inPlace := ["internal/reflectlite.TypeOf"], unfollowed := true, recurses := true, named := ["loop.example/dualmodes/impl.errTooGreat"], ifaces := true, apart := false, laid := [("loop.example/dualmodes/impl.errTooGreat", laid_loop_example_dualmodes_impl_errTooGreat)], narrowed := true }
def FnCanHoldUptoSaid : Prop := fnCanHoldUptoRow.holds Tryz.pinned (OpenSpec.upto fnCanHoldSpec)

/-- 'laws.FnExactAdmitTask', WHERE WHAT IT READS IS OF BULK AT MOST 1048576: true; the input reads as it did. -/
def fnExactAdmitTaskUptoRow : OpenClaim := { program := "ytfjbkblodgdcnaagreatdoor", sum := "2cb818fc65a55b66d80ab0bf2752db1e5e18c055856d05313260df8b8e3c2f69", func := "loop.example/dualmodes/laws.FnExactAdmitTask", spec := "fnExactAdmitTask", inPlace := ["internal/reflectlite.TypeOf"], unfollowed := true, recurses := true, named := ["loop.example/dualmodes/impl.errTooGreat"], ifaces := true, apart := false, laid := [("loop.example/dualmodes/impl.errTooGreat", laid_loop_example_dualmodes_impl_errTooGreat)], narrowed := true }
def FnExactAdmitTaskUptoSaid : Prop := fnExactAdmitTaskUptoRow.holds Tryz.pinned (OpenSpec.upto fnExactAdmitTaskSpec)

end Rows
end Go.Proofs.YtfjbkblodgdcnaaGreatDoor
