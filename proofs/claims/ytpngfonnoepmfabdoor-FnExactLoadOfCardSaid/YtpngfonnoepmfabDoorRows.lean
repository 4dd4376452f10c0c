/-
  NARROWER THAN 'FOR EVERY INPUT', by the rows' own cells (each row's printed sentence says how): FnPlainHigh: ifaces, laid · FnLoadParts: ifaces, laid · FnLoadHigh: ifaces, laid · FnVirtualOne: ifaces, laid · FnExactFactorOf: ifaces, laid · FnExactHoldsVirtual: ifaces, laid · FnExactHoldsPlain: ifaces, laid · FnExactVirtualDue: ifaces, laid · FnExactLoadOf: ifaces, laid.
  DERIVED. THE GIVEN ROWS OF THIS SEAT. 9 by the template 'for every input the law returns true; each argument reads behind the call as it read before'; 0 by the template 'total and deterministic' (their statements: YtpngfonnoepmfabDoorTotals.lean).
  GIVEN WITH THE SEED: the statements are not yours to turn. If you find one false, say at which input.
  Laid BY PROGRAM, IN A SANDBOX (cutbox-rows.mjs): the forced cells as the released guide's own fill.sh prints them over the translation 0b610ada5ddd471e… (all of the seat's roots in one cut). By AI agents, Wed Nov 11 2026. No macro, syntax, notation, axiom, sorry.
-/
import Derived.Test.YtpngfonnoepmfabDoorChecked
import GoSem.Claim
import GoSem.ClaimJoined
import GoSem.ClaimMapViews
import Derived.JoinedTies
import Derived.KernelRfl
namespace Go.Proofs.YtpngfonnoepmfabDoor
/- THE CELL 'sum', in the pinned program and in every row, IS THE sha256 OF THE DUMP (.gsa) THAT YtpngfonnoepmfabDoorProg.lean LOADS. Nothing in Lean hashes anything: it is a label: what it is worth is what the hold of that sum in a sandbox is worth. -/
noncomputable def Tryd.pinned : Pinned := { name := "ytpngfonnoepmfabdoor", sum := "0b610ada5ddd471eedd3952a9e2c387148a9267f1772b4c36629e468e140c5b2", checked := Tryd.checked }
namespace Rows
def none {H : Type} : Left H := { results := [], args := [] }

/- WHAT THE LISTED PACKAGE-LEVEL VARIABLES READ AS WHEN THE CALL BEGINS. Each datum BY PROGRAM (the guide's laid-datum.mjs) off the statement by which the dump's own 'gosem.cut.vars' lays the variable. In a bare row this is a premise. The card (YtpngfonnoepmfabDoorCards.lean) ties it to the program's text. -/
def laid_loop_example_dualmodes_impl_errTooGreat {H : Type} : DataW H := .iface "*errors.errorString" (.ptr (.agg [.lit (.string [116, 104, 101, 32, 115, 104, 97, 114, 101, 32, 104, 97, 115, 32, 116, 111, 111, 32, 103, 114, 101, 97, 116, 32, 97, 32, 110, 117, 109, 98, 101, 114])]))

/-- 'laws.FnPlainHigh': WHATEVER THE INPUT: true; the input reads as it did. -/
def fnPlainHighSpec : ChangeSpec := { name := "fnPlainHigh", vars := ["loop.example/dualmodes/impl.errTooGreat"], fn := fun _ => fun
  | [d, g1] => { results := [.lit (.bool true)], args := [d], vars := [g1] }
  | _ => none }
def fnPlainHighRow : OpenClaim := { program := "ytpngfonnoepmfabdoor", sum := "0b610ada5ddd471eedd3952a9e2c387148a9267f1772b4c36629e468e140c5b2", func := "loop.example/dualmodes/laws.FnPlainHigh", spec := "fnPlainHigh", inPlace := ["internal/reflectlite.TypeOf"], unfollowed := true, recurses := true, named := ["loop.example/dualmodes/impl.errTooGreat"], ifaces := true, apart := false, laid := [("loop.example/dualmodes/impl.errTooGreat", laid_loop_example_dualmodes_impl_errTooGreat)] }
def FnPlainHighSaid : Prop := fnPlainHighRow.holds Tryd.pinned (OpenSpec.ofChange fnPlainHighSpec)

/-- ITS FALSE NEIGHBOUR: 'it returns false'. Refute it at one input. -/
def fnPlainHighWrong : ChangeSpec := { name := "fnPlainHigh", vars := ["loop.example/dualmodes/impl.errTooGreat"], fn := fun _ => fun
  | [d, g1] => { results := [.lit (.bool false)], args := [d], vars := [g1] }
  | _ => none }
def FnPlainHighWrongFalsely : Prop := fnPlainHighRow.holds Tryd.pinned (OpenSpec.ofChange fnPlainHighWrong)

/-- 'laws.FnLoadParts': WHATEVER THE INPUT: true; the input reads as it did. -/
def fnLoadPartsSpec : ChangeSpec := { name := "fnLoadParts", vars := ["loop.example/dualmodes/impl.errTooGreat"], fn := fun _ => fun
  | [d, g1] => { results := [.lit (.bool true)], args := [d], vars := [g1] }
  | _ => none }
def fnLoadPartsRow : OpenClaim := { program := "ytpngfonnoepmfabdoor", sum := "0b610ada5ddd471eedd3952a9e2c387148a9267f1772b4c36629e468e140c5b2", func := "loop.example/dualmodes/laws.FnLoadParts", spec := "fnLoadParts", inPlace := ["internal/reflectlite.TypeOf"], unfollowed := true, recurses := true, named := ["loop.example/dualmodes/impl.errTooGreat"], ifaces := true, apart := false, laid := [("loop.example/dualmodes/impl.errTooGreat", laid_loop_example_dualmodes_impl_errTooGreat)] }
def FnLoadPartsSaid : Prop := fnLoadPartsRow.holds Tryd.pinned (OpenSpec.ofChange fnLoadPartsSpec)

/-- ITS FALSE NEIGHBOUR: 'it returns false'. Refute it at one input. -/
def fnLoadPartsWrong : ChangeSpec := { name := "fnLoadParts", vars := ["loop.example/dualmodes/impl.errTooGreat"], fn := fun _ => fun
  | [d, g1] => { results := [.lit (.bool false)], args := [d], vars := [g1] }
  | _ => none }
def FnLoadPartsWrongFalsely : Prop := fnLoadPartsRow.holds Tryd.pinned (OpenSpec.ofChange fnLoadPartsWrong)

/-- 'laws.FnLoadHigh': WHATEVER THE INPUT: true; the input reads as it did. -/
def fnLoadHighSpec : ChangeSpec := { name := "fnLoadHigh", vars := ["loop.example/dualmodes/impl.errTooGreat"], fn := fun _ => fun
  | [d, g1] => { results := [.lit (.bool true)], args := [d], vars := [g1] }
  | _ => none }
def fnLoadHighRow : OpenClaim := { program := "ytpngfonnoepmfabdoor", sum := "0b610ada5ddd471eedd3952a9e2c387148a9267f1772b4c36629e468e140c5b2", func := "loop.example/dualmodes/laws.FnLoadHigh", spec := "fnLoadHigh", inPlace := ["internal/reflectlite.TypeOf"], unfollowed := true, recurses := true, named := ["loop.example/dualmodes/impl.errTooGreat"], ifaces := true, apart := false, laid := [("loop.example/dualmodes/impl.errTooGreat", laid_loop_example_dualmodes_impl_errTooGreat)] }
def FnLoadHighSaid : Prop := fnLoadHighRow.holds Tryd.pinned (OpenSpec.ofChange fnLoadHighSpec)

/-- ITS FALSE NEIGHBOUR: 'it returns false'. Refute it at one input. -/
def fnLoadHighWrong : ChangeSpec := { name := "fnLoadHigh", vars := ["loop.example/dualmodes/impl.errTooGreat"], fn := fun _ => fun
  | [d, g1] => { results := [.lit (.bool false)], args := [d], vars := [g1] }
  | _ => none }
def FnLoadHighWrongFalsely : Prop := fnLoadHighRow.holds Tryd.pinned (OpenSpec.ofChange fnLoadHighWrong)

/-- 'laws.FnVirtualOne': WHATEVER THE INPUT: true; the input reads as it did. -/
def fnVirtualOneSpec : ChangeSpec := { name := "fnVirtualOne", vars := ["loop.example/dualmodes/impl.errTooGreat"], fn := fun _ => fun
  | [d, g1] => { results := [.lit (.bool true)], args := [d], vars := [g1] }
  | _ => none }
def fnVirtualOneRow : OpenClaim := { program := "ytpngfonnoepmfabdoor", sum := "0b610ada5ddd471eedd3952a9e2c387148a9267f1772b4c36629e468e140c5b2", func := "loop.example/dualmodes/laws.FnVirtualOne", spec := "fnVirtualOne", inPlace := ["internal/reflectlite.TypeOf"], unfollowed := true, recurses := true, named := ["loop.example/dualmodes/impl.errTooGreat"], ifaces := true, apart := false, laid := [("loop.example/dualmodes/impl.errTooGreat", laid_loop_example_dualmodes_impl_errTooGreat)] }
def FnVirtualOneSaid : Prop := fnVirtualOneRow.holds Tryd.pinned (OpenSpec.ofChange fnVirtualOneSpec)

/-- ITS FALSE NEIGHBOUR: 'it returns false'. Refute it at one input. -/
def fnVirtualOneWrong : ChangeSpec := { name := "fnVirtualOne", vars := ["loop.example/dualmodes/impl.errTooGreat"], fn := fun _ => fun
  | [d, g1] => { results := [.lit (.bool false)], args := [d], vars := [g1] }
  | _ => none }
def FnVirtualOneWrongFalsely : Prop := fnVirtualOneRow.holds Tryd.pinned (OpenSpec.ofChange fnVirtualOneWrong)

/-- 'laws.FnExactFactorOf': WHATEVER THE INPUT: true; the input reads as it did. -/
def fnExactFactorOfSpec : ChangeSpec := { name := "fnExactFactorOf", vars := ["loop.example/dualmodes/impl.errTooGreat"], fn := fun _ => fun
  | [d, g1] => { results := [.lit (.bool true)], args := [d], vars := [g1] }
  | _ => none }
def fnExactFactorOfRow : OpenClaim := { program := "ytpngfonnoepmfabdoor", sum := "0b610ada5ddd471eedd3952a9e2c387148a9267f1772b4c36629e468e140c5b2", func := "loop.example/dualmodes/laws.FnExactFactorOf", spec := "fnExactFactorOf", inPlace := ["internal/reflectlite.TypeOf"], unfollowed := true, recurses := true, named := ["loop.example/dualmodes/impl.errTooGreat"], ifaces := true, apart := false, laid := [("loop.example/dualmodes/impl.errTooGreat", laid_loop_example_dualmodes_impl_errTooGreat)] }
def FnExactFactorOfSaid : Prop := fnExactFactorOfRow.holds Tryd.pinned (OpenSpec.ofChange fnExactFactorOfSpec)

/-- ITS FALSE NEIGHBOUR: 'it returns false'. Refute it at one input. -/
def fnExactFactorOfWrong : ChangeSpec := { name := "fnExactFactorOf", vars := ["loop.example/dualmodes/impl.errTooGreat"], fn := fun _ => fun
  | [d, g1] => { results := [.lit (.bool false)], args := [d], vars := [g1] }
  | _ => none }
def FnExactFactorOfWrongFalsely : Prop := fnExactFactorOfRow.holds Tryd.pinned (OpenSpec.ofChange fnExactFactorOfWrong)

/-- 'laws.FnExactHoldsVirtual': WHATEVER THE INPUT: true; the input reads as it did. -/
def fnExactHoldsVirtualSpec : ChangeSpec := { name := "fnExactHoldsVirtual", vars := ["loop.example/dualmodes/impl.errTooGreat"], fn := fun _ => fun
  | [d, g1] => { results := [.lit (.bool true)], args := [d], vars := [g1] }
  | _ => none }
def fnExactHoldsVirtualRow : OpenClaim := { program := "ytpngfonnoepmfabdoor", sum := "0b610ada5ddd471eedd3952a9e2c387148a9267f1772b4c36629e468e140c5b2", func := "loop.example/dualmodes/laws.FnExactHoldsVirtual", spec := "fnExactHoldsVirtual", inPlace := ["internal/reflectlite.TypeOf"], unfollowed := true, recurses := true, named := ["loop.example/dualmodes/impl.errTooGreat"], ifaces := true, apart := false, laid := [("loop.example/dualmodes/impl.errTooGreat", laid_loop_example_dualmodes_impl_errTooGreat)] }
def FnExactHoldsVirtualSaid : Prop := fnExactHoldsVirtualRow.holds Tryd.pinned (OpenSpec.ofChange fnExactHoldsVirtualSpec)

/-- ITS FALSE NEIGHBOUR: 'it returns false'. Refute it at one input. -/
def fnExactHoldsVirtualWrong : ChangeSpec := { name := "fnExactHoldsVirtual", vars := ["loop.example/dualmodes/impl.errTooGreat"], fn := fun _ => fun
  | [d, g1] => { results := [.lit (.bool false)], args := [d], vars := [g1] }
  | _ => none }
def FnExactHoldsVirtualWrongFalsely : Prop := fnExactHoldsVirtualRow.holds Tryd.pinned (OpenSpec.ofChange fnExactHoldsVirtualWrong)

/-- 'laws.FnExactHoldsPlain': WHATEVER THE INPUT: true; the input reads as it did. -/
def fnExactHoldsPlainSpec : ChangeSpec := { name := "fnExactHoldsPlain", vars := ["loop.example/dualmodes/impl.errTooGreat"], fn := fun _ => fun
  | [d, g1] => { results := [.lit (.bool true)], args := [d], vars := [g1] }
  | _ => none }
def fnExactHoldsPlainRow : OpenClaim := { program := "ytpngfonnoepmfabdoor", sum := "0b610ada5ddd471eedd3952a9e2c387148a9267f1772b4c36629e468e140c5b2", func := "loop.example/dualmodes/laws.FnExactHoldsPlain", spec := "fnExactHoldsPlain", inPlace := ["internal/reflectlite.TypeOf"], unfollowed := true, recurses := true, named := ["loop.example/dualmodes/impl.errTooGreat"], ifaces := true, apart := false, laid := [("loop.example/dualmodes/impl.errTooGreat", laid_loop_example_dualmodes_impl_errTooGreat)] }
def FnExactHoldsPlainSaid : Prop := fnExactHoldsPlainRow.holds Tryd.pinned (OpenSpec.ofChange fnExactHoldsPlainSpec)

/-- ITS FALSE NEIGHBOUR: 'it returns false'. Refute it at one input. -/
def fnExactHoldsPlainWrong : ChangeSpec := { name := "fnExactHoldsPlain", vars := ["loop.example/dualmodes/impl.errTooGreat"], fn := fun _ => fun
  | [d, g1] => { results := [.lit (.bool false)], args := [d], vars := [g1] }
  | _ => none }
def FnExactHoldsPlainWrongFalsely : Prop := fnExactHoldsPlainRow.holds Tryd.pinned (OpenSpec.ofChange fnExactHoldsPlainWrong)

/-- 'laws.FnExactVirtualDue': WHATEVER THE INPUT: true; the input reads as it did. -/
def fnExactVirtualDueSpec : ChangeSpec := { name := "fnExactVirtualDue", vars := ["loop.example/dualmodes/impl.errTooGreat"], fn := fun _ => fun
  | [d1, d2, g1] => { results := [.lit (.bool true)], args := [d1, d2], vars := [g1] }
  | _ => none }
def fnExactVirtualDueRow : OpenClaim := { program := "ytpngfonnoepmfabdoor", sum := "0b610ada5ddd471eedd3952a9e2c387148a9267f1772b4c36629e468e140c5b2", func := "loop.example/dualmodes/laws.FnExactVirtualDue", spec := "fnExactVirtualDue", inPlace := ["internal/reflectlite.TypeOf"], unfollowed := true, recurses := true, named := ["loop.example/dualmodes/impl.errTooGreat"], ifaces := true, apart := false, laid := [("loop.example/dualmodes/impl.errTooGreat", laid_loop_example_dualmodes_impl_errTooGreat)] }
def FnExactVirtualDueSaid : Prop := fnExactVirtualDueRow.holds Tryd.pinned (OpenSpec.ofChange fnExactVirtualDueSpec)

/-- ITS FALSE NEIGHBOUR: 'it returns false'. Refute it at one input. -/
def fnExactVirtualDueWrong : ChangeSpec := { name := "fnExactVirtualDue", vars := ["loop.example/dualmodes/impl.errTooGreat"], fn := fun _ => fun
  | [d1, d2, g1] => { results := [.lit (.bool false)], args := [d1, d2], vars := [g1] }
  | _ => none }
def FnExactVirtualDueWrongFalsely : Prop := fnExactVirtualDueRow.holds Tryd.pinned (OpenSpec.ofChange fnExactVirtualDueWrong)

/-- 'laws.FnExactLoadOf': WHATEVER THE INPUT: true; the input reads as it did. -/
def fnExactLoadOfSpec : ChangeSpec := { name := "fnExactLoadOf", vars := ["loop.example/dualmodes/impl.errTooGreat"], fn := fun _ => fun
  | [d, g1] => { results := [.lit (.bool true)], args := [d], vars := [g1] }
  | _ => none }
def fnExactLoadOfRow : OpenClaim := { program := "ytpngfonnoepmfabdoor", sum := "0b610ada5ddd471eedd3952a9e2c387148a9267f1772b4c36629e468e140c5b2", func := "loop.example/dualmodes/laws.FnExactLoadOf", spec := "fnExactLoadOf", inPlace := ["internal/reflectlite.TypeOf"], unfollowed := true, recurses := true, named := ["loop.example/dualmodes/impl.errTooGreat"], ifaces := true, apart := false, laid := [("loop.example/dualmodes/impl.errTooGreat", laid_loop_example_dualmodes_impl_errTooGreat)] }
def FnExactLoadOfSaid : Prop := fnExactLoadOfRow.holds Tryd.pinned (OpenSpec.ofChange fnExactLoadOfSpec)

/-- ITS FALSE NEIGHBOUR: 'it returns false'. Refute it at one input. -/
def fnExactLoadOfWrong : ChangeSpec := { name := "fnExactLoadOf", vars := ["loop.example/dualmodes/impl.errTooGreat"], fn := fun _ => fun
  | [d, g1] => { results := [.lit (.bool false)], args := [d], vars := [g1] }
  | _ => none }
def FnExactLoadOfWrongFalsely : Prop := fnExactLoadOfRow.holds Tryd.pinned (OpenSpec.ofChange fnExactLoadOfWrong)

/- THE SECOND FORM. 'bulk': how many values and letters a reading holds, each counted each time it is reached (what is shared counts as often as it is met; a slice's spare places count too). A statement '..UptoSaid' is the law's where the arguments, and the package variables that the reading takes, are together of bulk at most 1048576: NARROWER than '..Said'. Prove '..Said' where nothing that the law and all that it calls make is longer than what came in: it says more and counts as full. Else prove '..UptoSaid'. A law counts once. -/
mutual
def uptoBulk {H : Type} : DataW H → Nat
  | .lit (.string bytes) => bytes.length + 1
  | .lit _ => 1
  | .nil => 1
  | .ptr d => uptoBulk d + 1
  | .slice elems spare => uptoBulkAll elems + uptoBulkAll spare + 1
  | .agg parts => uptoBulkAll parts + 1
  | .iface _ d => uptoBulk d + 1
  | .map entries => uptoBulkEntries entries + 1
  | .held _ => 1
def uptoBulkAll {H : Type} : List (DataW H) → Nat
  | [] => 0
  | d :: r => uptoBulk d + uptoBulkAll r
def uptoBulkEntries {H : Type} : List (Lit × DataW H) → Nat
  | [] => 0
  | x :: r => uptoBulkEntry x + uptoBulkEntries r
def uptoBulkEntry {H : Type} : Lit × DataW H → Nat
  | (.string bytes, d) => bytes.length + uptoBulk d + 1
  | (_, d) => uptoBulk d + 1
 end
def uptoSmall : (H : Type) → List (DataW H) → Bool := fun _ ds => decide (uptoBulkAll ds ≤ 1048576)
def OpenSpec.upto (s : _root_.Go.ChangeSpec) : _root_.Go.OpenSpec := { _root_.Go.OpenSpec.ofChange s with cond := some uptoSmall }

/-- 'laws.FnPlainHigh', WHERE WHAT IT READS IS OF BULK AT MOST 1048576: true; the input reads as it did. -/
def fnPlainHighUptoRow : OpenClaim := { program := "ytpngfonnoepmfabdoor", sum := "0b610ada5ddd471eedd3952a9e2c387148a9267f1772b4c36629e468e140c5b2", func := "loop.example/dualmodes/laws.FnPlainHigh", spec := "fnPlainHigh", inPlace := ["internal/reflectlite.TypeOf"], unfollowed := true, recurses := true, named := ["loop.example/dualmodes/impl.errTooGreat"], ifaces := true, apart := false, laid := [("loop.example/dualmodes/impl.errTooGreat", laid_loop_example_dualmodes_impl_errTooGreat)], narrowed := true }
def FnPlainHighUptoSaid : Prop := fnPlainHighUptoRow.holds Tryd.pinned (OpenSpec.upto fnPlainHighSpec)

/-- 'laws.FnLoadParts', WHERE WHAT IT READS IS OF BULK AT MOST 1048576: true; the input reads as it did. -/
def fnLoadPartsUptoRow : OpenClaim := { program := "ytpngfonnoepmfabdoor", sum := "0b610ada5ddd471eedd3952a9e2c387148a9267f1772b4c36629e468e140c5b2", func := "loop.example/dualmodes/laws.FnLoadParts", spec := "fnLoadParts", inPlace := ["internal/reflectlite.TypeOf"], unfollowed := true, recurses := true, named := ["loop.example/dualmodes/impl.errTooGreat"], ifaces := true, apart := false, laid := [("loop.example/dualmodes/impl.errTooGreat", laid_loop_example_dualmodes_impl_errTooGreat)], narrowed := true }
def FnLoadPartsUptoSaid : Prop := fnLoadPartsUptoRow.holds Tryd.pinned (OpenSpec.upto fnLoadPartsSpec)

/-- 'laws.FnLoadHigh', WHERE WHAT IT READS IS OF BULK AT MOST 1048576: true; the input reads as it did. -/
def fnLoadHighUptoRow : OpenClaim := { program := "ytpngfonnoepmfabdoor", sum := "0b610ada5ddd471eedd3952a9e2c387148a9267f1772b4c36629e468e140c5b2", func := "loop.example/dualmodes/laws.FnLoadHigh", spec := "fnLoadHigh", inPlace := ["internal/reflectlite.TypeOf"], unfollowed := true, recurses := true, named := ["loop.example/dualmodes/impl.errTooGreat"], ifaces := true, apart := false, laid := [("loop.example/dualmodes/impl.errTooGreat", laid_loop_example_dualmodes_impl_errTooGreat)], narrowed := true }
def FnLoadHighUptoSaid : Prop := fnLoadHighUptoRow.holds Tryd.pinned (OpenSpec.upto fnLoadHighSpec)

/-- 'laws.FnVirtualOne', WHERE WHAT IT READS IS OF BULK AT MOST 1048576: true; the input reads as it did. -/
def fnVirtualOneUptoRow : OpenClaim := { program := "ytpngfonnoepmfabdoor", sum := "0b610ada5ddd471eedd3952a9e2c387148a9267f1772b4c36629e468e140c5b2", func := "loop.example/dualmodes/laws.FnVirtualOne", spec := "fnVirtualOne", inPlace := ["internal/reflectlite.TypeOf"], unfollowed := true, recurses := true, named := ["loop.example/dualmodes/impl.errTooGreat"], ifaces := true, apart := false, laid := [("loop.example/dualmodes/impl.errTooGreat", laid_loop_example_dualmodes_impl_errTooGreat)], narrowed := true }
def FnVirtualOneUptoSaid : Prop := fnVirtualOneUptoRow.holds Tryd.pinned (OpenSpec.upto fnVirtualOneSpec)

/-- 'laws.FnExactFactorOf', WHERE WHAT IT READS IS OF BULK AT MOST 1048576: true; the input reads as it did. -/
def fnExactFactorOfUptoRow : OpenClaim := { program := "ytpngfonnoepmfabdoor", sum := "0b610ada5ddd471eedd3952a9e2c387148a9267f1772b4c36629e468e140c5b2", func := "loop.example/dualmodes/laws.FnExactFactorOf", spec := "fnExactFactorOf", inPlace := ["internal/reflectlite.TypeOf"], unfollowed := true, recurses := true, named := ["loop.example/dualmodes/impl.errTooGreat"], ifaces := true, apart := false, laid := [("loop.example/dualmodes/impl.errTooGreat", laid_loop_example_dualmodes_impl_errTooGreat)], narrowed := true }
def FnExactFactorOfUptoSaid : Prop := fnExactFactorOfUptoRow.holds Tryd.pinned (OpenSpec.upto fnExactFactorOfSpec)

/-- 'laws.FnExactHoldsVirtual', WHERE WHAT IT READS IS OF BULK AT MOST 1048576: true; the input reads as it did. -/
def fnExactHoldsVirtualUptoRow : OpenClaim := { program := "ytpngfonnoepmfabdoor", sum := "0b610ada5ddd471eedd3952a9e2c387148a9267f1772b4c36629e468e140c5b2", func := "loop.example/dualmodes/laws.FnExactHoldsVirtual", spec := "fnExactHoldsVirtual", inPlace := ["internal/reflectlite.TypeOf"], unfollowed := true, recurses := true, named := ["loop.example/dualmodes/impl.errTooGreat"], ifaces := true, apart := false, laid := [("loop.example/dualmodes/impl.errTooGreat", laid_loop_example_dualmodes_impl_errTooGreat)], narrowed := true }
def FnExactHoldsVirtualUptoSaid : Prop := fnExactHoldsVirtualUptoRow.holds Tryd.pinned (OpenSpec.upto fnExactHoldsVirtualSpec)

/-- 'laws.FnExactHoldsPlain', WHERE WHAT IT READS IS OF BULK AT MOST 1048576: true; the input reads as it did. -/
def fnExactHoldsPlainUptoRow : OpenClaim := { program := "ytpngfonnoepmfabdoor", sum := "0b610ada5ddd471eedd3952a9e2c387148a9267f1772b4c36629e468e140c5b2", func := "loop.example/dualmodes/laws.FnExactHoldsPlain", spec := "fnExactHoldsPlain", inPlace := ["internal/reflectlite.TypeOf"], unfollowed := true, recurses := true, named := ["loop.example/dualmodes/impl.errTooGreat"], ifaces := true, apart := false, laid := [("loop.example/dualmodes/impl.errTooGreat", laid_loop_example_dualmodes_impl_errTooGreat)], narrowed := true }
def FnExactHoldsPlainUptoSaid : Prop := fnExactHoldsPlainUptoRow.holds Tryd.pinned (OpenSpec.upto fnExactHoldsPlainSpec)

/-- 'laws.FnExactVirtualDue', WHERE WHAT IT READS IS OF BULK AT MOST 1048576: true; the input reads as it did. -/
def fnExactVirtualDueUptoRow : OpenClaim := { program := "ytpngfonnoepmfabdoor", sum := "0b610ada5ddd471eedd3952a9e2c387148a9267f1772b4c36629e468e140c5b2", func := "loop.example/dualmodes/laws.FnExactVirtualDue", spec := "fnExactVirtualDue", inPlace := ["internal/reflectlite.TypeOf"], unfollowed := true, recurses := true, named := ["loop.example/dualmodes/impl.errTooGreat"], ifaces := true, apart := false, laid := [("loop.example/dualmodes/impl.errTooGreat", laid_loop_example_dualmodes_impl_errTooGreat)], narrowed := true }
def FnExactVirtualDueUptoSaid : Prop := fnExactVirtualDueUptoRow.holds Tryd.pinned (OpenSpec.upto fnExactVirtualDueSpec)

/-- 'laws.FnExactLoadOf', WHERE WHAT IT READS IS OF BULK AT MOST 1048576: true; the input reads as it did. -/
def fnExactLoadOfUptoRow : OpenClaim := { program := "ytpngfonnoepmfabdoor", sum := "0b610ada5ddd471eedd3952a9e2c387148a9267f1772b4c36629e468e140c5b2", func := "loop.example/dualmodes/laws.FnExactLoadOf", spec := "fnExactLoadOf", inPlace := ["internal/reflectlite.TypeOf"], unfollowed := true, recurses := true, named := ["loop.example/dualmodes/impl.errTooGreat"], ifaces := true, apart := false, laid := [("loop.example/dualmodes/impl.errTooGreat", laid_loop_example_dualmodes_impl_errTooGreat)], narrowed := true }
def FnExactLoadOfUptoSaid : Prop := fnExactLoadOfUptoRow.holds Tryd.pinned (OpenSpec.upto fnExactLoadOfSpec)

end Rows
end Go.Proofs.YtpngfonnoepmfabDoor
