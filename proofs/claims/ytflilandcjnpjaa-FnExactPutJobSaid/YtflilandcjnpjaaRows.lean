/-
  No cell of these rows narrows 'for every input' (looked for: loops, veiled, ifaces, maps, wideKeys, modest, calm, conditions, laid).
  DERIVED. THE GIVEN ROWS OF THIS SEAT. 11 by the template 'for every input the law returns true; each argument reads behind the call as it read before'; 0 by the template 'total and deterministic' (their statements: YtflilandcjnpjaaTotals.lean).
  GIVEN WITH THE SEED: the statements are not yours to turn. If you find one false, say at which input.
  Laid BY PROGRAM, IN A SANDBOX (cutbox-rows.mjs): the forced cells as the released guide's own fill.sh prints them over the translation 5508be9c1fdc20c9… (all of the seat's roots in one cut). By AI agents, Wed Nov 11 2026. No macro, syntax, notation, axiom, sorry.
-/
import Derived.Test.YtflilandcjnpjaaChecked
import GoSem.Claim
import GoSem.ClaimJoined
import GoSem.ClaimMapViews
import Derived.JoinedTies
import Derived.KernelRfl
namespace Go.Proofs.Ytflilandcjnpjaa
/- THE CELL 'sum', in the pinned program and in every row, IS THE sha256 OF THE DUMP (.gsa) THAT YtflilandcjnpjaaProg.lean LOADS. Nothing in Lean hashes anything: it is a label: what it is worth is what the hold of that sum in a sandbox is worth. -/
noncomputable def Try.pinned : Pinned := { name := "ytflilandcjnpjaa", sum := "5508be9c1fdc20c96c7b5df4f77ca933d78b2320de9806226ceb45b513ca2534", checked := Try.checked }
namespace Rows
def none {H : Type} : Left H := { results := [], args := [] }

/-- 'laws.FnWorstJobs': WHATEVER THE INPUT: true; the input reads as it did. -/
def fnWorstJobsSpec : ChangeSpec := { name := "fnWorstJobs", fn := fun _ => fun
  | [d] => { results := [.lit (.bool true)], args := [d] }
  | _ => none }
def fnWorstJobsRow : OpenClaim := { program := "ytflilandcjnpjaa", sum := "5508be9c1fdc20c96c7b5df4f77ca933d78b2320de9806226ceb45b513ca2534", func := "loop.example/dualmodes/laws.FnWorstJobs", spec := "fnWorstJobs", unfollowed := true, recurses := true, apart := false }
def FnWorstJobsSaid : Prop := fnWorstJobsRow.holds Try.pinned (OpenSpec.ofChange fnWorstJobsSpec)

/-- ITS FALSE NEIGHBOUR: 'it returns false'. Refute it at one input. -/
def fnWorstJobsWrong : ChangeSpec := { name := "fnWorstJobs", fn := fun _ => fun
  | [d] => { results := [.lit (.bool false)], args := [d] }
  | _ => none }
def FnWorstJobsWrongFalsely : Prop := fnWorstJobsRow.holds Try.pinned (OpenSpec.ofChange fnWorstJobsWrong)

/-- 'laws.FnPutJob': WHATEVER THE INPUT: true; the input reads as it did. -/
def fnPutJobSpec : ChangeSpec := { name := "fnPutJob", fn := fun _ => fun
  | [d] => { results := [.lit (.bool true)], args := [d] }
  | _ => none }
def fnPutJobRow : OpenClaim := { program := "ytflilandcjnpjaa", sum := "5508be9c1fdc20c96c7b5df4f77ca933d78b2320de9806226ceb45b513ca2534", func := "loop.example/dualmodes/laws.FnPutJob", spec := "fnPutJob", inPlace := ["slices.overlaps[loop.example/dualmodes/impl.Job]"], unfollowed := true, recurses := true, apart := false }
def FnPutJobSaid : Prop := fnPutJobRow.holds Try.pinned (OpenSpec.ofChange fnPutJobSpec)

/-- ITS FALSE NEIGHBOUR: 'it returns false'. Refute it at one input. -/
def fnPutJobWrong : ChangeSpec := { name := "fnPutJob", fn := fun _ => fun
  | [d] => { results := [.lit (.bool false)], args := [d] }
  | _ => none }
def FnPutJobWrongFalsely : Prop := fnPutJobRow.holds Try.pinned (OpenSpec.ofChange fnPutJobWrong)

/-- 'laws.FnJobsValid': WHATEVER THE INPUT: true; the input reads as it did. -/
def fnJobsValidSpec : ChangeSpec := { name := "fnJobsValid", fn := fun _ => fun
  | [d] => { results := [.lit (.bool true)], args := [d] }
  | _ => none }
def fnJobsValidRow : OpenClaim := { program := "ytflilandcjnpjaa", sum := "5508be9c1fdc20c96c7b5df4f77ca933d78b2320de9806226ceb45b513ca2534", func := "loop.example/dualmodes/laws.FnJobsValid", spec := "fnJobsValid", inPlace := ["slices.overlaps[loop.example/dualmodes/impl.Job]"], unfollowed := true, recurses := true, apart := false }
def FnJobsValidSaid : Prop := fnJobsValidRow.holds Try.pinned (OpenSpec.ofChange fnJobsValidSpec)

/-- ITS FALSE NEIGHBOUR: 'it returns false'. Refute it at one input. -/
def fnJobsValidWrong : ChangeSpec := { name := "fnJobsValid", fn := fun _ => fun
  | [d] => { results := [.lit (.bool false)], args := [d] }
  | _ => none }
def FnJobsValidWrongFalsely : Prop := fnJobsValidRow.holds Try.pinned (OpenSpec.ofChange fnJobsValidWrong)

/-- 'laws.FnWorstPrefix': WHATEVER THE INPUT: true; the input reads as it did. -/
def fnWorstPrefixSpec : ChangeSpec := { name := "fnWorstPrefix", fn := fun _ => fun
  | [d] => { results := [.lit (.bool true)], args := [d] }
  | _ => none }
def fnWorstPrefixRow : OpenClaim := { program := "ytflilandcjnpjaa", sum := "5508be9c1fdc20c96c7b5df4f77ca933d78b2320de9806226ceb45b513ca2534", func := "loop.example/dualmodes/laws.FnWorstPrefix", spec := "fnWorstPrefix", unfollowed := true, recurses := true, apart := false }
def FnWorstPrefixSaid : Prop := fnWorstPrefixRow.holds Try.pinned (OpenSpec.ofChange fnWorstPrefixSpec)

/-- ITS FALSE NEIGHBOUR: 'it returns false'. Refute it at one input. -/
def fnWorstPrefixWrong : ChangeSpec := { name := "fnWorstPrefix", fn := fun _ => fun
  | [d] => { results := [.lit (.bool false)], args := [d] }
  | _ => none }
def FnWorstPrefixWrongFalsely : Prop := fnWorstPrefixRow.holds Try.pinned (OpenSpec.ofChange fnWorstPrefixWrong)

/-- 'laws.FnJobsOrder': WHATEVER THE INPUT: true; the input reads as it did. -/
def fnJobsOrderSpec : ChangeSpec := { name := "fnJobsOrder", fn := fun _ => fun
  | [d] => { results := [.lit (.bool true)], args := [d] }
  | _ => none }
def fnJobsOrderRow : OpenClaim := { program := "ytflilandcjnpjaa", sum := "5508be9c1fdc20c96c7b5df4f77ca933d78b2320de9806226ceb45b513ca2534", func := "loop.example/dualmodes/laws.FnJobsOrder", spec := "fnJobsOrder", unfollowed := true, recurses := true, apart := false }
def FnJobsOrderSaid : Prop := fnJobsOrderRow.holds Try.pinned (OpenSpec.ofChange fnJobsOrderSpec)

/-- ITS FALSE NEIGHBOUR: 'it returns false'. Refute it at one input. -/
def fnJobsOrderWrong : ChangeSpec := { name := "fnJobsOrder", fn := fun _ => fun
  | [d] => { results := [.lit (.bool false)], args := [d] }
  | _ => none }
def FnJobsOrderWrongFalsely : Prop := fnJobsOrderRow.holds Try.pinned (OpenSpec.ofChange fnJobsOrderWrong)

/-- 'laws.FnJobsTurned': WHATEVER THE INPUT: true; the input reads as it did. -/
def fnJobsTurnedSpec : ChangeSpec := { name := "fnJobsTurned", fn := fun _ => fun
  | [d] => { results := [.lit (.bool true)], args := [d] }
  | _ => none }
def fnJobsTurnedRow : OpenClaim := { program := "ytflilandcjnpjaa", sum := "5508be9c1fdc20c96c7b5df4f77ca933d78b2320de9806226ceb45b513ca2534", func := "loop.example/dualmodes/laws.FnJobsTurned", spec := "fnJobsTurned", unfollowed := true, recurses := true, apart := false }
def FnJobsTurnedSaid : Prop := fnJobsTurnedRow.holds Try.pinned (OpenSpec.ofChange fnJobsTurnedSpec)

/-- ITS FALSE NEIGHBOUR: 'it returns false'. Refute it at one input. -/
def fnJobsTurnedWrong : ChangeSpec := { name := "fnJobsTurned", fn := fun _ => fun
  | [d] => { results := [.lit (.bool false)], args := [d] }
  | _ => none }
def FnJobsTurnedWrongFalsely : Prop := fnJobsTurnedRow.holds Try.pinned (OpenSpec.ofChange fnJobsTurnedWrong)

/-- 'laws.FnPutTwice': WHATEVER THE INPUT: true; the input reads as it did. -/
def fnPutTwiceSpec : ChangeSpec := { name := "fnPutTwice", fn := fun _ => fun
  | [d] => { results := [.lit (.bool true)], args := [d] }
  | _ => none }
def fnPutTwiceRow : OpenClaim := { program := "ytflilandcjnpjaa", sum := "5508be9c1fdc20c96c7b5df4f77ca933d78b2320de9806226ceb45b513ca2534", func := "loop.example/dualmodes/laws.FnPutTwice", spec := "fnPutTwice", inPlace := ["slices.overlaps[loop.example/dualmodes/impl.Job]"], unfollowed := true, recurses := true, apart := false }
def FnPutTwiceSaid : Prop := fnPutTwiceRow.holds Try.pinned (OpenSpec.ofChange fnPutTwiceSpec)

/-- ITS FALSE NEIGHBOUR: 'it returns false'. Refute it at one input. -/
def fnPutTwiceWrong : ChangeSpec := { name := "fnPutTwice", fn := fun _ => fun
  | [d] => { results := [.lit (.bool false)], args := [d] }
  | _ => none }
def FnPutTwiceWrongFalsely : Prop := fnPutTwiceRow.holds Try.pinned (OpenSpec.ofChange fnPutTwiceWrong)

/-- 'laws.FnPutDue': WHATEVER THE INPUT: true; the input reads as it did. -/
def fnPutDueSpec : ChangeSpec := { name := "fnPutDue", fn := fun _ => fun
  | [d] => { results := [.lit (.bool true)], args := [d] }
  | _ => none }
def fnPutDueRow : OpenClaim := { program := "ytflilandcjnpjaa", sum := "5508be9c1fdc20c96c7b5df4f77ca933d78b2320de9806226ceb45b513ca2534", func := "loop.example/dualmodes/laws.FnPutDue", spec := "fnPutDue", inPlace := ["slices.overlaps[loop.example/dualmodes/impl.Job]"], unfollowed := true, recurses := true, apart := false }
def FnPutDueSaid : Prop := fnPutDueRow.holds Try.pinned (OpenSpec.ofChange fnPutDueSpec)

/-- ITS FALSE NEIGHBOUR: 'it returns false'. Refute it at one input. -/
def fnPutDueWrong : ChangeSpec := { name := "fnPutDue", fn := fun _ => fun
  | [d] => { results := [.lit (.bool false)], args := [d] }
  | _ => none }
def FnPutDueWrongFalsely : Prop := fnPutDueRow.holds Try.pinned (OpenSpec.ofChange fnPutDueWrong)

/-- 'laws.FnExactJobsValid': WHATEVER THE INPUT: true; the input reads as it did. -/
def fnExactJobsValidSpec : ChangeSpec := { name := "fnExactJobsValid", fn := fun _ => fun
  | [d1, d2] => { results := [.lit (.bool true)], args := [d1, d2] }
  | _ => none }
def fnExactJobsValidRow : OpenClaim := { program := "ytflilandcjnpjaa", sum := "5508be9c1fdc20c96c7b5df4f77ca933d78b2320de9806226ceb45b513ca2534", func := "loop.example/dualmodes/laws.FnExactJobsValid", spec := "fnExactJobsValid", unfollowed := true, recurses := true, apart := false }
def FnExactJobsValidSaid : Prop := fnExactJobsValidRow.holds Try.pinned (OpenSpec.ofChange fnExactJobsValidSpec)

/-- ITS FALSE NEIGHBOUR: 'it returns false'. Refute it at one input. -/
def fnExactJobsValidWrong : ChangeSpec := { name := "fnExactJobsValid", fn := fun _ => fun
  | [d1, d2] => { results := [.lit (.bool false)], args := [d1, d2] }
  | _ => none }
def FnExactJobsValidWrongFalsely : Prop := fnExactJobsValidRow.holds Try.pinned (OpenSpec.ofChange fnExactJobsValidWrong)

/-- 'laws.FnExactWorstJobs': WHATEVER THE INPUT: true; the input reads as it did. -/
def fnExactWorstJobsSpec : ChangeSpec := { name := "fnExactWorstJobs", fn := fun _ => fun
  | [d1, d2, d3] => { results := [.lit (.bool true)], args := [d1, d2, d3] }
  | _ => none }
def fnExactWorstJobsRow : OpenClaim := { program := "ytflilandcjnpjaa", sum := "5508be9c1fdc20c96c7b5df4f77ca933d78b2320de9806226ceb45b513ca2534", func := "loop.example/dualmodes/laws.FnExactWorstJobs", spec := "fnExactWorstJobs", unfollowed := true, recurses := true, apart := false }
def FnExactWorstJobsSaid : Prop := fnExactWorstJobsRow.holds Try.pinned (OpenSpec.ofChange fnExactWorstJobsSpec)

/-- ITS FALSE NEIGHBOUR: 'it returns false'. Refute it at one input. -/
def fnExactWorstJobsWrong : ChangeSpec := { name := "fnExactWorstJobs", fn := fun _ => fun
  | [d1, d2, d3] => { results := [.lit (.bool false)], args := [d1, d2, d3] }
  | _ => none }
def FnExactWorstJobsWrongFalsely : Prop := fnExactWorstJobsRow.holds Try.pinned (OpenSpec.ofChange fnExactWorstJobsWrong)

/-- 'laws.FnExactPutJob': WHATEVER THE INPUT: true; the input reads as it did. -/
def fnExactPutJobSpec : ChangeSpec := { name := "fnExactPutJob", fn := fun _ => fun
  | [d1, d2, d3] => { results := [.lit (.bool true)], args := [d1, d2, d3] }
  | _ => none }
def fnExactPutJobRow : OpenClaim := { program := "ytflilandcjnpjaa", sum := "5508be9c1fdc20c96c7b5df4f77ca933d78b2320de9806226ceb45b513ca2534", func := "loop.example/dualmodes/laws.FnExactPutJob", spec := "fnExactPutJob", inPlace := ["slices.overlaps[loop.example/dualmodes/impl.Job]"], unfollowed := true, recurses := true, apart := false }
def FnExactPutJobSaid : Prop := fnExactPutJobRow.holds Try.pinned (OpenSpec.ofChange fnExactPutJobSpec)

/-- ITS FALSE NEIGHBOUR: 'it returns false'. Refute it at one input. -/
def fnExactPutJobWrong : ChangeSpec := { name := "fnExactPutJob", fn := fun _ => fun
  | [d1, d2, d3] => { results := [.lit (.bool false)], args := [d1, d2, d3] }
  | _ => none }
def FnExactPutJobWrongFalsely : Prop := fnExactPutJobRow.holds Try.pinned (OpenSpec.ofChange fnExactPutJobWrong)

/- THE SECOND FORM. 'bulk': how many values and letters a reading holds, each counted each time it is reached (what is shared counts as often as it is met; a slice's spare places count too). A statement '..UptoSaid' is the law's where the arguments, and the package variables that the reading takes, are together of bulk at most 1048576: NARROWER than '..Said'. Prove '..Said' where nothing that the law and all that it calls make is longer than what came in: it says more and counts as full. Else prove '..UptoSaid'. A law counts once. -/
mutual
def uptoBulk {H : Type} : DataW H → Nat
  | .lit (.string bytes) => bytes.length + 1
  | .lit _ => 1
  | .nil => 1
  | .ptr d => uptoBulk d + 1
  | .slice elems spare => uptoBulkAll elems + uptoBulkAll spare + 1
  | .agg parts => uptoBulkAll parts + 1
  | .iface _ d => uptoBulk d + 1
  | .map entries => uptoBulkEntries entries + 1
  | .held _ => 1
def uptoBulkAll {H : Type} : List (DataW H) → Nat
  | [] => 0
  | d :: r => uptoBulk d + uptoBulkAll r
def uptoBulkEntries {H : Type} : List (Lit × DataW H) → Nat
  | [] => 0
  | x :: r => uptoBulkEntry x + uptoBulkEntries r
def uptoBulkEntry {H : Type} : Lit × DataW H → Nat
  | (.string bytes, d) => bytes.length + uptoBulk d + 1
  | (_, d) => uptoBulk d + 1
 end
def uptoSmall : (H : Type) → List (DataW H) → Bool := fun _ ds => decide (uptoBulkAll ds ≤ 1048576)
def OpenSpec.upto (s : _root_.Go.ChangeSpec) : _root_.Go.OpenSpec := { _root_.Go.OpenSpec.ofChange s with cond := some uptoSmall }

/-- 'laws.FnWorstJobs', WHERE WHAT IT READS IS OF BULK AT MOST 1048576: true; the input reads as it did. -/
def fnWorstJobsUptoRow : OpenClaim := { program := "ytflilandcjnpjaa", sum := "5508be9c1fdc20c96c7b5df4f77ca933d78b2320de9806226ceb45b513ca2534", func := "loop.example/dualmodes/laws.FnWorstJobs", spec := "fnWorstJobs", unfollowed := true, recurses := true, apart := false, narrowed := true }
def FnWorstJobsUptoSaid : Prop := fnWorstJobsUptoRow.holds Try.pinned (OpenSpec.upto fnWorstJobsSpec)

/-- 'laws.FnPutJob', WHERE WHAT IT READS IS OF BULK AT MOST 1048576: true; the input reads as it did. -/
def fnPutJobUptoRow : OpenClaim := { program := "ytflilandcjnpjaa", sum := "5508be9c1fdc20c96c7b5df4f77ca933d78b2320de9806226ceb45b513ca2534", func := "loop.example/dualmodes/laws.FnPutJob", spec := "fnPutJob", inPlace := ["slices.overlaps[loop.example/dualmodes/impl.Job]"], unfollowed := true, recurses := true, apart := false, narrowed := true }
def FnPutJobUptoSaid : Prop := fnPutJobUptoRow.holds Try.pinned (OpenSpec.upto fnPutJobSpec)

/-- 'laws.FnJobsValid', WHERE WHAT IT READS IS OF BULK AT MOST 1048576: true; the input reads as it did. -/
def fnJobsValidUptoRow : OpenClaim := { program := "ytflilandcjnpjaa", sum := "5508be9c1fdc20c96c7b5df4f77ca933d78b2320de9806226ceb45b513ca2534", func := "loop.example/dualmodes/laws.FnJobsValid", spec := "fnJobsValid", inPlace := ["slices.overlaps[loop.example/dualmodes/impl.Job]"], unfollowed := true, recurses := true, apart := false, narrowed := true }
def FnJobsValidUptoSaid : Prop := fnJobsValidUptoRow.holds Try.pinned (OpenSpec.upto fnJobsValidSpec)

/-- 'laws.FnWorstPrefix', WHERE WHAT IT READS IS OF BULK AT MOST 1048576: true; the input reads as it did. -/
def fnWorstPrefixUptoRow : OpenClaim := { program := "ytflilandcjnpjaa", sum := "5508be9c1fdc20c96c7b5df4f77ca933d78b2320de9806226ceb45b513ca2534", func := "loop.example/dualmodes/laws.FnWorstPrefix", spec := "fnWorstPrefix", unfollowed := true, recurses := true, apart := false, narrowed := true }
def FnWorstPrefixUptoSaid : Prop := fnWorstPrefixUptoRow.holds Try.pinned (OpenSpec.upto fnWorstPrefixSpec)

/-- 'laws.FnJobsOrder', WHERE WHAT IT READS IS OF BULK AT MOST 1048576: true; the input reads as it did. -/
def fnJobsOrderUptoRow : OpenClaim := { program := "ytflilandcjnpjaa", sum := "5508be9c1fdc20c96c7b5df4f77ca933d78b2320de9806226ceb45b513ca2534", func := "loop.example/dualmodes/laws.FnJobsOrder", spec := "fnJobsOrder", unfollowed := true, recurses := true, apart := false, narrowed := true }
def FnJobsOrderUptoSaid : Prop := fnJobsOrderUptoRow.holds Try.pinned (OpenSpec.upto fnJobsOrderSpec)

/-- 'laws.FnJobsTurned', WHERE WHAT IT READS IS OF BULK AT MOST 1048576: true; the input reads as it did. -/
def fnJobsTurnedUptoRow : OpenClaim := { program := "ytflilandcjnpjaa", sum := "5508be9c1fdc20c96c7b5df4f77ca933d78b2320de9806226ceb45b513ca2534", func := "loop.example/dualmodes/laws.FnJobsTurned", spec := "fnJobsTurned", unfollowed := true, recurses := true, apart := false, narrowed := true }
def FnJobsTurnedUptoSaid : Prop := fnJobsTurnedUptoRow.holds Try.pinned (OpenSpec.upto fnJobsTurnedSpec)

/-- 'laws.FnPutTwice', WHERE WHAT IT READS IS OF BULK AT MOST 1048576: true; the input reads as it did. -/
def fnPutTwiceUptoRow : OpenClaim := { program := "ytflilandcjnpjaa", sum := "5508be9c1fdc20c96c7b5df4f77ca933d78b2320de9806226ceb45b513ca2534", func := "loop.example/dualmodes/laws.FnPutTwice", spec := "fnPutTwice", inPlace := ["slices.overlaps[loop.example/dualmodes/impl.Job]"], unfollowed := true, recurses := true, apart := false, narrowed := true }
def FnPutTwiceUptoSaid : Prop := fnPutTwiceUptoRow.holds Try.pinned (OpenSpec.upto fnPutTwiceSpec)

/-- 'laws.FnPutDue', WHERE WHAT IT READS IS OF BULK AT MOST 1048576: true; the input reads as it did. -/
def fnPutDueUptoRow : OpenClaim := { program := "ytflilandcjnpjaa", sum := "5508be9c1fdc20c96c7b5df4f77ca933d78b2320de9806226ceb45b513ca2534", func := "loop.example/dualmodes/laws.FnPutDue", spec := "fnPutDue", inPlace := ["slices.overlaps[loop.example/dualmodes/impl.Job]"], unfollowed := true, recurses := true, apart := false, narrowed := true }
def FnPutDueUptoSaid : Prop := fnPutDueUptoRow.holds Try.pinned (OpenSpec.upto fnPutDueSpec)

/-- 'laws.FnExactJobsValid', WHERE WHAT IT READS IS OF BULK AT MOST 1048576: true; the input reads as it did. -/
def fnExactJobsValidUptoRow : OpenClaim := { program := "ytflilandcjnpjaa", sum := "5508be9c1fdc20c96c7b5df4f77ca933d78b2320de9806226ceb45b513ca2534", func := "loop.example/dualmodes/laws.FnExactJobsValid", spec := "fnExactJobsValid", unfollowed := true, recurses := true, apart := false, narrowed := true }
def FnExactJobsValidUptoSaid : Prop := fnExactJobsValidUptoRow.holds Try.pinned (OpenSpec.upto fnExactJobsValidSpec)

/-- 'laws.FnExactWorstJobs', WHERE WHAT IT READS IS OF BULK AT MOST 1048576: true; the input reads as it did. -/
def fnExactWorstJobsUptoRow : OpenClaim := { program := "ytflilandcjnpjaa", sum := "5508be9c1fdc20c96c7b5df4f77ca933d78b2320de9806226ceb45b513ca2534", func := "loop.example/dualmodes/laws.FnExactWorstJobs", spec := "fnExactWorstJobs", unfollowed := true, recurses := true, apart := false, narrowed := true }
def FnExactWorstJobsUptoSaid : Prop := fnExactWorstJobsUptoRow.holds Try.pinned (OpenSpec.upto fnExactWorstJobsSpec)

/-- 'laws.FnExactPutJob', WHERE WHAT IT READS IS OF BULK AT MOST 1048576: true; the input reads as it did. -/
def fnExactPutJobUptoRow : OpenClaim := { program := "ytflilandcjnpjaa", sum := "5508be9c1fdc20c96c7b5df4f77ca933d78b2320de9806226ceb45b513ca2534", func := "loop.example/dualmodes/laws.FnExactPutJob", spec := "fnExactPutJob", inPlace := ["slices.overlaps[loop.example/dualmodes/impl.Job]"], unfollowed := true, recurses := true, apart := false, narrowed := true }
def FnExactPutJobUptoSaid : Prop := fnExactPutJobUptoRow.holds Try.pinned (OpenSpec.upto fnExactPutJobSpec)

end Rows
end Go.Proofs.Ytflilandcjnpjaa
