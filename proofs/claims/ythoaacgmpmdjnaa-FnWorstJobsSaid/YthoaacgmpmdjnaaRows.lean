/-
  No cell of these rows narrows 'for every input' (looked for: loops, veiled, ifaces, maps, wideKeys, modest, calm, conditions, laid).
  DERIVED. THE GIVEN ROWS OF THIS SEAT. 11 by the template 'for every input the law returns true; each argument reads behind the call as it read before'; 0 by the template 'total and deterministic' (their statements: YthoaacgmpmdjnaaTotals.lean).
  GIVEN WITH THE SEED: the statements are not yours to turn. If you find one false, say at which input.
  Laid BY PROGRAM, IN A SANDBOX (cutbox-rows.mjs): the forced cells as the released guide's own fill.sh prints them over the translation 50e310faeef6b725… (all of the seat's roots in one cut). By AI agents, Wed Nov 11 2026. No macro, syntax, notation, axiom, sorry.
-/
import Derived.Test.YthoaacgmpmdjnaaChecked
import GoSem.Claim
import GoSem.ClaimJoined
import GoSem.ClaimMapViews
import Derived.JoinedTies
import Derived.KernelRfl
namespace Go.Proofs.Ythoaacgmpmdjnaa
/- THE CELL 'sum', in the pinned program and in every row, IS THE sha256 OF THE DUMP (.gsa) THAT YthoaacgmpmdjnaaProg.lean LOADS. Nothing in Lean hashes anything: it is a label: what it is worth is what the hold of that sum in a sandbox is worth. -/
noncomputable def Try.pinned : Pinned := { name := "ythoaacgmpmdjnaa", sum := "50e310faeef6b725ff99dc55d252979a080b89130ee8bc4c1e1c451f61f810e6", checked := Try.checked }
namespace Rows
def none {H : Type} : Left H := { results := [], args := [] }

/-- 'laws.FnWorstJobs': WHATEVER THE INPUT: true; the input reads as it did. -/
def fnWorstJobsSpec : ChangeSpec := { name := "fnWorstJobs", fn := fun _ => fun
  | [d] => { results := [.lit (.bool true)], args := [d] }
  | _ => none }
def fnWorstJobsRow : OpenClaim := { program := "ythoaacgmpmdjnaa", sum := "50e310faeef6b725ff99dc55d252979a080b89130ee8bc4c1e1c451f61f810e6", func := "loop.example/dualmodes/laws.FnWorstJobs", spec := "fnWorstJobs", unfollowed := true, recurses := true, apart := false }
def FnWorstJobsSaid : Prop := fnWorstJobsRow.holds Try.pinned (OpenSpec.ofChange fnWorstJobsSpec)

/-- ITS FALSE NEIGHBOUR: 'it returns false'. Refute it at one input. -/
def fnWorstJobsWrong : ChangeSpec := { name := "fnWorstJobs", fn := fun _ => fun
  | [d] => { results := [.lit (.bool false)], args := [d] }
  | _ => none }
def FnWorstJobsWrongFalsely : Prop := fnWorstJobsRow.holds Try.pinned (OpenSpec.ofChange fnWorstJobsWrong)

/-- 'laws.FnPutJob': WHATEVER THE INPUT: true; the input reads as it did. -/
def fnPutJobSpec : ChangeSpec := { name := "fnPutJob", fn := fun _ => fun
  | [d] => { results := [.lit (.bool true)], args := [d] }
  | _ => none }
def fnPutJobRow : OpenClaim := { program := "ythoaacgmpmdjnaa", sum := "50e310faeef6b725ff99dc55d252979a080b89130ee8bc4c1e1c451f61f810e6", func := "loop.example/dualmodes/laws.FnPutJob", spec := "fnPutJob", inPlace := ["slices.overlaps[loop.example/dualmodes/impl.Job]"], unfollowed := true, recurses := true, apart := false }
def FnPutJobSaid : Prop := fnPutJobRow.holds Try.pinned (OpenSpec.ofChange fnPutJobSpec)

/-- ITS FALSE NEIGHBOUR: 'it returns false'. Refute it at one input. -/
def fnPutJobWrong : ChangeSpec := { name := "fnPutJob", fn := fun _ => fun
  | [d] => { results := [.lit (.bool false)], args := [d] }
  | _ => none }
def FnPutJobWrongFalsely : Prop := fnPutJobRow.holds Try.pinned (OpenSpec.ofChange fnPutJobWrong)

/-- 'laws.FnHighJobs': WHATEVER THE INPUT: true; the input reads as it did. -/
def fnHighJobsSpec : ChangeSpec := { name := "fnHighJobs", fn := fun _ => fun
  | [d] => { results := [.lit (.bool true)], args := [d] }
  | _ => none }
def fnHighJobsRow : OpenClaim := { program := "ythoaacgmpmdjnaa", sum := "50e310faeef6b725ff99dc55d252979a080b89130ee8bc4c1e1c451f61f810e6", func := "loop.example/dualmodes/laws.FnHighJobs", spec := "fnHighJobs", unfollowed := true, recurses := true, apart := false }
def FnHighJobsSaid : Prop := fnHighJobsRow.holds Try.pinned (OpenSpec.ofChange fnHighJobsSpec)

/-- ITS FALSE NEIGHBOUR: 'it returns false'. Refute it at one input. -/
def fnHighJobsWrong : ChangeSpec := { name := "fnHighJobs", fn := fun _ => fun
  | [d] => { results := [.lit (.bool false)], args := [d] }
  | _ => none }
def FnHighJobsWrongFalsely : Prop := fnHighJobsRow.holds Try.pinned (OpenSpec.ofChange fnHighJobsWrong)

/-- 'laws.FnDueAt': WHATEVER THE INPUT: true; the input reads as it did. -/
def fnDueAtSpec : ChangeSpec := { name := "fnDueAt", fn := fun _ => fun
  | [d] => { results := [.lit (.bool true)], args := [d] }
  | _ => none }
def fnDueAtRow : OpenClaim := { program := "ythoaacgmpmdjnaa", sum := "50e310faeef6b725ff99dc55d252979a080b89130ee8bc4c1e1c451f61f810e6", func := "loop.example/dualmodes/laws.FnDueAt", spec := "fnDueAt", apart := false }
def FnDueAtSaid : Prop := fnDueAtRow.holds Try.pinned (OpenSpec.ofChange fnDueAtSpec)

/-- ITS FALSE NEIGHBOUR: 'it returns false'. Refute it at one input. -/
def fnDueAtWrong : ChangeSpec := { name := "fnDueAt", fn := fun _ => fun
  | [d] => { results := [.lit (.bool false)], args := [d] }
  | _ => none }
def FnDueAtWrongFalsely : Prop := fnDueAtRow.holds Try.pinned (OpenSpec.ofChange fnDueAtWrong)

/-- 'laws.FnJobsValid': WHATEVER THE INPUT: true; the input reads as it did. -/
def fnJobsValidSpec : ChangeSpec := { name := "fnJobsValid", fn := fun _ => fun
  | [d] => { results := [.lit (.bool true)], args := [d] }
  | _ => none }
def fnJobsValidRow : OpenClaim := { program := "ythoaacgmpmdjnaa", sum := "50e310faeef6b725ff99dc55d252979a080b89130ee8bc4c1e1c451f61f810e6", func := "loop.example/dualmodes/laws.FnJobsValid", spec := "fnJobsValid", inPlace := ["slices.overlaps[loop.example/dualmodes/impl.Job]"], unfollowed := true, recurses := true, apart := false }
def FnJobsValidSaid : Prop := fnJobsValidRow.holds Try.pinned (OpenSpec.ofChange fnJobsValidSpec)

/-- ITS FALSE NEIGHBOUR: 'it returns false'. Refute it at one input. -/
def fnJobsValidWrong : ChangeSpec := { name := "fnJobsValid", fn := fun _ => fun
  | [d] => { results := [.lit (.bool false)], args := [d] }
  | _ => none }
def FnJobsValidWrongFalsely : Prop := fnJobsValidRow.holds Try.pinned (OpenSpec.ofChange fnJobsValidWrong)

/-- 'laws.FnWorstPrefix': WHATEVER THE INPUT: true; the input reads as it did. -/
def fnWorstPrefixSpec : ChangeSpec := { name := "fnWorstPrefix", fn := fun _ => fun
  | [d] => { results := [.lit (.bool true)], args := [d] }
  | _ => none }
def fnWorstPrefixRow : OpenClaim := { program := "ythoaacgmpmdjnaa", sum := "50e310faeef6b725ff99dc55d252979a080b89130ee8bc4c1e1c451f61f810e6", func := "loop.example/dualmodes/laws.FnWorstPrefix", spec := "fnWorstPrefix", unfollowed := true, recurses := true, apart := false }
def FnWorstPrefixSaid : Prop := fnWorstPrefixRow.holds Try.pinned (OpenSpec.ofChange fnWorstPrefixSpec)

/-- ITS FALSE NEIGHBOUR: 'it returns false'. Refute it at one input. -/
def fnWorstPrefixWrong : ChangeSpec := { name := "fnWorstPrefix", fn := fun _ => fun
  | [d] => { results := [.lit (.bool false)], args := [d] }
  | _ => none }
def FnWorstPrefixWrongFalsely : Prop := fnWorstPrefixRow.holds Try.pinned (OpenSpec.ofChange fnWorstPrefixWrong)

/-- 'laws.FnWorstHigh': WHATEVER THE INPUT: true; the input reads as it did. -/
def fnWorstHighSpec : ChangeSpec := { name := "fnWorstHigh", fn := fun _ => fun
  | [d] => { results := [.lit (.bool true)], args := [d] }
  | _ => none }
def fnWorstHighRow : OpenClaim := { program := "ythoaacgmpmdjnaa", sum := "50e310faeef6b725ff99dc55d252979a080b89130ee8bc4c1e1c451f61f810e6", func := "loop.example/dualmodes/laws.FnWorstHigh", spec := "fnWorstHigh", unfollowed := true, recurses := true, apart := false }
def FnWorstHighSaid : Prop := fnWorstHighRow.holds Try.pinned (OpenSpec.ofChange fnWorstHighSpec)

/-- ITS FALSE NEIGHBOUR: 'it returns false'. Refute it at one input. -/
def fnWorstHighWrong : ChangeSpec := { name := "fnWorstHigh", fn := fun _ => fun
  | [d] => { results := [.lit (.bool false)], args := [d] }
  | _ => none }
def FnWorstHighWrongFalsely : Prop := fnWorstHighRow.holds Try.pinned (OpenSpec.ofChange fnWorstHighWrong)

/-- 'laws.FnHighLow': WHATEVER THE INPUT: true; the input reads as it did. -/
def fnHighLowSpec : ChangeSpec := { name := "fnHighLow", fn := fun _ => fun
  | [d] => { results := [.lit (.bool true)], args := [d] }
  | _ => none }
def fnHighLowRow : OpenClaim := { program := "ythoaacgmpmdjnaa", sum := "50e310faeef6b725ff99dc55d252979a080b89130ee8bc4c1e1c451f61f810e6", func := "loop.example/dualmodes/laws.FnHighLow", spec := "fnHighLow", unfollowed := true, recurses := true, apart := false }
def FnHighLowSaid : Prop := fnHighLowRow.holds Try.pinned (OpenSpec.ofChange fnHighLowSpec)

/-- ITS FALSE NEIGHBOUR: 'it returns false'. Refute it at one input. -/
def fnHighLowWrong : ChangeSpec := { name := "fnHighLow", fn := fun _ => fun
  | [d] => { results := [.lit (.bool false)], args := [d] }
  | _ => none }
def FnHighLowWrongFalsely : Prop := fnHighLowRow.holds Try.pinned (OpenSpec.ofChange fnHighLowWrong)

/-- 'laws.FnJobsOrder': WHATEVER THE INPUT: true; the input reads as it did. -/
def fnJobsOrderSpec : ChangeSpec := { name := "fnJobsOrder", fn := fun _ => fun
  | [d] => { results := [.lit (.bool true)], args := [d] }
  | _ => none }
def fnJobsOrderRow : OpenClaim := { program := "ythoaacgmpmdjnaa", sum := "50e310faeef6b725ff99dc55d252979a080b89130ee8bc4c1e1c451f61f810e6", func := "loop.example/dualmodes/laws.FnJobsOrder", spec := "fnJobsOrder", unfollowed := true, recurses := true, apart := false }
def FnJobsOrderSaid : Prop := fnJobsOrderRow.holds Try.pinned (OpenSpec.ofChange fnJobsOrderSpec)

/-- ITS FALSE NEIGHBOUR: 'it returns false'. Refute it at one input. -/
def fnJobsOrderWrong : ChangeSpec := { name := "fnJobsOrder", fn := fun _ => fun
  | [d] => { results := [.lit (.bool false)], args := [d] }
  | _ => none }
def FnJobsOrderWrongFalsely : Prop := fnJobsOrderRow.holds Try.pinned (OpenSpec.ofChange fnJobsOrderWrong)

/-- 'laws.FnJobsTurned': WHATEVER THE INPUT: true; the input reads as it did. -/
def fnJobsTurnedSpec : ChangeSpec := { name := "fnJobsTurned", fn := fun _ => fun
  | [d] => { results := [.lit (.bool true)], args := [d] }
  | _ => none }
def fnJobsTurnedRow : OpenClaim := { program := "ythoaacgmpmdjnaa", sum := "50e310faeef6b725ff99dc55d252979a080b89130ee8bc4c1e1c451f61f810e6", func := "loop.example/dualmodes/laws.FnJobsTurned", spec := "fnJobsTurned", unfollowed := true, recurses := true, apart := false }
def FnJobsTurnedSaid : Prop := fnJobsTurnedRow.holds Try.pinned (OpenSpec.ofChange fnJobsTurnedSpec)

/-- ITS FALSE NEIGHBOUR: 'it returns false'. Refute it at one input. -/
def fnJobsTurnedWrong : ChangeSpec := { name := "fnJobsTurned", fn := fun _ => fun
  | [d] => { results := [.lit (.bool false)], args := [d] }
  | _ => none }
def FnJobsTurnedWrongFalsely : Prop := fnJobsTurnedRow.holds Try.pinned (OpenSpec.ofChange fnJobsTurnedWrong)

/-- 'laws.FnPutTwice': WHATEVER THE INPUT: true; the input reads as it did. -/
def fnPutTwiceSpec : ChangeSpec := { name := "fnPutTwice", fn := fun _ => fun
  | [d] => { results := [.lit (.bool true)], args := [d] }
  | _ => none }
def fnPutTwiceRow : OpenClaim := { program := "ythoaacgmpmdjnaa", sum := "50e310faeef6b725ff99dc55d252979a080b89130ee8bc4c1e1c451f61f810e6", func := "loop.example/dualmodes/laws.FnPutTwice", spec := "fnPutTwice", inPlace := ["slices.overlaps[loop.example/dualmodes/impl.Job]"], unfollowed := true, recurses := true, apart := false }
def FnPutTwiceSaid : Prop := fnPutTwiceRow.holds Try.pinned (OpenSpec.ofChange fnPutTwiceSpec)

/-- ITS FALSE NEIGHBOUR: 'it returns false'. Refute it at one input. -/
def fnPutTwiceWrong : ChangeSpec := { name := "fnPutTwice", fn := fun _ => fun
  | [d] => { results := [.lit (.bool false)], args := [d] }
  | _ => none }
def FnPutTwiceWrongFalsely : Prop := fnPutTwiceRow.holds Try.pinned (OpenSpec.ofChange fnPutTwiceWrong)

/- THE SECOND FORM. 'bulk': how many values and letters a reading holds, each counted each time it is reached (what is shared counts as often as it is met; a slice's spare places count too). A statement '..UptoSaid' is the law's where the arguments, and the package variables that the reading takes, are together of bulk at most 1048576: NARROWER than '..Said'. Prove '..Said' where nothing that the law and all that it calls make is longer than what came in: it says more and counts as full. Else prove '..UptoSaid'. A law counts once. -/
mutual
def uptoBulk {H : Type} : DataW H → Nat
  | .lit (.string bytes) => bytes.length + 1
  | .lit _ => 1
  | .nil => 1
  | .ptr d => uptoBulk d + 1
  | .slice elems spare => uptoBulkAll elems + uptoBulkAll spare + 1
  | .agg parts => uptoBulkAll parts + 1
  | .iface _ d => uptoBulk d + 1
  | .map entries => uptoBulkEntries entries + 1
  | .held _ => 1
def uptoBulkAll {H : Type} : List (DataW H) → Nat
  | [] => 0
  | d :: r => uptoBulk d + uptoBulkAll r
def uptoBulkEntries {H : Type} : List (Lit × DataW H) → Nat
  | [] => 0
  | x :: r => uptoBulkEntry x + uptoBulkEntries r
def uptoBulkEntry {H : Type} : Lit × DataW H → Nat
  | (.string bytes, d) => bytes.length + uptoBulk d + 1
  | (_, d) => uptoBulk d + 1
 end
def uptoSmall : (H : Type) → List (DataW H) → Bool := fun _ ds => decide (uptoBulkAll ds ≤ 1048576)
def OpenSpec.upto (s : _root_.Go.ChangeSpec) : _root_.Go.OpenSpec := { _root_.Go.OpenSpec.ofChange s with cond := some uptoSmall }

/-- 'laws.FnWorstJobs', WHERE WHAT IT READS IS OF BULK AT MOST 1048576: true; the input reads as it did. -/
def fnWorstJobsUptoRow : OpenClaim := { program := "ythoaacgmpmdjnaa", sum := "50e310faeef6b725ff99dc55d252979a080b89130ee8bc4c1e1c451f61f810e6", func := "loop.example/dualmodes/laws.FnWorstJobs", spec := "fnWorstJobs", unfollowed := true, recurses := true, apart := false, narrowed := true }
def FnWorstJobsUptoSaid : Prop := fnWorstJobsUptoRow.holds Try.pinned (OpenSpec.upto fnWorstJobsSpec)

/-- 'laws.FnPutJob', WHERE WHAT IT READS IS OF BULK AT MOST 1048576: true; the input reads as it did. -/
def fnPutJobUptoRow : OpenClaim := { program := "ythoaacgmpmdjnaa", sum := "50e310faeef6b725ff99dc55d252979a080b89130ee8bc4c1e1c451f61f810e6", func := "loop.example/dualmodes/laws.FnPutJob", spec := "fnPutJob", inPlace := ["slices.overlaps[loop.example/dualmodes/impl.Job]"], unfollowed := true, recurses := true, apart := false, narrowed := true }
def FnPutJobUptoSaid : Prop := fnPutJobUptoRow.holds Try.pinned (OpenSpec.upto fnPutJobSpec)

/-- 'laws.FnHighJobs', WHERE WHAT IT READS IS OF BULK AT MOST 1048576: true; the input reads as it did. -/
def fnHighJobsUptoRow : OpenClaim := { program := "ythoaacgmpmdjnaa", sum := "50e310faeef6b725ff99dc55d252979a080b89130ee8bc4c1e1c451f61f810e6", func := "loop.example/dualmodes/laws.FnHighJobs", spec := "fnHighJobs", unfollowed := true, recurses := true, apart := false, narrowed := true }
def FnHighJobsUptoSaid : Prop := fnHighJobsUptoRow.holds Try.pinned (OpenSpec.upto fnHighJobsSpec)

/-- 'laws.FnDueAt', WHERE WHAT IT READS IS OF BULK AT MOST 1048576: true; the input reads as it did. -/
def fnDueAtUptoRow : OpenClaim := { program := "ythoaacgmpmdjnaa", sum := "50e310faeef6b725ff99dc55d252979a080b89130ee8bc4c1e1c451f61f810e6", func := "loop.example/dualmodes/laws.FnDueAt", spec := "fnDueAt", apart := false, narrowed := true }
def FnDueAtUptoSaid : Prop := fnDueAtUptoRow.holds Try.pinned (OpenSpec.upto fnDueAtSpec)

/-- 'laws.FnJobsValid', WHERE WHAT IT READS IS OF BULK AT MOST 1048576: true; the input reads as it did. -/
def fnJobsValidUptoRow : OpenClaim := { program := "ythoaacgmpmdjnaa", sum := "50e310faeef6b725ff99dc55d252979a080b89130ee8bc4c1e1c451f61f810e6", func := "loop.example/dualmodes/laws.FnJobsValid", spec := "fnJobsValid", inPlace := ["slices.overlaps[loop.example/dualmodes/impl.Job]"], unfollowed := true, recurses := true, apart := false, narrowed := true }
def FnJobsValidUptoSaid : Prop := fnJobsValidUptoRow.holds Try.pinned (OpenSpec.upto fnJobsValidSpec)

/-- 'laws.FnWorstPrefix', WHERE WHAT IT READS IS OF BULK AT MOST 1048576: true; the input reads as it did. -/
def fnWorstPrefixUptoRow : OpenClaim := { program := "ythoaacgmpmdjnaa", sum := "50e310faeef6b725ff99dc55d252979a080b89130ee8bc4c1e1c451f61f810e6", func := "loop.example/dualmodes/laws.FnWorstPrefix", spec := "fnWorstPrefix", unfollowed := true, recurses := true, apart := false, narrowed := true }
def FnWorstPrefixUptoSaid : Prop := fnWorstPrefixUptoRow.holds Try.pinned (OpenSpec.upto fnWorstPrefixSpec)

/-- 'laws.FnWorstHigh', WHERE WHAT IT READS IS OF BULK AT MOST 1048576: true; the input reads as it did. -/
def fnWorstHighUptoRow : OpenClaim := { program := "ythoaacgmpmdjnaa", sum := "50e310faeef6b725ff99dc55d252979a080b89130ee8bc4c1e1c451f61f810e6", func := "loop.example/dualmodes/laws.FnWorstHigh", spec := "fnWorstHigh", unfollowed := true, recurses := true, apart := false, narrowed := true }
def FnWorstHighUptoSaid : Prop := fnWorstHighUptoRow.holds Try.pinned (OpenSpec.upto fnWorstHighSpec)

/-- 'laws.FnHighLow', WHERE WHAT IT READS IS OF BULK AT MOST 1048576: true; the input reads as it did. -/
def fnHighLowUptoRow : OpenClaim := { program := "ythoaacgmpmdjnaa", sum := "50e310faeef6b725ff99dc55d252979a080b89130ee8bc4c1e1c451f61f810e6", func := "loop.example/dualmodes/laws.FnHighLow", spec := "fnHighLow", unfollowed := true, recurses := true, apart := false, narrowed := true }
def FnHighLowUptoSaid : Prop := fnHighLowUptoRow.holds Try.pinned (OpenSpec.upto fnHighLowSpec)

/-- 'laws.FnJobsOrder', WHERE WHAT IT READS IS OF BULK AT MOST 1048576: true; the input reads as it did. -/
def fnJobsOrderUptoRow : OpenClaim := { program := "ythoaacgmpmdjnaa", sum := "50e310faeef6b725ff99dc55d252979a080b89130ee8bc4c1e1c451f61f810e6", func := "loop.example/dualmodes/laws.FnJobsOrder", spec := "fnJobsOrder", unfollowed := true, recurses := true, apart := false, narrowed := true }
def FnJobsOrderUptoSaid : Prop := fnJobsOrderUptoRow.holds Try.pinned (OpenSpec.upto fnJobsOrderSpec)

/-- 'laws.FnJobsTurned', WHERE WHAT IT READS IS OF BULK AT MOST 1048576: true; the input reads as it did. -/
def fnJobsTurnedUptoRow : OpenClaim := { program := "ythoaacgmpmdjnaa", sum := "50e310faeef6b725ff99dc55d252979a080b89130ee8bc4c1e1c451f61f810e6", func := "loop.example/dualmodes/laws.FnJobsTurned", spec := "fnJobsTurned", unfollowed := true, recurses := true, apart := false, narrowed := true }
def FnJobsTurnedUptoSaid : Prop := fnJobsTurnedUptoRow.holds Try.pinned (OpenSpec.upto fnJobsTurnedSpec)

/-- 'laws.FnPutTwice', WHERE WHAT IT READS IS OF BULK AT MOST 1048576: true; the input reads as it did. -/
def fnPutTwiceUptoRow : OpenClaim := { program := "ythoaacgmpmdjnaa", sum := "50e310faeef6b725ff99dc55d252979a080b89130ee8bc4c1e1c451f61f810e6", func := "loop.example/dualmodes/laws.FnPutTwice", spec := "fnPutTwice", inPlace := ["slices.overlaps[loop.example/dualmodes/impl.Job]"], unfollowed := true, recurses := true, apart := false, narrowed := true }
def FnPutTwiceUptoSaid : Prop := fnPutTwiceUptoRow.holds Try.pinned (OpenSpec.upto fnPutTwiceSpec)

end Rows
end Go.Proofs.Ythoaacgmpmdjnaa
