/-
  No cell of these rows narrows 'for every input' (looked for: loops, veiled, ifaces, maps, wideKeys, modest, calm, conditions, laid).
  DERIVED. THE GIVEN ROWS OF THIS SEAT. 4 by the template 'for every input the law returns true; each argument reads behind the call as it read before'; 0 by the template 'total and deterministic' (their statements: YthdclaljgimclaaTotals.lean).
  GIVEN WITH THE SEED: the statements are not yours to turn. If you find one false, say at which input.
  Laid BY PROGRAM, IN A SANDBOX (cutbox-rows.mjs): the forced cells as the released guide's own fill.sh prints them over the translation 92d318105c376feb… (all of the seat's roots in one cut). By AI agents, Wed Nov 11 2026. No macro, syntax, notation, axiom, sorry.
-/
import Derived.Test.YthdclaljgimclaaChecked
import GoSem.Claim
import GoSem.ClaimJoined
import GoSem.ClaimMapViews
import Derived.JoinedTies
import Derived.KernelRfl
namespace Go.Proofs.Ythdclaljgimclaa
/- THE CELL 'sum', in the pinned program and in every row, IS THE sha256 OF THE DUMP (.gsa) THAT YthdclaljgimclaaProg.lean LOADS. Nothing in Lean hashes anything: it is a label: what it is worth is what the hold of that sum in a sandbox is worth. -/
noncomputable def Try.pinned : Pinned := { name := "ythdclaljgimclaa", sum := "92d318105c376feb1af5d4fe913e23b033bf33d05b9e9f30b6d0a89ac1de4554", checked := Try.checked }
namespace Rows
def none {H : Type} : Left H := { results := [], args := [] }

/-- 'laws.FnHighJobs': WHATEVER THE INPUT: true; the input reads as it did. -/
def fnHighJobsSpec : ChangeSpec := { name := "fnHighJobs", fn := fun _ => fun
  | [d] => { results := [.lit (.bool true)], args := [d] }
  | _ => none }
def fnHighJobsRow : OpenClaim := { program := "ythdclaljgimclaa", sum := "92d318105c376feb1af5d4fe913e23b033bf33d05b9e9f30b6d0a89ac1de4554", func := "loop.example/dualmodes/laws.FnHighJobs", spec := "fnHighJobs", unfollowed := true, recurses := true, apart := false }
def FnHighJobsSaid : Prop := fnHighJobsRow.holds Try.pinned (OpenSpec.ofChange fnHighJobsSpec)

/-- ITS FALSE NEIGHBOUR: 'it returns false'. Refute it at one input. -/
def fnHighJobsWrong : ChangeSpec := { name := "fnHighJobs", fn := fun _ => fun
  | [d] => { results := [.lit (.bool false)], args := [d] }
  | _ => none }
def FnHighJobsWrongFalsely : Prop := fnHighJobsRow.holds Try.pinned (OpenSpec.ofChange fnHighJobsWrong)

/-- 'laws.FnWorstHigh': WHATEVER THE INPUT: true; the input reads as it did. -/
def fnWorstHighSpec : ChangeSpec := { name := "fnWorstHigh", fn := fun _ => fun
  | [d] => { results := [.lit (.bool true)], args := [d] }
  | _ => none }
def fnWorstHighRow : OpenClaim := { program := "ythdclaljgimclaa", sum := "92d318105c376feb1af5d4fe913e23b033bf33d05b9e9f30b6d0a89ac1de4554", func := "loop.example/dualmodes/laws.FnWorstHigh", spec := "fnWorstHigh", unfollowed := true, recurses := true, apart := false }
def FnWorstHighSaid : Prop := fnWorstHighRow.holds Try.pinned (OpenSpec.ofChange fnWorstHighSpec)

/-- ITS FALSE NEIGHBOUR: 'it returns false'. Refute it at one input. -/
def fnWorstHighWrong : ChangeSpec := { name := "fnWorstHigh", fn := fun _ => fun
  | [d] => { results := [.lit (.bool false)], args := [d] }
  | _ => none }
def FnWorstHighWrongFalsely : Prop := fnWorstHighRow.holds Try.pinned (OpenSpec.ofChange fnWorstHighWrong)

/-- 'laws.FnHighLow': WHATEVER THE INPUT: true; the input reads as it did. -/
def fnHighLowSpec : ChangeSpec := { name := "fnHighLow", fn := fun _ => fun
  | [d] => { results := [.lit (.bool true)], args := [d] }
  | _ => none }
def fnHighLowRow : OpenClaim := { program := "ythdclaljgimclaa", sum := "92d318105c376feb1af5d4fe913e23b033bf33d05b9e9f30b6d0a89ac1de4554", func := "loop.example/dualmodes/laws.FnHighLow", spec := "fnHighLow", unfollowed := true, recurses := true, apart := false }
def FnHighLowSaid : Prop := fnHighLowRow.holds Try.pinned (OpenSpec.ofChange fnHighLowSpec)

/-- ITS FALSE NEIGHBOUR: 'it returns false'. Refute it at one input. -/
def fnHighLowWrong : ChangeSpec := { name := "fnHighLow", fn := fun _ => fun
  | [d] => { results := [.lit (.bool false)], args := [d] }
  | _ => none }
def FnHighLowWrongFalsely : Prop := fnHighLowRow.holds Try.pinned (OpenSpec.ofChange fnHighLowWrong)

/-- 'laws.FnExactHighJobs': WHATEVER THE INPUT: true; the input reads as it did. -/
def fnExactHighJobsSpec : ChangeSpec := { name := "fnExactHighJobs", fn := fun _ => fun
  | [d1, d2] => { results := [.lit (.bool true)], args := [d1, d2] }
  | _ => none }
def fnExactHighJobsRow : OpenClaim := { program := "ythdclaljgimclaa", sum := "92d318105c376feb1af5d4fe913e23b033bf33d05b9e9f30b6d0a89ac1de4554", func := "loop.example/dualmodes/laws.FnExactHighJobs", spec := "fnExactHighJobs", unfollowed := true, recurses := true, apart := false }
def FnExactHighJobsSaid : Prop := fnExactHighJobsRow.holds Try.pinned (OpenSpec.ofChange fnExactHighJobsSpec)

/-- ITS FALSE NEIGHBOUR: 'it returns false'. Refute it at one input. -/
def fnExactHighJobsWrong : ChangeSpec := { name := "fnExactHighJobs", fn := fun _ => fun
  | [d1, d2] => { results := [.lit (.bool false)], args := [d1, d2] }
  | _ => none }
def FnExactHighJobsWrongFalsely : Prop := fnExactHighJobsRow.holds Try.pinned (OpenSpec.ofChange fnExactHighJobsWrong)

/- THE SECOND FORM. 'bulk': how many values and letters a reading holds, each counted each time it is reached (what is shared counts as often as it is met; a slice's spare places count too). A statement '..UptoSaid' is the law's where the arguments, and the package variables that the reading takes, are together of bulk at most 1048576: NARROWER than '..Said'. Prove '..Said' where nothing that the law and all that it calls make is longer than what came in: it says more and counts as full. Else prove '..UptoSaid'. A law counts once. -/
mutual
def uptoBulk {H : Type} : DataW H → Nat
  | .lit (.string bytes) => bytes.length + 1
  | .lit _ => 1
  | .nil => 1
  | .ptr d => uptoBulk d + 1
  | .slice elems spare => uptoBulkAll elems + uptoBulkAll spare + 1
  | .agg parts => uptoBulkAll parts + 1
  | .iface _ d => uptoBulk d + 1
  | .map entries => uptoBulkEntries entries + 1
  | .held _ => 1
def uptoBulkAll {H : Type} : List (DataW H) → Nat
  | [] => 0
  | d :: r => uptoBulk d + uptoBulkAll r
def uptoBulkEntries {H : Type} : List (Lit × DataW H) → Nat
  | [] => 0
  | x :: r => uptoBulkEntry x + uptoBulkEntries r
def uptoBulkEntry {H : Type} : Lit × DataW H → Nat
  | (.string bytes, d) => bytes.length + uptoBulk d + 1
  | (_, d) => uptoBulk d + 1
 end
def uptoSmall : (H : Type) → List (DataW H) → Bool := fun _ ds => decide (uptoBulkAll ds ≤ 1048576)
def OpenSpec.upto (s : _root_.Go.ChangeSpec) : _root_.Go.OpenSpec := { _root_.Go.OpenSpec.ofChange s with cond := some uptoSmall }

/-- 'laws.FnHighJobs', WHERE WHAT IT READS IS OF BULK AT MOST 1048576: true; the input reads as it did. -/
def fnHighJobsUptoRow : OpenClaim := { program := "ythdclaljgimclaa", sum := "92d318105c376feb1af5d4fe913e23b033bf33d05b9e9f30b6d0a89ac1de4554", func := "loop.example/dualmodes/laws.FnHighJobs", spec := "fnHighJobs", unfollowed := true, recurses := true, apart := false, narrowed := true }
def FnHighJobsUptoSaid : Prop := fnHighJobsUptoRow.holds Try.pinned (OpenSpec.upto fnHighJobsSpec)

/-- 'laws.FnWorstHigh', WHERE WHAT IT READS IS OF BULK AT MOST 1048576: true; the input reads as it did. -/
def fnWorstHighUptoRow : OpenClaim := { program := "ythdclaljgimclaa", sum := "92d318105c376feb1af5d4fe913e23b033bf33d05b9e9f30b6d0a89ac1de4554", func := "loop.example/dualmodes/laws.FnWorstHigh", spec := "fnWorstHigh", unfollowed := true, recurses := true, apart := false, narrowed := true }
def FnWorstHighUptoSaid : Prop := fnWorstHighUptoRow.holds Try.pinned (OpenSpec.upto fnWorstHighSpec)

/-- 'laws.FnHighLow', WHERE WHAT IT READS IS OF BULK AT MOST 1048576: true; the input reads as it did. -/
def fnHighLowUptoRow : OpenClaim := { program := "ythdclaljgimclaa", sum := "92d318105c376feb1af5d4fe913e23b033bf33d05b9e9f30b6d0a89ac1de4554", func := "loop.example/dualmodes/laws.FnHighLow", spec := "fnHighLow", unfollowed := true, recurses := true, apart := false, narrowed := true }
def FnHighLowUptoSaid : Prop := fnHighLowUptoRow.holds Try.pinned (OpenSpec.upto fnHighLowSpec)

/-- 'laws.FnExactHighJobs', WHERE WHAT IT READS IS OF BULK AT MOST 1048576: true; the input reads as it did. -/
def fnExactHighJobsUptoRow : OpenClaim := { program := "ythdclaljgimclaa", sum := "92d318105c376feb1af5d4fe913e23b033bf33d05b9e9f30b6d0a89ac1de4554", func := "loop.example/dualmodes/laws.FnExactHighJobs", spec := "fnExactHighJobs", unfollowed := true, recurses := true, apart := false, narrowed := true }
def FnExactHighJobsUptoSaid : Prop := fnExactHighJobsUptoRow.holds Try.pinned (OpenSpec.upto fnExactHighJobsSpec)

end Rows
end Go.Proofs.Ythdclaljgimclaa
