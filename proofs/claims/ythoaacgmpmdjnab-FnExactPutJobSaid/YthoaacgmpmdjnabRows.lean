/-
  No cell of these rows narrows 'for every input' (looked for: loops, veiled, ifaces, maps, wideKeys, modest, calm, conditions, laid).
  DERIVED. THE GIVEN ROWS OF THIS SEAT. 8 by the template 'for every input the law returns true; each argument reads behind the call as it read before'; 0 by the template 'total and deterministic' (their statements: YthoaacgmpmdjnabTotals.lean).
  GIVEN WITH THE SEED: the statements are not yours to turn. If you find one false, say at which input.
  Laid BY PROGRAM, IN A SANDBOX (cutbox-rows.mjs): the forced cells as the released guide's own fill.sh prints them over the translation 2c899d6b47bc3a0c… (all of the seat's roots in one cut). By AI agents, Wed Nov 11 2026. No macro, syntax, notation, axiom, sorry.
-/
import Derived.Test.YthoaacgmpmdjnabChecked
import GoSem.Claim
import GoSem.ClaimJoined
import GoSem.ClaimMapViews
import Derived.JoinedTies
import Derived.KernelRfl
namespace Go.Proofs.Ythoaacgmpmdjnab
/- THE CELL 'sum', in the pinned program and in every row, IS THE sha256 OF THE DUMP (.gsa) THAT YthoaacgmpmdjnabProg.lean LOADS. Nothing in Lean hashes anything: it is a label: what it is worth is what the hold of that sum in a sandbox is worth. -/
noncomputable def Try.pinned : Pinned := { name := "ythoaacgmpmdjnab", sum := "2c899d6b47bc3a0c859f3165ad481359752427885ff610fc440612d3b41cea84", checked := Try.checked }
namespace Rows
def none {H : Type} : Left H := { results := [], args := [] }

/-- 'laws.FnPutDue': WHATEVER THE INPUT: true; the input reads as it did. -/
def fnPutDueSpec : ChangeSpec := { name := "fnPutDue", fn := fun _ => fun
  | [d] => { results := [.lit (.bool true)], args := [d] }
  | _ => none }
def fnPutDueRow : OpenClaim := { program := "ythoaacgmpmdjnab", sum := "2c899d6b47bc3a0c859f3165ad481359752427885ff610fc440612d3b41cea84", func := "loop.example/dualmodes/laws.FnPutDue", spec := "fnPutDue", inPlace := ["slices.overlaps[loop.example/dualmodes/impl.Job]"], unfollowed := true, recurses := true, apart := false }
def FnPutDueSaid : Prop := fnPutDueRow.holds Try.pinned (OpenSpec.ofChange fnPutDueSpec)

/-- ITS FALSE NEIGHBOUR: 'it returns false'. Refute it at one input. -/
def fnPutDueWrong : ChangeSpec := { name := "fnPutDue", fn := fun _ => fun
  | [d] => { results := [.lit (.bool false)], args := [d] }
  | _ => none }
def FnPutDueWrongFalsely : Prop := fnPutDueRow.holds Try.pinned (OpenSpec.ofChange fnPutDueWrong)

/-- 'laws.FnNeedNone': WHATEVER THE INPUT: true; the input reads as it did. -/
def fnNeedNoneSpec : ChangeSpec := { name := "fnNeedNone", fn := fun _ => fun
  | [d] => { results := [.lit (.bool true)], args := [d] }
  | _ => none }
def fnNeedNoneRow : OpenClaim := { program := "ythoaacgmpmdjnab", sum := "2c899d6b47bc3a0c859f3165ad481359752427885ff610fc440612d3b41cea84", func := "loop.example/dualmodes/laws.FnNeedNone", spec := "fnNeedNone", apart := false }
def FnNeedNoneSaid : Prop := fnNeedNoneRow.holds Try.pinned (OpenSpec.ofChange fnNeedNoneSpec)

/-- ITS FALSE NEIGHBOUR: 'it returns false'. Refute it at one input. -/
def fnNeedNoneWrong : ChangeSpec := { name := "fnNeedNone", fn := fun _ => fun
  | [d] => { results := [.lit (.bool false)], args := [d] }
  | _ => none }
def FnNeedNoneWrongFalsely : Prop := fnNeedNoneRow.holds Try.pinned (OpenSpec.ofChange fnNeedNoneWrong)

/-- 'laws.FnExactJobsValid': WHATEVER THE INPUT: true; the input reads as it did. -/
def fnExactJobsValidSpec : ChangeSpec := { name := "fnExactJobsValid", fn := fun _ => fun
  | [d1, d2] => { results := [.lit (.bool true)], args := [d1, d2] }
  | _ => none }
def fnExactJobsValidRow : OpenClaim := { program := "ythoaacgmpmdjnab", sum := "2c899d6b47bc3a0c859f3165ad481359752427885ff610fc440612d3b41cea84", func := "loop.example/dualmodes/laws.FnExactJobsValid", spec := "fnExactJobsValid", unfollowed := true, recurses := true, apart := false }
def FnExactJobsValidSaid : Prop := fnExactJobsValidRow.holds Try.pinned (OpenSpec.ofChange fnExactJobsValidSpec)

/-- ITS FALSE NEIGHBOUR: 'it returns false'. Refute it at one input. -/
def fnExactJobsValidWrong : ChangeSpec := { name := "fnExactJobsValid", fn := fun _ => fun
  | [d1, d2] => { results := [.lit (.bool false)], args := [d1, d2] }
  | _ => none }
def FnExactJobsValidWrongFalsely : Prop := fnExactJobsValidRow.holds Try.pinned (OpenSpec.ofChange fnExactJobsValidWrong)

/-- 'laws.FnExactWorstJobs': WHATEVER THE INPUT: true; the input reads as it did. -/
def fnExactWorstJobsSpec : ChangeSpec := { name := "fnExactWorstJobs", fn := fun _ => fun
  | [d1, d2, d3] => { results := [.lit (.bool true)], args := [d1, d2, d3] }
  | _ => none }
def fnExactWorstJobsRow : OpenClaim := { program := "ythoaacgmpmdjnab", sum := "2c899d6b47bc3a0c859f3165ad481359752427885ff610fc440612d3b41cea84", func := "loop.example/dualmodes/laws.FnExactWorstJobs", spec := "fnExactWorstJobs", unfollowed := true, recurses := true, apart := false }
def FnExactWorstJobsSaid : Prop := fnExactWorstJobsRow.holds Try.pinned (OpenSpec.ofChange fnExactWorstJobsSpec)

/-- ITS FALSE NEIGHBOUR: 'it returns false'. Refute it at one input. -/
def fnExactWorstJobsWrong : ChangeSpec := { name := "fnExactWorstJobs", fn := fun _ => fun
  | [d1, d2, d3] => { results := [.lit (.bool false)], args := [d1, d2, d3] }
  | _ => none }
def FnExactWorstJobsWrongFalsely : Prop := fnExactWorstJobsRow.holds Try.pinned (OpenSpec.ofChange fnExactWorstJobsWrong)

/-- 'laws.FnExactDueAt': WHATEVER THE INPUT: true; the input reads as it did. -/
def fnExactDueAtSpec : ChangeSpec := { name := "fnExactDueAt", fn := fun _ => fun
  | [d1, d2] => { results := [.lit (.bool true)], args := [d1, d2] }
  | _ => none }
def fnExactDueAtRow : OpenClaim := { program := "ythoaacgmpmdjnab", sum := "2c899d6b47bc3a0c859f3165ad481359752427885ff610fc440612d3b41cea84", func := "loop.example/dualmodes/laws.FnExactDueAt", spec := "fnExactDueAt", apart := false }
def FnExactDueAtSaid : Prop := fnExactDueAtRow.holds Try.pinned (OpenSpec.ofChange fnExactDueAtSpec)

/-- ITS FALSE NEIGHBOUR: 'it returns false'. Refute it at one input. -/
def fnExactDueAtWrong : ChangeSpec := { name := "fnExactDueAt", fn := fun _ => fun
  | [d1, d2] => { results := [.lit (.bool false)], args := [d1, d2] }
  | _ => none }
def FnExactDueAtWrongFalsely : Prop := fnExactDueAtRow.holds Try.pinned (OpenSpec.ofChange fnExactDueAtWrong)

/-- 'laws.FnExactHighJobs': WHATEVER THE INPUT: true; the input reads as it did. -/
def fnExactHighJobsSpec : ChangeSpec := { name := "fnExactHighJobs", fn := fun _ => fun
  | [d1, d2] => { results := [.lit (.bool true)], args := [d1, d2] }
  | _ => none }
def fnExactHighJobsRow : OpenClaim := { program := "ythoaacgmpmdjnab", sum := "2c899d6b47bc3a0c859f3165ad481359752427885ff610fc440612d3b41cea84", func := "loop.example/dualmodes/laws.FnExactHighJobs", spec := "fnExactHighJobs", unfollowed := true, recurses := true, apart := false }
def FnExactHighJobsSaid : Prop := fnExactHighJobsRow.holds Try.pinned (OpenSpec.ofChange fnExactHighJobsSpec)

/-- ITS FALSE NEIGHBOUR: 'it returns false'. Refute it at one input. -/
def fnExactHighJobsWrong : ChangeSpec := { name := "fnExactHighJobs", fn := fun _ => fun
  | [d1, d2] => { results := [.lit (.bool false)], args := [d1, d2] }
  | _ => none }
def FnExactHighJobsWrongFalsely : Prop := fnExactHighJobsRow.holds Try.pinned (OpenSpec.ofChange fnExactHighJobsWrong)

/-- 'laws.FnExactNeedOf': WHATEVER THE INPUT: true; the input reads as it did. -/
def fnExactNeedOfSpec : ChangeSpec := { name := "fnExactNeedOf", fn := fun _ => fun
  | [d1, d2] => { results := [.lit (.bool true)], args := [d1, d2] }
  | _ => none }
def fnExactNeedOfRow : OpenClaim := { program := "ythoaacgmpmdjnab", sum := "2c899d6b47bc3a0c859f3165ad481359752427885ff610fc440612d3b41cea84", func := "loop.example/dualmodes/laws.FnExactNeedOf", spec := "fnExactNeedOf", apart := false }
def FnExactNeedOfSaid : Prop := fnExactNeedOfRow.holds Try.pinned (OpenSpec.ofChange fnExactNeedOfSpec)

/-- ITS FALSE NEIGHBOUR: 'it returns false'. Refute it at one input. -/
def fnExactNeedOfWrong : ChangeSpec := { name := "fnExactNeedOf", fn := fun _ => fun
  | [d1, d2] => { results := [.lit (.bool false)], args := [d1, d2] }
  | _ => none }
def FnExactNeedOfWrongFalsely : Prop := fnExactNeedOfRow.holds Try.pinned (OpenSpec.ofChange fnExactNeedOfWrong)

/-- 'laws.FnExactPutJob': WHATEVER THE INPUT: true; the input reads as it did. -/
def fnExactPutJobSpec : ChangeSpec := { name := "fnExactPutJob", fn := fun _ => fun
  | [d1, d2, d3] => { results := [.lit (.bool true)], args := [d1, d2, d3] }
  | _ => none }
def fnExactPutJobRow : OpenClaim := { program := "ythoaacgmpmdjnab", sum := "2c899d6b47bc3a0c859f3165ad481359752427885ff610fc440612d3b41cea84", func := "loop.example/dualmodes/laws.FnExactPutJob", spec := "fnExactPutJob", inPlace := ["slices.overlaps[loop.example/dualmodes/impl.Job]"], unfollowed := true, recurses := true, apart := false }
def FnExactPutJobSaid : Prop := fnExactPutJobRow.holds Try.pinned (OpenSpec.ofChange fnExactPutJobSpec)

/-- ITS FALSE NEIGHBOUR: 'it returns false'. Refute it at one input. -/
def fnExactPutJobWrong : ChangeSpec := { name := "fnExactPutJob", fn := fun _ => fun
  | [d1, d2, d3] => { results := [.lit (.bool false)], args := [d1, d2, d3] }
  | _ => none }
def FnExactPutJobWrongFalsely : Prop := fnExactPutJobRow.holds Try.pinned (OpenSpec.ofChange fnExactPutJobWrong)

/- THE SECOND FORM. 'bulk': how many values and letters a reading holds, each counted each time it is reached (what is shared counts as often as it is met; a slice's spare places count too). A statement '..UptoSaid' is the law's where the arguments, and the package variables that the reading takes, are together of bulk at most 1048576: NARROWER than '..Said'. Prove '..Said' where nothing that the law and all that it calls make is longer than what came in: it says more and counts as full. Else prove '..UptoSaid'. A law counts once. -/
mutual
def uptoBulk {H : Type} : DataW H → Nat
  | .lit (.string bytes) => bytes.length + 1
  | .lit _ => 1
  | .nil => 1
  | .ptr d => uptoBulk d + 1
  | .slice elems spare => uptoBulkAll elems + uptoBulkAll spare + 1
  | .agg parts => uptoBulkAll parts + 1
  | .iface _ d => uptoBulk d + 1
  | .map entries => uptoBulkEntries entries + 1
  | .held _ => 1
def uptoBulkAll {H : Type} : List (DataW H) → Nat
  | [] => 0
  | d :: r => uptoBulk d + uptoBulkAll r
def uptoBulkEntries {H : Type} : List (Lit × DataW H) → Nat
  | [] => 0
  | x :: r => uptoBulkEntry x + uptoBulkEntries r
def uptoBulkEntry {H : Type} : Lit × DataW H → Nat
  | (.string bytes, d) => bytes.length + uptoBulk d + 1
  | (_, d) => uptoBulk d + 1
 end
def uptoSmall : (H : Type) → List (DataW H) → Bool := fun _ ds => decide (uptoBulkAll ds ≤ 1048576)
def OpenSpec.upto (s : _root_.Go.ChangeSpec) : _root_.Go.OpenSpec := { _root_.Go.OpenSpec.ofChange s with cond := some uptoSmall }

/-- 'laws.FnPutDue', WHERE WHAT IT READS IS OF BULK AT MOST 1048576: true; the input reads as it did. -/
def fnPutDueUptoRow : OpenClaim := { program := "ythoaacgmpmdjnab", sum := "2c899d6b47bc3a0c859f3165ad481359752427885ff610fc440612d3b41cea84", func := "loop.example/dualmodes/laws.FnPutDue", spec := "fnPutDue", inPlace := ["slices.overlaps[loop.example/dualmodes/impl.Job]"], unfollowed := true, recurses := true, apart := false, narrowed := true }
def FnPutDueUptoSaid : Prop := fnPutDueUptoRow.holds Try.pinned (OpenSpec.upto fnPutDueSpec)

/-- 'laws.FnNeedNone', WHERE WHAT IT READS IS OF BULK AT MOST 1048576: true; the input reads as it did. -/
def fnNeedNoneUptoRow : OpenClaim := { program := "ythoaacgmpmdjnab", sum := "2c899d6b47bc3a0c859f3165ad481359752427885ff610fc440612d3b41cea84", func := "loop.example/dualmodes/laws.FnNeedNone", spec := "fnNeedNone", apart := false, narrowed := true }
def FnNeedNoneUptoSaid : Prop := fnNeedNoneUptoRow.holds Try.pinned (OpenSpec.upto fnNeedNoneSpec)

/-- 'laws.FnExactJobsValid', WHERE WHAT IT READS IS OF BULK AT MOST 1048576: true; the input reads as it did. -/
def fnExactJobsValidUptoRow : OpenClaim := { program := "ythoaacgmpmdjnab", sum := "2c899d6b47bc3a0c859f3165ad481359752427885ff610fc440612d3b41cea84", func := "loop.example/dualmodes/laws.FnExactJobsValid", spec := "fnExactJobsValid", unfollowed := true, recurses := true, apart := false, narrowed := true }
def FnExactJobsValidUptoSaid : Prop := fnExactJobsValidUptoRow.holds Try.pinned (OpenSpec.upto fnExactJobsValidSpec)

/-- 'laws.FnExactWorstJobs', WHERE WHAT IT READS IS OF BULK AT MOST 1048576: true; the input reads as it did. -/
def fnExactWorstJobsUptoRow : OpenClaim := { program := "ythoaacgmpmdjnab", sum := "2c899d6b47bc3a0c859f3165ad481359752427885ff610fc440612d3b41cea84", func := "loop.example/dualmodes/laws.FnExactWorstJobs", spec := "fnExactWorstJobs", unfollowed := true, recurses := true, apart := false, narrowed := true }
def FnExactWorstJobsUptoSaid : Prop := fnExactWorstJobsUptoRow.holds Try.pinned (OpenSpec.upto fnExactWorstJobsSpec)

/-- 'laws.FnExactDueAt', WHERE WHAT IT READS IS OF BULK AT MOST 1048576: true; the input reads as it did. -/
def fnExactDueAtUptoRow : OpenClaim := { program := "ythoaacgmpmdjnab", sum := "2c899d6b47bc3a0c859f3165ad481359752427885ff610fc440612d3b41cea84", func := "loop.example/dualmodes/laws.FnExactDueAt", spec := "fnExactDueAt", apart := false, narrowed := true }
def FnExactDueAtUptoSaid : Prop := fnExactDueAtUptoRow.holds Try.pinned (OpenSpec.upto fnExactDueAtSpec)

/-- 'laws.FnExactHighJobs', WHERE WHAT IT READS IS OF BULK AT MOST 1048576: true; the input reads as it did. -/
def fnExactHighJobsUptoRow : OpenClaim := { program := "ythoaacgmpmdjnab", sum := "2c899d6b47bc3a0c859f3165ad481359752427885ff610fc440612d3b41cea84", func := "loop.example/dualmodes/laws.FnExactHighJobs", spec := "fnExactHighJobs", unfollowed := true, recurses := true, apart := false, narrowed := true }
def FnExactHighJobsUptoSaid : Prop := fnExactHighJobsUptoRow.holds Try.pinned (OpenSpec.upto fnExactHighJobsSpec)

/-- 'laws.FnExactNeedOf', WHERE WHAT IT READS IS OF BULK AT MOST 1048576: true; the input reads as it did. -/
def fnExactNeedOfUptoRow : OpenClaim := { program := "ythoaacgmpmdjnab", sum := "2c899d6b47bc3a0c859f3165ad481359752427885ff610fc440612d3b41cea84", func := "loop.example/dualmodes/laws.FnExactNeedOf", spec := "fnExactNeedOf", apart := false, narrowed := true }
def FnExactNeedOfUptoSaid : Prop := fnExactNeedOfUptoRow.holds Try.pinned (OpenSpec.upto fnExactNeedOfSpec)

/-- 'laws.FnExactPutJob', WHERE WHAT IT READS IS OF BULK AT MOST 1048576: true; the input reads as it did. -/
def fnExactPutJobUptoRow : OpenClaim := { program := "ythoaacgmpmdjnab", sum := "2c899d6b47bc3a0c859f3165ad481359752427885ff610fc440612d3b41cea84", func := "loop.example/dualmodes/laws.FnExactPutJob", spec := "fnExactPutJob", inPlace := ["slices.overlaps[loop.example/dualmodes/impl.Job]"], unfollowed := true, recurses := true, apart := false, narrowed := true }
def FnExactPutJobUptoSaid : Prop := fnExactPutJobUptoRow.holds Try.pinned (OpenSpec.upto fnExactPutJobSpec)

end Rows
end Go.Proofs.Ythoaacgmpmdjnab
