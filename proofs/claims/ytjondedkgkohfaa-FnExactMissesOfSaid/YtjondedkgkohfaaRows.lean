/-
  No cell of these rows narrows 'for every input' (looked for: loops, veiled, ifaces, maps, wideKeys, modest, calm, conditions, laid).
  DERIVED. THE GIVEN ROWS OF THIS SEAT. 14 by the template 'for every input the law returns true; each argument reads behind the call as it read before'; 0 by the template 'total and deterministic' (their statements: YtjondedkgkohfaaTotals.lean).
  GIVEN WITH THE SEED: the statements are not yours to turn. If you find one false, say at which input.
  Laid BY PROGRAM, IN A SANDBOX (cutbox-rows.mjs): the forced cells as the released guide's own fill.sh prints them over the translation a55afef1b636dda8… (all of the seat's roots in one cut). By AI agents, Wed Nov 11 2026. No macro, syntax, notation, axiom, sorry.
-/
import Derived.Test.YtjondedkgkohfaaChecked
import GoSem.Claim
import GoSem.ClaimJoined
import GoSem.ClaimMapViews
import Derived.JoinedTies
import Derived.KernelRfl
namespace Go.Proofs.Ytjondedkgkohfaa
/- THE CELL 'sum', in the pinned program and in every row, IS THE sha256 OF THE DUMP (.gsa) THAT YtjondedkgkohfaaProg.lean LOADS. Nothing in Lean hashes anything: it is a label: what it is worth is what the hold of that sum in a sandbox is worth. -/
noncomputable def Try.pinned : Pinned := { name := "ytjondedkgkohfaa", sum := "a55afef1b636dda80c54417279668459c0139d01c72fb9347c3f87229d17bcb2", checked := Try.checked }
namespace Rows
def none {H : Type} : Left H := { results := [], args := [] }

/-- 'laws.FnMissesOf': WHATEVER THE INPUT: true; the input reads as it did. -/
def fnMissesOfSpec : ChangeSpec := { name := "fnMissesOf", fn := fun _ => fun
  | [d] => { results := [.lit (.bool true)], args := [d] }
  | _ => none }
def fnMissesOfRow : OpenClaim := { program := "ytjondedkgkohfaa", sum := "a55afef1b636dda80c54417279668459c0139d01c72fb9347c3f87229d17bcb2", func := "loop.example/dualmodes/laws.FnMissesOf", spec := "fnMissesOf", unfollowed := true, recurses := true, apart := false }
def FnMissesOfSaid : Prop := fnMissesOfRow.holds Try.pinned (OpenSpec.ofChange fnMissesOfSpec)

/-- ITS FALSE NEIGHBOUR: 'it returns false'. Refute it at one input. -/
def fnMissesOfWrong : ChangeSpec := { name := "fnMissesOf", fn := fun _ => fun
  | [d] => { results := [.lit (.bool false)], args := [d] }
  | _ => none }
def FnMissesOfWrongFalsely : Prop := fnMissesOfRow.holds Try.pinned (OpenSpec.ofChange fnMissesOfWrong)

/-- 'laws.FnDroppedOf': WHATEVER THE INPUT: true; the input reads as it did. -/
def fnDroppedOfSpec : ChangeSpec := { name := "fnDroppedOf", fn := fun _ => fun
  | [d] => { results := [.lit (.bool true)], args := [d] }
  | _ => none }
def fnDroppedOfRow : OpenClaim := { program := "ytjondedkgkohfaa", sum := "a55afef1b636dda80c54417279668459c0139d01c72fb9347c3f87229d17bcb2", func := "loop.example/dualmodes/laws.FnDroppedOf", spec := "fnDroppedOf", unfollowed := true, recurses := true, apart := false }
def FnDroppedOfSaid : Prop := fnDroppedOfRow.holds Try.pinned (OpenSpec.ofChange fnDroppedOfSpec)

/-- ITS FALSE NEIGHBOUR: 'it returns false'. Refute it at one input. -/
def fnDroppedOfWrong : ChangeSpec := { name := "fnDroppedOf", fn := fun _ => fun
  | [d] => { results := [.lit (.bool false)], args := [d] }
  | _ => none }
def FnDroppedOfWrongFalsely : Prop := fnDroppedOfRow.holds Try.pinned (OpenSpec.ofChange fnDroppedOfWrong)

/-- 'laws.FnLongestOf': WHATEVER THE INPUT: true; the input reads as it did. -/
def fnLongestOfSpec : ChangeSpec := { name := "fnLongestOf", fn := fun _ => fun
  | [d] => { results := [.lit (.bool true)], args := [d] }
  | _ => none }
def fnLongestOfRow : OpenClaim := { program := "ytjondedkgkohfaa", sum := "a55afef1b636dda80c54417279668459c0139d01c72fb9347c3f87229d17bcb2", func := "loop.example/dualmodes/laws.FnLongestOf", spec := "fnLongestOf", apart := false }
def FnLongestOfSaid : Prop := fnLongestOfRow.holds Try.pinned (OpenSpec.ofChange fnLongestOfSpec)

/-- ITS FALSE NEIGHBOUR: 'it returns false'. Refute it at one input. -/
def fnLongestOfWrong : ChangeSpec := { name := "fnLongestOf", fn := fun _ => fun
  | [d] => { results := [.lit (.bool false)], args := [d] }
  | _ => none }
def FnLongestOfWrongFalsely : Prop := fnLongestOfRow.holds Try.pinned (OpenSpec.ofChange fnLongestOfWrong)

/-- 'laws.FnRanOf': WHATEVER THE INPUT: true; the input reads as it did. -/
def fnRanOfSpec : ChangeSpec := { name := "fnRanOf", fn := fun _ => fun
  | [d] => { results := [.lit (.bool true)], args := [d] }
  | _ => none }
def fnRanOfRow : OpenClaim := { program := "ytjondedkgkohfaa", sum := "a55afef1b636dda80c54417279668459c0139d01c72fb9347c3f87229d17bcb2", func := "loop.example/dualmodes/laws.FnRanOf", spec := "fnRanOf", apart := false }
def FnRanOfSaid : Prop := fnRanOfRow.holds Try.pinned (OpenSpec.ofChange fnRanOfSpec)

/-- ITS FALSE NEIGHBOUR: 'it returns false'. Refute it at one input. -/
def fnRanOfWrong : ChangeSpec := { name := "fnRanOf", fn := fun _ => fun
  | [d] => { results := [.lit (.bool false)], args := [d] }
  | _ => none }
def FnRanOfWrongFalsely : Prop := fnRanOfRow.holds Try.pinned (OpenSpec.ofChange fnRanOfWrong)

/-- 'laws.FnFormatTrace': WHATEVER THE INPUT: true; the input reads as it did. -/
def fnFormatTraceSpec : ChangeSpec := { name := "fnFormatTrace", fn := fun _ => fun
  | [d] => { results := [.lit (.bool true)], args := [d] }
  | _ => none }
def fnFormatTraceRow : OpenClaim := { program := "ytjondedkgkohfaa", sum := "a55afef1b636dda80c54417279668459c0139d01c72fb9347c3f87229d17bcb2", func := "loop.example/dualmodes/laws.FnFormatTrace", spec := "fnFormatTrace", apart := false }
def FnFormatTraceSaid : Prop := fnFormatTraceRow.holds Try.pinned (OpenSpec.ofChange fnFormatTraceSpec)

/-- ITS FALSE NEIGHBOUR: 'it returns false'. Refute it at one input. -/
def fnFormatTraceWrong : ChangeSpec := { name := "fnFormatTrace", fn := fun _ => fun
  | [d] => { results := [.lit (.bool false)], args := [d] }
  | _ => none }
def FnFormatTraceWrongFalsely : Prop := fnFormatTraceRow.holds Try.pinned (OpenSpec.ofChange fnFormatTraceWrong)

/-- 'laws.FnRunSame': WHATEVER THE INPUT: true; the input reads as it did. -/
def fnRunSameSpec : ChangeSpec := { name := "fnRunSame", fn := fun _ => fun
  | [d] => { results := [.lit (.bool true)], args := [d] }
  | _ => none }
def fnRunSameRow : OpenClaim := { program := "ytjondedkgkohfaa", sum := "a55afef1b636dda80c54417279668459c0139d01c72fb9347c3f87229d17bcb2", func := "loop.example/dualmodes/laws.FnRunSame", spec := "fnRunSame", apart := false }
def FnRunSameSaid : Prop := fnRunSameRow.holds Try.pinned (OpenSpec.ofChange fnRunSameSpec)

/-- ITS FALSE NEIGHBOUR: 'it returns false'. Refute it at one input. -/
def fnRunSameWrong : ChangeSpec := { name := "fnRunSame", fn := fun _ => fun
  | [d] => { results := [.lit (.bool false)], args := [d] }
  | _ => none }
def FnRunSameWrongFalsely : Prop := fnRunSameRow.holds Try.pinned (OpenSpec.ofChange fnRunSameWrong)

/-- 'laws.FnLongestNeed': WHATEVER THE INPUT: true; the input reads as it did. -/
def fnLongestNeedSpec : ChangeSpec := { name := "fnLongestNeed", fn := fun _ => fun
  | [d] => { results := [.lit (.bool true)], args := [d] }
  | _ => none }
def fnLongestNeedRow : OpenClaim := { program := "ytjondedkgkohfaa", sum := "a55afef1b636dda80c54417279668459c0139d01c72fb9347c3f87229d17bcb2", func := "loop.example/dualmodes/laws.FnLongestNeed", spec := "fnLongestNeed", unfollowed := true, recurses := true, apart := false }
def FnLongestNeedSaid : Prop := fnLongestNeedRow.holds Try.pinned (OpenSpec.ofChange fnLongestNeedSpec)

/-- ITS FALSE NEIGHBOUR: 'it returns false'. Refute it at one input. -/
def fnLongestNeedWrong : ChangeSpec := { name := "fnLongestNeed", fn := fun _ => fun
  | [d] => { results := [.lit (.bool false)], args := [d] }
  | _ => none }
def FnLongestNeedWrongFalsely : Prop := fnLongestNeedRow.holds Try.pinned (OpenSpec.ofChange fnLongestNeedWrong)

/-- 'laws.FnExactRunSame': WHATEVER THE INPUT: true; the input reads as it did. -/
def fnExactRunSameSpec : ChangeSpec := { name := "fnExactRunSame", fn := fun _ => fun
  | [d1, d2] => { results := [.lit (.bool true)], args := [d1, d2] }
  | _ => none }
def fnExactRunSameRow : OpenClaim := { program := "ytjondedkgkohfaa", sum := "a55afef1b636dda80c54417279668459c0139d01c72fb9347c3f87229d17bcb2", func := "loop.example/dualmodes/laws.FnExactRunSame", spec := "fnExactRunSame", apart := false }
def FnExactRunSameSaid : Prop := fnExactRunSameRow.holds Try.pinned (OpenSpec.ofChange fnExactRunSameSpec)

/-- ITS FALSE NEIGHBOUR: 'it returns false'. Refute it at one input. -/
def fnExactRunSameWrong : ChangeSpec := { name := "fnExactRunSame", fn := fun _ => fun
  | [d1, d2] => { results := [.lit (.bool false)], args := [d1, d2] }
  | _ => none }
def FnExactRunSameWrongFalsely : Prop := fnExactRunSameRow.holds Try.pinned (OpenSpec.ofChange fnExactRunSameWrong)

/-- 'laws.FnExactFormatTrace': WHATEVER THE INPUT: true; the input reads as it did. -/
def fnExactFormatTraceSpec : ChangeSpec := { name := "fnExactFormatTrace", fn := fun _ => fun
  | [d] => { results := [.lit (.bool true)], args := [d] }
  | _ => none }
def fnExactFormatTraceRow : OpenClaim := { program := "ytjondedkgkohfaa", sum := "a55afef1b636dda80c54417279668459c0139d01c72fb9347c3f87229d17bcb2", func := "loop.example/dualmodes/laws.FnExactFormatTrace", spec := "fnExactFormatTrace", apart := false }
def FnExactFormatTraceSaid : Prop := fnExactFormatTraceRow.holds Try.pinned (OpenSpec.ofChange fnExactFormatTraceSpec)

/-- ITS FALSE NEIGHBOUR: 'it returns false'. Refute it at one input. -/
def fnExactFormatTraceWrong : ChangeSpec := { name := "fnExactFormatTrace", fn := fun _ => fun
  | [d] => { results := [.lit (.bool false)], args := [d] }
  | _ => none }
def FnExactFormatTraceWrongFalsely : Prop := fnExactFormatTraceRow.holds Try.pinned (OpenSpec.ofChange fnExactFormatTraceWrong)

/-- 'laws.FnExactMissesOf': WHATEVER THE INPUT: true; the input reads as it did. -/
def fnExactMissesOfSpec : ChangeSpec := { name := "fnExactMissesOf", fn := fun _ => fun
  | [d1, d2, d3] => { results := [.lit (.bool true)], args := [d1, d2, d3] }
  | _ => none }
def fnExactMissesOfRow : OpenClaim := { program := "ytjondedkgkohfaa", sum := "a55afef1b636dda80c54417279668459c0139d01c72fb9347c3f87229d17bcb2", func := "loop.example/dualmodes/laws.FnExactMissesOf", spec := "fnExactMissesOf", unfollowed := true, recurses := true, apart := false }
def FnExactMissesOfSaid : Prop := fnExactMissesOfRow.holds Try.pinned (OpenSpec.ofChange fnExactMissesOfSpec)

/-- ITS FALSE NEIGHBOUR: 'it returns false'. Refute it at one input. -/
def fnExactMissesOfWrong : ChangeSpec := { name := "fnExactMissesOf", fn := fun _ => fun
  | [d1, d2, d3] => { results := [.lit (.bool false)], args := [d1, d2, d3] }
  | _ => none }
def FnExactMissesOfWrongFalsely : Prop := fnExactMissesOfRow.holds Try.pinned (OpenSpec.ofChange fnExactMissesOfWrong)

/-- 'laws.FnExactDroppedOf': WHATEVER THE INPUT: true; the input reads as it did. -/
def fnExactDroppedOfSpec : ChangeSpec := { name := "fnExactDroppedOf", fn := fun _ => fun
  | [d] => { results := [.lit (.bool true)], args := [d] }
  | _ => none }
def fnExactDroppedOfRow : OpenClaim := { program := "ytjondedkgkohfaa", sum := "a55afef1b636dda80c54417279668459c0139d01c72fb9347c3f87229d17bcb2", func := "loop.example/dualmodes/laws.FnExactDroppedOf", spec := "fnExactDroppedOf", unfollowed := true, recurses := true, apart := false }
def FnExactDroppedOfSaid : Prop := fnExactDroppedOfRow.holds Try.pinned (OpenSpec.ofChange fnExactDroppedOfSpec)

/-- ITS FALSE NEIGHBOUR: 'it returns false'. Refute it at one input. -/
def fnExactDroppedOfWrong : ChangeSpec := { name := "fnExactDroppedOf", fn := fun _ => fun
  | [d] => { results := [.lit (.bool false)], args := [d] }
  | _ => none }
def FnExactDroppedOfWrongFalsely : Prop := fnExactDroppedOfRow.holds Try.pinned (OpenSpec.ofChange fnExactDroppedOfWrong)

/-- 'laws.FnExactLongestOf': WHATEVER THE INPUT: true; the input reads as it did. -/
def fnExactLongestOfSpec : ChangeSpec := { name := "fnExactLongestOf", fn := fun _ => fun
  | [d1, d2, d3] => { results := [.lit (.bool true)], args := [d1, d2, d3] }
  | _ => none }
def fnExactLongestOfRow : OpenClaim := { program := "ytjondedkgkohfaa", sum := "a55afef1b636dda80c54417279668459c0139d01c72fb9347c3f87229d17bcb2", func := "loop.example/dualmodes/laws.FnExactLongestOf", spec := "fnExactLongestOf", apart := false }
def FnExactLongestOfSaid : Prop := fnExactLongestOfRow.holds Try.pinned (OpenSpec.ofChange fnExactLongestOfSpec)

/-- ITS FALSE NEIGHBOUR: 'it returns false'. Refute it at one input. -/
def fnExactLongestOfWrong : ChangeSpec := { name := "fnExactLongestOf", fn := fun _ => fun
  | [d1, d2, d3] => { results := [.lit (.bool false)], args := [d1, d2, d3] }
  | _ => none }
def FnExactLongestOfWrongFalsely : Prop := fnExactLongestOfRow.holds Try.pinned (OpenSpec.ofChange fnExactLongestOfWrong)

/-- 'laws.FnExactIdleOf': WHATEVER THE INPUT: true; the input reads as it did. -/
def fnExactIdleOfSpec : ChangeSpec := { name := "fnExactIdleOf", fn := fun _ => fun
  | [d] => { results := [.lit (.bool true)], args := [d] }
  | _ => none }
def fnExactIdleOfRow : OpenClaim := { program := "ytjondedkgkohfaa", sum := "a55afef1b636dda80c54417279668459c0139d01c72fb9347c3f87229d17bcb2", func := "loop.example/dualmodes/laws.FnExactIdleOf", spec := "fnExactIdleOf", apart := false }
def FnExactIdleOfSaid : Prop := fnExactIdleOfRow.holds Try.pinned (OpenSpec.ofChange fnExactIdleOfSpec)

/-- ITS FALSE NEIGHBOUR: 'it returns false'. Refute it at one input. -/
def fnExactIdleOfWrong : ChangeSpec := { name := "fnExactIdleOf", fn := fun _ => fun
  | [d] => { results := [.lit (.bool false)], args := [d] }
  | _ => none }
def FnExactIdleOfWrongFalsely : Prop := fnExactIdleOfRow.holds Try.pinned (OpenSpec.ofChange fnExactIdleOfWrong)

/-- 'laws.FnExactRanOf': WHATEVER THE INPUT: true; the input reads as it did. -/
def fnExactRanOfSpec : ChangeSpec := { name := "fnExactRanOf", fn := fun _ => fun
  | [d1, d2] => { results := [.lit (.bool true)], args := [d1, d2] }
  | _ => none }
def fnExactRanOfRow : OpenClaim := { program := "ytjondedkgkohfaa", sum := "a55afef1b636dda80c54417279668459c0139d01c72fb9347c3f87229d17bcb2", func := "loop.example/dualmodes/laws.FnExactRanOf", spec := "fnExactRanOf", apart := false }
def FnExactRanOfSaid : Prop := fnExactRanOfRow.holds Try.pinned (OpenSpec.ofChange fnExactRanOfSpec)

/-- ITS FALSE NEIGHBOUR: 'it returns false'. Refute it at one input. -/
def fnExactRanOfWrong : ChangeSpec := { name := "fnExactRanOf", fn := fun _ => fun
  | [d1, d2] => { results := [.lit (.bool false)], args := [d1, d2] }
  | _ => none }
def FnExactRanOfWrongFalsely : Prop := fnExactRanOfRow.holds Try.pinned (OpenSpec.ofChange fnExactRanOfWrong)

/- THE SECOND FORM. 'bulk': how many values and letters a reading holds, each counted each time it is reached (what is shared counts as often as it is met; a slice's spare places count too). A statement '..UptoSaid' is the law's where the arguments, and the package variables that the reading takes, are together of bulk at most 1048576: NARROWER than '..Said'. Prove '..Said' where nothing that the law and all that it calls make is longer than what came in: it says more and counts as full. Else prove '..UptoSaid'. A law counts once. -/
mutual
def uptoBulk {H : Type} : DataW H → Nat
  | .lit (.string bytes) => bytes.length + 1
  | .lit _ => 1
  | .nil => 1
  | .ptr d => uptoBulk d + 1
  | .slice elems spare => uptoBulkAll elems + uptoBulkAll spare + 1
  | .agg parts => uptoBulkAll parts + 1
  | .iface _ d => uptoBulk d + 1
  | .map entries => uptoBulkEntries entries + 1
  | .held _ => 1
def uptoBulkAll {H : Type} : List (DataW H) → Nat
  | [] => 0
  | d :: r => uptoBulk d + uptoBulkAll r
def uptoBulkEntries {H : Type} : List (Lit × DataW H) → Nat
  | [] => 0
  | x :: r => uptoBulkEntry x + uptoBulkEntries r
def uptoBulkEntry {H : Type} : Lit × DataW H → Nat
  | (.string bytes, d) => bytes.length + uptoBulk d + 1
  | (_, d) => uptoBulk d + 1
 end
def uptoSmall : (H : Type) → List (DataW H) → Bool := fun _ ds => decide (uptoBulkAll ds ≤ 1048576)
def OpenSpec.upto (s : _root_.Go.ChangeSpec) : _root_.Go.OpenSpec := { _root_.Go.OpenSpec.ofChange s with cond := some uptoSmall }

/-- 'laws.FnMissesOf', WHERE WHAT IT READS IS OF BULK AT MOST 1048576: true; the input reads as it did. -/
def fnMissesOfUptoRow : OpenClaim := { program := "ytjondedkgkohfaa", sum := "a55afef1b636dda80c54417279668459c0139d01c72fb9347c3f87229d17bcb2", func := "loop.example/dualmodes/laws.FnMissesOf", spec := "fnMissesOf", unfollowed := true, recurses := true, apart := false, narrowed := true }
def FnMissesOfUptoSaid : Prop := fnMissesOfUptoRow.holds Try.pinned (OpenSpec.upto fnMissesOfSpec)

/-- 'laws.FnDroppedOf', WHERE WHAT IT READS IS OF BULK AT MOST 1048576: true; the input reads as it did. -/
def fnDroppedOfUptoRow : OpenClaim := { program := "ytjondedkgkohfaa", sum := "a55afef1b636dda80c54417279668459c0139d01c72fb9347c3f87229d17bcb2", func := "loop.example/dualmodes/laws.FnDroppedOf", spec := "fnDroppedOf", unfollowed := true, recurses := true, apart := false, narrowed := true }
def FnDroppedOfUptoSaid : Prop := fnDroppedOfUptoRow.holds Try.pinned (OpenSpec.upto fnDroppedOfSpec)

/-- 'laws.FnLongestOf', WHERE WHAT IT READS IS OF BULK AT MOST 1048576: true; the input reads as it did. -/
def fnLongestOfUptoRow : OpenClaim := { program := "ytjondedkgkohfaa", sum := "a55afef1b636dda80c54417279668459c0139d01c72fb9347c3f87229d17bcb2", func := "loop.example/dualmodes/laws.FnLongestOf", spec := "fnLongestOf", apart := false, narrowed := true }
def FnLongestOfUptoSaid : Prop := fnLongestOfUptoRow.holds Try.pinned (OpenSpec.upto fnLongestOfSpec)

/-- 'laws.FnRanOf', WHERE WHAT IT READS IS OF BULK AT MOST 1048576: true; the input reads as it did. -/
def fnRanOfUptoRow : OpenClaim := { program := "ytjondedkgkohfaa", sum := "a55afef1b636dda80c54417279668459c0139d01c72fb9347c3f87229d17bcb2", func := "loop.example/dualmodes/laws.FnRanOf", spec := "fnRanOf", apart := false, narrowed := true }
def FnRanOfUptoSaid : Prop := fnRanOfUptoRow.holds Try.pinned (OpenSpec.upto fnRanOfSpec)

/-- 'laws.FnFormatTrace', WHERE WHAT IT READS IS OF BULK AT MOST 1048576: true; the input reads as it did. -/
def fnFormatTraceUptoRow : OpenClaim := { program := "ytjondedkgkohfaa", sum := "a55afef1b636dda80c54417279668459c0139d01c72fb9347c3f87229d17bcb2", func := "loop.example/dualmodes/laws.FnFormatTrace", spec := "fnFormatTrace", apart := false, narrowed := true }
def FnFormatTraceUptoSaid : Prop := fnFormatTraceUptoRow.holds Try.pinned (OpenSpec.upto fnFormatTraceSpec)

/-- 'laws.FnRunSame', WHERE WHAT IT READS IS OF BULK AT MOST 1048576: true; the input reads as it did. -/
def fnRunSameUptoRow : OpenClaim := { program := "ytjondedkgkohfaa", sum := "a55afef1b636dda80c54417279668459c0139d01c72fb9347c3f87229d17bcb2", func := "loop.example/dualmodes/laws.FnRunSame", spec := "fnRunSame", apart := false, narrowed := true }
def FnRunSameUptoSaid : Prop := fnRunSameUptoRow.holds Try.pinned (OpenSpec.upto fnRunSameSpec)

/-- 'laws.FnLongestNeed', WHERE WHAT IT READS IS OF BULK AT MOST 1048576: true; the input reads as it did. -/
def fnLongestNeedUptoRow : OpenClaim := { program := "ytjondedkgkohfaa", sum := "a55afef1b636dda80c54417279668459c0139d01c72fb9347c3f87229d17bcb2", func := "loop.example/dualmodes/laws.FnLongestNeed", spec := "fnLongestNeed", unfollowed := true, recurses := true, apart := false, narrowed := true }
def FnLongestNeedUptoSaid : Prop := fnLongestNeedUptoRow.holds Try.pinned (OpenSpec.upto fnLongestNeedSpec)

/-- 'laws.FnExactRunSame', WHERE WHAT IT READS IS OF BULK AT MOST 1048576: true; the input reads as it did. -/
def fnExactRunSameUptoRow : OpenClaim := { program := "ytjondedkgkohfaa", sum := "a55afef1b636dda80c54417279668459c0139d01c72fb9347c3f87229d17bcb2", func := "loop.example/dualmodes/laws.FnExactRunSame", spec := "fnExactRunSame", apart := false, narrowed := true }
def FnExactRunSameUptoSaid : Prop := fnExactRunSameUptoRow.holds Try.pinned (OpenSpec.upto fnExactRunSameSpec)

/-- 'laws.FnExactFormatTrace', WHERE WHAT IT READS IS OF BULK AT MOST 1048576: true; the input reads as it did. -/
def fnExactFormatTraceUptoRow : OpenClaim := { program := "ytjondedkgkohfaa", sum := "a55afef1b636dda80c54417279668459c0139d01c72fb9347c3f87229d17bcb2", func := "loop.example/dualmodes/laws.FnExactFormatTrace", spec := "fnExactFormatTrace", apart := false, narrowed := true }
def FnExactFormatTraceUptoSaid : Prop := fnExactFormatTraceUptoRow.holds Try.pinned (OpenSpec.upto fnExactFormatTraceSpec)

/-- 'laws.FnExactMissesOf', WHERE WHAT IT READS IS OF BULK AT MOST 1048576: true; the input reads as it did. -/
def fnExactMissesOfUptoRow : OpenClaim := { program := "ytjondedkgkohfaa", sum := "a55afef1b636dda80c54417279668459c0139d01c72fb9347c3f87229d17bcb2", func := "loop.example/dualmodes/laws.FnExactMissesOf", spec := "fnExactMissesOf", unfollowed := true, recurses := true, apart := false, narrowed := true }
def FnExactMissesOfUptoSaid : Prop := fnExactMissesOfUptoRow.holds Try.pinned (OpenSpec.upto fnExactMissesOfSpec)

/-- 'laws.FnExactDroppedOf', WHERE WHAT IT READS IS OF BULK AT MOST 1048576: true; the input reads as it did. -/
def fnExactDroppedOfUptoRow : OpenClaim := { program := "ytjondedkgkohfaa", sum := "a55afef1b636dda80c54417279668459c0139d01c72fb9347c3f87229d17bcb2", func := "loop.example/dualmodes/laws.FnExactDroppedOf", spec := "fnExactDroppedOf", unfollowed := true, recurses := true, apart := false, narrowed := true }
def FnExactDroppedOfUptoSaid : Prop := fnExactDroppedOfUptoRow.holds Try.pinned (OpenSpec.upto fnExactDroppedOfSpec)

/-- 'laws.FnExactLongestOf', WHERE WHAT IT READS IS OF BULK AT MOST 1048576: true; the input reads as it did. -/
def fnExactLongestOfUptoRow : OpenClaim := { program := "ytjondedkgkohfaa", sum := "a55afef1b636dda80c54417279668459c0139d01c72fb9347c3f87229d17bcb2", func := "loop.example/dualmodes/laws.FnExactLongestOf", spec := "fnExactLongestOf", apart := false, narrowed := true }
def FnExactLongestOfUptoSaid : Prop := fnExactLongestOfUptoRow.holds Try.pinned (OpenSpec.upto fnExactLongestOfSpec)

/-- 'laws.FnExactIdleOf', WHERE WHAT IT READS IS OF BULK AT MOST 1048576: true; the input reads as it did. -/
def fnExactIdleOfUptoRow : OpenClaim := { program := "ytjondedkgkohfaa", sum := "a55afef1b636dda80c54417279668459c0139d01c72fb9347c3f87229d17bcb2", func := "loop.example/dualmodes/laws.FnExactIdleOf", spec := "fnExactIdleOf", apart := false, narrowed := true }
def FnExactIdleOfUptoSaid : Prop := fnExactIdleOfUptoRow.holds Try.pinned (OpenSpec.upto fnExactIdleOfSpec)

/-- 'laws.FnExactRanOf', WHERE WHAT IT READS IS OF BULK AT MOST 1048576: true; the input reads as it did. -/
def fnExactRanOfUptoRow : OpenClaim := { program := "ytjondedkgkohfaa", sum := "a55afef1b636dda80c54417279668459c0139d01c72fb9347c3f87229d17bcb2", func := "loop.example/dualmodes/laws.FnExactRanOf", spec := "fnExactRanOf", apart := false, narrowed := true }
def FnExactRanOfUptoSaid : Prop := fnExactRanOfUptoRow.holds Try.pinned (OpenSpec.upto fnExactRanOfSpec)

end Rows
end Go.Proofs.Ytjondedkgkohfaa
