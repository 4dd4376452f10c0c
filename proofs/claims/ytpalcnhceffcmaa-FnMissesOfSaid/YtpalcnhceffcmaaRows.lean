/-
  No cell of these rows narrows 'for every input' (looked for: loops, veiled, ifaces, maps, wideKeys, modest, calm, conditions, laid).
  DERIVED. THE GIVEN ROWS OF THIS SEAT. 7 by the template 'for every input the law returns true; each argument reads behind the call as it read before'; 0 by the template 'total and deterministic' (their statements: YtpalcnhceffcmaaTotals.lean).
  GIVEN WITH THE SEED: the statements are not yours to turn. If you find one false, say at which input.
  Laid BY PROGRAM, IN A SANDBOX (cutbox-rows.mjs): the forced cells as the released guide's own fill.sh prints them over the translation f871bb4622c1056a… (all of the seat's roots in one cut). By AI agents, Wed Nov 11 2026. No macro, syntax, notation, axiom, sorry.
-/
import Derived.Test.YtpalcnhceffcmaaChecked
import GoSem.Claim
import GoSem.ClaimJoined
import GoSem.ClaimMapViews
import Derived.JoinedTies
import Derived.KernelRfl
namespace Go.Proofs.Ytpalcnhceffcmaa
/- THE CELL 'sum', in the pinned program and in every row, IS THE sha256 OF THE DUMP (.gsa) THAT YtpalcnhceffcmaaProg.lean LOADS. Nothing in Lean hashes anything: it is a label: what it is worth is what the hold of that sum in a sandbox is worth. -/
noncomputable def Try.pinned : Pinned := { name := "ytpalcnhceffcmaa", sum := "f871bb4622c1056a51d74cb42c499e36b9f6fb5b56343b537a0db9dde44b42ab", checked := Try.checked }
namespace Rows
def none {H : Type} : Left H := { results := [], args := [] }

/-- 'laws.FnMissesOf': WHATEVER THE INPUT: true; the input reads as it did. -/
def fnMissesOfSpec : ChangeSpec := { name := "fnMissesOf", fn := fun _ => fun
  | [d] => { results := [.lit (.bool true)], args := [d] }
  | _ => none }
def fnMissesOfRow : OpenClaim := { program := "ytpalcnhceffcmaa", sum := "f871bb4622c1056a51d74cb42c499e36b9f6fb5b56343b537a0db9dde44b42ab", func := "loop.example/dualmodes/laws.FnMissesOf", spec := "fnMissesOf", unfollowed := true, recurses := true, apart := false }
def FnMissesOfSaid : Prop := fnMissesOfRow.holds Try.pinned (OpenSpec.ofChange fnMissesOfSpec)

/-- ITS FALSE NEIGHBOUR: 'it returns false'. Refute it at one input. -/
def fnMissesOfWrong : ChangeSpec := { name := "fnMissesOf", fn := fun _ => fun
  | [d] => { results := [.lit (.bool false)], args := [d] }
  | _ => none }
def FnMissesOfWrongFalsely : Prop := fnMissesOfRow.holds Try.pinned (OpenSpec.ofChange fnMissesOfWrong)

/-- 'laws.FnDroppedOf': WHATEVER THE INPUT: true; the input reads as it did. -/
def fnDroppedOfSpec : ChangeSpec := { name := "fnDroppedOf", fn := fun _ => fun
  | [d] => { results := [.lit (.bool true)], args := [d] }
  | _ => none }
def fnDroppedOfRow : OpenClaim := { program := "ytpalcnhceffcmaa", sum := "f871bb4622c1056a51d74cb42c499e36b9f6fb5b56343b537a0db9dde44b42ab", func := "loop.example/dualmodes/laws.FnDroppedOf", spec := "fnDroppedOf", unfollowed := true, recurses := true, apart := false }
def FnDroppedOfSaid : Prop := fnDroppedOfRow.holds Try.pinned (OpenSpec.ofChange fnDroppedOfSpec)

/-- ITS FALSE NEIGHBOUR: 'it returns false'. Refute it at one input. -/
def fnDroppedOfWrong : ChangeSpec := { name := "fnDroppedOf", fn := fun _ => fun
  | [d] => { results := [.lit (.bool false)], args := [d] }
  | _ => none }
def FnDroppedOfWrongFalsely : Prop := fnDroppedOfRow.holds Try.pinned (OpenSpec.ofChange fnDroppedOfWrong)

/-- 'laws.FnLongestOf': WHATEVER THE INPUT: true; the input reads as it did. -/
def fnLongestOfSpec : ChangeSpec := { name := "fnLongestOf", fn := fun _ => fun
  | [d] => { results := [.lit (.bool true)], args := [d] }
  | _ => none }
def fnLongestOfRow : OpenClaim := { program := "ytpalcnhceffcmaa", sum := "f871bb4622c1056a51d74cb42c499e36b9f6fb5b56343b537a0db9dde44b42ab", func := "loop.example/dualmodes/laws.FnLongestOf", spec := "fnLongestOf", apart := false }
def FnLongestOfSaid : Prop := fnLongestOfRow.holds Try.pinned (OpenSpec.ofChange fnLongestOfSpec)

/-- ITS FALSE NEIGHBOUR: 'it returns false'. Refute it at one input. -/
def fnLongestOfWrong : ChangeSpec := { name := "fnLongestOf", fn := fun _ => fun
  | [d] => { results := [.lit (.bool false)], args := [d] }
  | _ => none }
def FnLongestOfWrongFalsely : Prop := fnLongestOfRow.holds Try.pinned (OpenSpec.ofChange fnLongestOfWrong)

/-- 'laws.FnRanOf': WHATEVER THE INPUT: true; the input reads as it did. -/
def fnRanOfSpec : ChangeSpec := { name := "fnRanOf", fn := fun _ => fun
  | [d] => { results := [.lit (.bool true)], args := [d] }
  | _ => none }
def fnRanOfRow : OpenClaim := { program := "ytpalcnhceffcmaa", sum := "f871bb4622c1056a51d74cb42c499e36b9f6fb5b56343b537a0db9dde44b42ab", func := "loop.example/dualmodes/laws.FnRanOf", spec := "fnRanOf", apart := false }
def FnRanOfSaid : Prop := fnRanOfRow.holds Try.pinned (OpenSpec.ofChange fnRanOfSpec)

/-- ITS FALSE NEIGHBOUR: 'it returns false'. Refute it at one input. -/
def fnRanOfWrong : ChangeSpec := { name := "fnRanOf", fn := fun _ => fun
  | [d] => { results := [.lit (.bool false)], args := [d] }
  | _ => none }
def FnRanOfWrongFalsely : Prop := fnRanOfRow.holds Try.pinned (OpenSpec.ofChange fnRanOfWrong)

/-- 'laws.FnFormatTrace': WHATEVER THE INPUT: true; the input reads as it did. -/
def fnFormatTraceSpec : ChangeSpec := { name := "fnFormatTrace", fn := fun _ => fun
  | [d] => { results := [.lit (.bool true)], args := [d] }
  | _ => none }
def fnFormatTraceRow : OpenClaim := { program := "ytpalcnhceffcmaa", sum := "f871bb4622c1056a51d74cb42c499e36b9f6fb5b56343b537a0db9dde44b42ab", func := "loop.example/dualmodes/laws.FnFormatTrace", spec := "fnFormatTrace", apart := false }
def FnFormatTraceSaid : Prop := fnFormatTraceRow.holds Try.pinned (OpenSpec.ofChange fnFormatTraceSpec)

/-- ITS FALSE NEIGHBOUR: 'it returns false'. Refute it at one input. -/
def fnFormatTraceWrong : ChangeSpec := { name := "fnFormatTrace", fn := fun _ => fun
  | [d] => { results := [.lit (.bool false)], args := [d] }
  | _ => none }
def FnFormatTraceWrongFalsely : Prop := fnFormatTraceRow.holds Try.pinned (OpenSpec.ofChange fnFormatTraceWrong)

/-- 'laws.FnRunSame': WHATEVER THE INPUT: true; the input reads as it did. -/
def fnRunSameSpec : ChangeSpec := { name := "fnRunSame", fn := fun _ => fun
  | [d] => { results := [.lit (.bool true)], args := [d] }
  | _ => none }
def fnRunSameRow : OpenClaim := { program := "ytpalcnhceffcmaa", sum := "f871bb4622c1056a51d74cb42c499e36b9f6fb5b56343b537a0db9dde44b42ab", func := "loop.example/dualmodes/laws.FnRunSame", spec := "fnRunSame", apart := false }
def FnRunSameSaid : Prop := fnRunSameRow.holds Try.pinned (OpenSpec.ofChange fnRunSameSpec)

/-- ITS FALSE NEIGHBOUR: 'it returns false'. Refute it at one input. -/
def fnRunSameWrong : ChangeSpec := { name := "fnRunSame", fn := fun _ => fun
  | [d] => { results := [.lit (.bool false)], args := [d] }
  | _ => none }
def FnRunSameWrongFalsely : Prop := fnRunSameRow.holds Try.pinned (OpenSpec.ofChange fnRunSameWrong)

/-- 'laws.FnLongestNeed': WHATEVER THE INPUT: true; the input reads as it did. -/
def fnLongestNeedSpec : ChangeSpec := { name := "fnLongestNeed", fn := fun _ => fun
  | [d] => { results := [.lit (.bool true)], args := [d] }
  | _ => none }
def fnLongestNeedRow : OpenClaim := { program := "ytpalcnhceffcmaa", sum := "f871bb4622c1056a51d74cb42c499e36b9f6fb5b56343b537a0db9dde44b42ab", func := "loop.example/dualmodes/laws.FnLongestNeed", spec := "fnLongestNeed", unfollowed := true, recurses := true, apart := false }
def FnLongestNeedSaid : Prop := fnLongestNeedRow.holds Try.pinned (OpenSpec.ofChange fnLongestNeedSpec)

/-- ITS FALSE NEIGHBOUR: 'it returns false'. Refute it at one input. -/
def fnLongestNeedWrong : ChangeSpec := { name := "fnLongestNeed", fn := fun _ => fun
  | [d] => { results := [.lit (.bool false)], args := [d] }
  | _ => none }
def FnLongestNeedWrongFalsely : Prop := fnLongestNeedRow.holds Try.pinned (OpenSpec.ofChange fnLongestNeedWrong)

/- THE SECOND FORM. 'bulk': how many values and letters a reading holds, each counted each time it is reached (what is shared counts as often as it is met; a slice's spare places count too). A statement '..UptoSaid' is the law's where the arguments, and the package variables that the reading takes, are together of bulk at most 1048576: NARROWER than '..Said'. Prove '..Said' where nothing that the law and all that it calls make is longer than what came in: it says more and counts as full. Else prove '..UptoSaid'. A law counts once. -/
mutual
def uptoBulk {H : Type} : DataW H → Nat
  | .lit (.string bytes) => bytes.length + 1
  | .lit _ => 1
  | .nil => 1
  | .ptr d => uptoBulk d + 1
  | .slice elems spare => uptoBulkAll elems + uptoBulkAll spare + 1
  | .agg parts => uptoBulkAll parts + 1
  | .iface _ d => uptoBulk d + 1
  | .map entries => uptoBulkEntries entries + 1
  | .held _ => 1
def uptoBulkAll {H : Type} : List (DataW H) → Nat
  | [] => 0
  | d :: r => uptoBulk d + uptoBulkAll r
def uptoBulkEntries {H : Type} : List (Lit × DataW H) → Nat
  | [] => 0
  | x :: r => uptoBulkEntry x + uptoBulkEntries r
def uptoBulkEntry {H : Type} : Lit × DataW H → Nat
  | (.string bytes, d) => bytes.length + uptoBulk d + 1
  | (_, d) => uptoBulk d + 1
 end
def uptoSmall : (H : Type) → List (DataW H) → Bool := fun _ ds => decide (uptoBulkAll ds ≤ 1048576)
def OpenSpec.upto (s : _root_.Go.ChangeSpec) : _root_.Go.OpenSpec := { _root_.Go.OpenSpec.ofChange s with cond := some uptoSmall }

/-- 'laws.FnMissesOf', WHERE WHAT IT READS IS OF BULK AT MOST 1048576: true; the input reads as it did. -/
def fnMissesOfUptoRow : OpenClaim := { program := "ytpalcnhceffcmaa", sum := "f871bb4622c1056a51d74cb42c499e36b9f6fb5b56343b537a0db9dde44b42ab", func := "loop.example/dualmodes/laws.FnMissesOf", spec := "fnMissesOf", unfollowed := true, recurses := true, apart := false, narrowed := true }
def FnMissesOfUptoSaid : Prop := fnMissesOfUptoRow.holds Try.pinned (OpenSpec.upto fnMissesOfSpec)

/-- 'laws.FnDroppedOf', WHERE WHAT IT READS IS OF BULK AT MOST 1048576: true; the input reads as it did. -/
def fnDroppedOfUptoRow : OpenClaim := { program := "ytpalcnhceffcmaa", sum := "f871bb4622c1056a51d74cb42c499e36b9f6fb5b56343b537a0db9dde44b42ab", func := "loop.example/dualmodes/laws.FnDroppedOf", spec := "fnDroppedOf", unfollowed := true, recurses := true, apart := false, narrowed := true }
def FnDroppedOfUptoSaid : Prop := fnDroppedOfUptoRow.holds Try.pinned (OpenSpec.upto fnDroppedOfSpec)

/-- 'laws.FnLongestOf', WHERE WHAT IT READS IS OF BULK AT MOST 1048576: true; the input reads as it did. -/
def fnLongestOfUptoRow : OpenClaim := { program := "ytpalcnhceffcmaa", sum := "f871bb4622c1056a51d74cb42c499e36b9f6fb5b56343b537a0db9dde44b42ab", func := "loop.example/dualmodes/laws.FnLongestOf", spec := "fnLongestOf", apart := false, narrowed := true }
def FnLongestOfUptoSaid : Prop := fnLongestOfUptoRow.holds Try.pinned (OpenSpec.upto fnLongestOfSpec)

/-- 'laws.FnRanOf', WHERE WHAT IT READS IS OF BULK AT MOST 1048576: true; the input reads as it did. -/
def fnRanOfUptoRow : OpenClaim := { program := "ytpalcnhceffcmaa", sum := "f871bb4622c1056a51d74cb42c499e36b9f6fb5b56343b537a0db9dde44b42ab", func := "loop.example/dualmodes/laws.FnRanOf", spec := "fnRanOf", apart := false, narrowed := true }
def FnRanOfUptoSaid : Prop := fnRanOfUptoRow.holds Try.pinned (OpenSpec.upto fnRanOfSpec)

/-- 'laws.FnFormatTrace', WHERE WHAT IT READS IS OF BULK AT MOST 1048576: true; the input reads as it did. -/
def fnFormatTraceUptoRow : OpenClaim := { program := "ytpalcnhceffcmaa", sum := "f871bb4622c1056a51d74cb42c499e36b9f6fb5b56343b537a0db9dde44b42ab", func := "loop.example/dualmodes/laws.FnFormatTrace", spec := "fnFormatTrace", apart := false, narrowed := true }
def FnFormatTraceUptoSaid : Prop := fnFormatTraceUptoRow.holds Try.pinned (OpenSpec.upto fnFormatTraceSpec)

/-- 'laws.FnRunSame', WHERE WHAT IT READS IS OF BULK AT MOST 1048576: true; the input reads as it did. -/
def fnRunSameUptoRow : OpenClaim := { program := "ytpalcnhceffcmaa", sum := "f871bb4622c1056a51d74cb42c499e36b9f6fb5b56343b537a0db9dde44b42ab", func := "loop.example/dualmodes/laws.FnRunSame", spec := "fnRunSame", apart := false, narrowed := true }
def FnRunSameUptoSaid : Prop := fnRunSameUptoRow.holds Try.pinned (OpenSpec.upto fnRunSameSpec)

/-- 'laws.FnLongestNeed', WHERE WHAT IT READS IS OF BULK AT MOST 1048576: true; the input reads as it did. -/
def fnLongestNeedUptoRow : OpenClaim := { program := "ytpalcnhceffcmaa", sum := "f871bb4622c1056a51d74cb42c499e36b9f6fb5b56343b537a0db9dde44b42ab", func := "loop.example/dualmodes/laws.FnLongestNeed", spec := "fnLongestNeed", unfollowed := true, recurses := true, apart := false, narrowed := true }
def FnLongestNeedUptoSaid : Prop := fnLongestNeedUptoRow.holds Try.pinned (OpenSpec.upto fnLongestNeedSpec)

end Rows
end Go.Proofs.Ytpalcnhceffcmaa
