/-
  No cell of these rows narrows 'for every input' (looked for: loops, veiled, ifaces, maps, wideKeys, modest, calm, conditions, laid).
  DERIVED. THE GIVEN ROWS OF THIS SEAT. 14 by the template 'for every input the law returns true; each argument reads behind the call as it read before'; 0 by the template 'total and deterministic' (their statements: YtncgchlnaobalaaTotals.lean).
  GIVEN WITH THE SEED: the statements are not yours to turn. If you find one false, say at which input.
  Laid BY PROGRAM, IN A SANDBOX (cutbox-rows.mjs): the forced cells as the released guide's own fill.sh prints them over the translation 00c743deb4944a21… (all of the seat's roots in one cut). By AI agents, Wed Nov 11 2026. No macro, syntax, notation, axiom, sorry.
-/
import Derived.Test.YtncgchlnaobalaaChecked
import GoSem.Claim
import GoSem.ClaimJoined
import GoSem.ClaimMapViews
import Derived.JoinedTies
import Derived.KernelRfl
namespace Go.Proofs.Ytncgchlnaobalaa
/- THE CELL 'sum', in the pinned program and in every row, IS THE sha256 OF THE DUMP (.gsa) THAT YtncgchlnaobalaaProg.lean LOADS. Nothing in Lean hashes anything: it is a label: what it is worth is what the hold of that sum in a sandbox is worth. -/
noncomputable def Try.pinned : Pinned := { name := "ytncgchlnaobalaa", sum := "00c743deb4944a2165cf9c52217c5a494b38eaf583b61f02b80064ecc3bbdcda", checked := Try.checked }
namespace Rows
def none {H : Type} : Left H := { results := [], args := [] }

/-- 'laws.FnDemandOf': WHATEVER THE INPUT: true; the input reads as it did. -/
def fnDemandOfSpec : ChangeSpec := { name := "fnDemandOf", fn := fun _ => fun
  | [d] => { results := [.lit (.bool true)], args := [d] }
  | _ => none }
def fnDemandOfRow : OpenClaim := { program := "ytncgchlnaobalaa", sum := "00c743deb4944a2165cf9c52217c5a494b38eaf583b61f02b80064ecc3bbdcda", func := "loop.example/dualmodes/laws.FnDemandOf", spec := "fnDemandOf", apart := false }
def FnDemandOfSaid : Prop := fnDemandOfRow.holds Try.pinned (OpenSpec.ofChange fnDemandOfSpec)

/-- ITS FALSE NEIGHBOUR: 'it returns false'. Refute it at one input. -/
def fnDemandOfWrong : ChangeSpec := { name := "fnDemandOf", fn := fun _ => fun
  | [d] => { results := [.lit (.bool false)], args := [d] }
  | _ => none }
def FnDemandOfWrongFalsely : Prop := fnDemandOfRow.holds Try.pinned (OpenSpec.ofChange fnDemandOfWrong)

/-- 'laws.FnDemandAdd': WHATEVER THE INPUT: true; the input reads as it did. -/
def fnDemandAddSpec : ChangeSpec := { name := "fnDemandAdd", fn := fun _ => fun
  | [d] => { results := [.lit (.bool true)], args := [d] }
  | _ => none }
def fnDemandAddRow : OpenClaim := { program := "ytncgchlnaobalaa", sum := "00c743deb4944a2165cf9c52217c5a494b38eaf583b61f02b80064ecc3bbdcda", func := "loop.example/dualmodes/laws.FnDemandAdd", spec := "fnDemandAdd", apart := false }
def FnDemandAddSaid : Prop := fnDemandAddRow.holds Try.pinned (OpenSpec.ofChange fnDemandAddSpec)

/-- ITS FALSE NEIGHBOUR: 'it returns false'. Refute it at one input. -/
def fnDemandAddWrong : ChangeSpec := { name := "fnDemandAdd", fn := fun _ => fun
  | [d] => { results := [.lit (.bool false)], args := [d] }
  | _ => none }
def FnDemandAddWrongFalsely : Prop := fnDemandAddRow.holds Try.pinned (OpenSpec.ofChange fnDemandAddWrong)

/-- 'laws.FnDemandOne': WHATEVER THE INPUT: true; the input reads as it did. -/
def fnDemandOneSpec : ChangeSpec := { name := "fnDemandOne", fn := fun _ => fun
  | [d] => { results := [.lit (.bool true)], args := [d] }
  | _ => none }
def fnDemandOneRow : OpenClaim := { program := "ytncgchlnaobalaa", sum := "00c743deb4944a2165cf9c52217c5a494b38eaf583b61f02b80064ecc3bbdcda", func := "loop.example/dualmodes/laws.FnDemandOne", spec := "fnDemandOne", apart := false }
def FnDemandOneSaid : Prop := fnDemandOneRow.holds Try.pinned (OpenSpec.ofChange fnDemandOneSpec)

/-- ITS FALSE NEIGHBOUR: 'it returns false'. Refute it at one input. -/
def fnDemandOneWrong : ChangeSpec := { name := "fnDemandOne", fn := fun _ => fun
  | [d] => { results := [.lit (.bool false)], args := [d] }
  | _ => none }
def FnDemandOneWrongFalsely : Prop := fnDemandOneRow.holds Try.pinned (OpenSpec.ofChange fnDemandOneWrong)

/-- 'laws.FnExactDemandOf': WHATEVER THE INPUT: true; the input reads as it did. -/
def fnExactDemandOfSpec : ChangeSpec := { name := "fnExactDemandOf", fn := fun _ => fun
  | [d1, d2, d3] => { results := [.lit (.bool true)], args := [d1, d2, d3] }
  | _ => none }
def fnExactDemandOfRow : OpenClaim := { program := "ytncgchlnaobalaa", sum := "00c743deb4944a2165cf9c52217c5a494b38eaf583b61f02b80064ecc3bbdcda", func := "loop.example/dualmodes/laws.FnExactDemandOf", spec := "fnExactDemandOf", apart := false }
def FnExactDemandOfSaid : Prop := fnExactDemandOfRow.holds Try.pinned (OpenSpec.ofChange fnExactDemandOfSpec)

/-- ITS FALSE NEIGHBOUR: 'it returns false'. Refute it at one input. -/
def fnExactDemandOfWrong : ChangeSpec := { name := "fnExactDemandOf", fn := fun _ => fun
  | [d1, d2, d3] => { results := [.lit (.bool false)], args := [d1, d2, d3] }
  | _ => none }
def FnExactDemandOfWrongFalsely : Prop := fnExactDemandOfRow.holds Try.pinned (OpenSpec.ofChange fnExactDemandOfWrong)

/-- 'laws.FnResponseLow': WHATEVER THE INPUT: true; the input reads as it did. -/
def fnResponseLowSpec : ChangeSpec := { name := "fnResponseLow", fn := fun _ => fun
  | [d] => { results := [.lit (.bool true)], args := [d] }
  | _ => none }
def fnResponseLowRow : OpenClaim := { program := "ytncgchlnaobalaa", sum := "00c743deb4944a2165cf9c52217c5a494b38eaf583b61f02b80064ecc3bbdcda", func := "loop.example/dualmodes/laws.FnResponseLow", spec := "fnResponseLow", unfollowed := true, recurses := true, apart := false }
def FnResponseLowSaid : Prop := fnResponseLowRow.holds Try.pinned (OpenSpec.ofChange fnResponseLowSpec)

/-- ITS FALSE NEIGHBOUR: 'it returns false'. Refute it at one input. -/
def fnResponseLowWrong : ChangeSpec := { name := "fnResponseLow", fn := fun _ => fun
  | [d] => { results := [.lit (.bool false)], args := [d] }
  | _ => none }
def FnResponseLowWrongFalsely : Prop := fnResponseLowRow.holds Try.pinned (OpenSpec.ofChange fnResponseLowWrong)

/-- 'laws.FnResponseLess': WHATEVER THE INPUT: true; the input reads as it did. -/
def fnResponseLessSpec : ChangeSpec := { name := "fnResponseLess", fn := fun _ => fun
  | [d] => { results := [.lit (.bool true)], args := [d] }
  | _ => none }
def fnResponseLessRow : OpenClaim := { program := "ytncgchlnaobalaa", sum := "00c743deb4944a2165cf9c52217c5a494b38eaf583b61f02b80064ecc3bbdcda", func := "loop.example/dualmodes/laws.FnResponseLess", spec := "fnResponseLess", unfollowed := true, recurses := true, apart := false }
def FnResponseLessSaid : Prop := fnResponseLessRow.holds Try.pinned (OpenSpec.ofChange fnResponseLessSpec)

/-- ITS FALSE NEIGHBOUR: 'it returns false'. Refute it at one input. -/
def fnResponseLessWrong : ChangeSpec := { name := "fnResponseLess", fn := fun _ => fun
  | [d] => { results := [.lit (.bool false)], args := [d] }
  | _ => none }
def FnResponseLessWrongFalsely : Prop := fnResponseLessRow.holds Try.pinned (OpenSpec.ofChange fnResponseLessWrong)

/-- 'laws.FnResponseMore': WHATEVER THE INPUT: true; the input reads as it did. -/
def fnResponseMoreSpec : ChangeSpec := { name := "fnResponseMore", fn := fun _ => fun
  | [d] => { results := [.lit (.bool true)], args := [d] }
  | _ => none }
def fnResponseMoreRow : OpenClaim := { program := "ytncgchlnaobalaa", sum := "00c743deb4944a2165cf9c52217c5a494b38eaf583b61f02b80064ecc3bbdcda", func := "loop.example/dualmodes/laws.FnResponseMore", spec := "fnResponseMore", unfollowed := true, recurses := true, apart := false }
def FnResponseMoreSaid : Prop := fnResponseMoreRow.holds Try.pinned (OpenSpec.ofChange fnResponseMoreSpec)

/-- ITS FALSE NEIGHBOUR: 'it returns false'. Refute it at one input. -/
def fnResponseMoreWrong : ChangeSpec := { name := "fnResponseMore", fn := fun _ => fun
  | [d] => { results := [.lit (.bool false)], args := [d] }
  | _ => none }
def FnResponseMoreWrongFalsely : Prop := fnResponseMoreRow.holds Try.pinned (OpenSpec.ofChange fnResponseMoreWrong)

/-- 'laws.FnExactResponseLow': WHATEVER THE INPUT: true; the input reads as it did. -/
def fnExactResponseLowSpec : ChangeSpec := { name := "fnExactResponseLow", fn := fun _ => fun
  | [d1, d2] => { results := [.lit (.bool true)], args := [d1, d2] }
  | _ => none }
def fnExactResponseLowRow : OpenClaim := { program := "ytncgchlnaobalaa", sum := "00c743deb4944a2165cf9c52217c5a494b38eaf583b61f02b80064ecc3bbdcda", func := "loop.example/dualmodes/laws.FnExactResponseLow", spec := "fnExactResponseLow", unfollowed := true, recurses := true, apart := false }
def FnExactResponseLowSaid : Prop := fnExactResponseLowRow.holds Try.pinned (OpenSpec.ofChange fnExactResponseLowSpec)

/-- ITS FALSE NEIGHBOUR: 'it returns false'. Refute it at one input. -/
def fnExactResponseLowWrong : ChangeSpec := { name := "fnExactResponseLow", fn := fun _ => fun
  | [d1, d2] => { results := [.lit (.bool false)], args := [d1, d2] }
  | _ => none }
def FnExactResponseLowWrongFalsely : Prop := fnExactResponseLowRow.holds Try.pinned (OpenSpec.ofChange fnExactResponseLowWrong)

/-- 'laws.FnBusyLow': WHATEVER THE INPUT: true; the input reads as it did. -/
def fnBusyLowSpec : ChangeSpec := { name := "fnBusyLow", fn := fun _ => fun
  | [d] => { results := [.lit (.bool true)], args := [d] }
  | _ => none }
def fnBusyLowRow : OpenClaim := { program := "ytncgchlnaobalaa", sum := "00c743deb4944a2165cf9c52217c5a494b38eaf583b61f02b80064ecc3bbdcda", func := "loop.example/dualmodes/laws.FnBusyLow", spec := "fnBusyLow", unfollowed := true, recurses := true, apart := false }
def FnBusyLowSaid : Prop := fnBusyLowRow.holds Try.pinned (OpenSpec.ofChange fnBusyLowSpec)

/-- ITS FALSE NEIGHBOUR: 'it returns false'. Refute it at one input. -/
def fnBusyLowWrong : ChangeSpec := { name := "fnBusyLow", fn := fun _ => fun
  | [d] => { results := [.lit (.bool false)], args := [d] }
  | _ => none }
def FnBusyLowWrongFalsely : Prop := fnBusyLowRow.holds Try.pinned (OpenSpec.ofChange fnBusyLowWrong)

/-- 'laws.FnBusyMore': WHATEVER THE INPUT: true; the input reads as it did. -/
def fnBusyMoreSpec : ChangeSpec := { name := "fnBusyMore", fn := fun _ => fun
  | [d] => { results := [.lit (.bool true)], args := [d] }
  | _ => none }
def fnBusyMoreRow : OpenClaim := { program := "ytncgchlnaobalaa", sum := "00c743deb4944a2165cf9c52217c5a494b38eaf583b61f02b80064ecc3bbdcda", func := "loop.example/dualmodes/laws.FnBusyMore", spec := "fnBusyMore", unfollowed := true, recurses := true, apart := false }
def FnBusyMoreSaid : Prop := fnBusyMoreRow.holds Try.pinned (OpenSpec.ofChange fnBusyMoreSpec)

/-- ITS FALSE NEIGHBOUR: 'it returns false'. Refute it at one input. -/
def fnBusyMoreWrong : ChangeSpec := { name := "fnBusyMore", fn := fun _ => fun
  | [d] => { results := [.lit (.bool false)], args := [d] }
  | _ => none }
def FnBusyMoreWrongFalsely : Prop := fnBusyMoreRow.holds Try.pinned (OpenSpec.ofChange fnBusyMoreWrong)

/-- 'laws.FnExactBusyLow': WHATEVER THE INPUT: true; the input reads as it did. -/
def fnExactBusyLowSpec : ChangeSpec := { name := "fnExactBusyLow", fn := fun _ => fun
  | [d] => { results := [.lit (.bool true)], args := [d] }
  | _ => none }
def fnExactBusyLowRow : OpenClaim := { program := "ytncgchlnaobalaa", sum := "00c743deb4944a2165cf9c52217c5a494b38eaf583b61f02b80064ecc3bbdcda", func := "loop.example/dualmodes/laws.FnExactBusyLow", spec := "fnExactBusyLow", unfollowed := true, recurses := true, apart := false }
def FnExactBusyLowSaid : Prop := fnExactBusyLowRow.holds Try.pinned (OpenSpec.ofChange fnExactBusyLowSpec)

/-- ITS FALSE NEIGHBOUR: 'it returns false'. Refute it at one input. -/
def fnExactBusyLowWrong : ChangeSpec := { name := "fnExactBusyLow", fn := fun _ => fun
  | [d] => { results := [.lit (.bool false)], args := [d] }
  | _ => none }
def FnExactBusyLowWrongFalsely : Prop := fnExactBusyLowRow.holds Try.pinned (OpenSpec.ofChange fnExactBusyLowWrong)

/-- 'laws.FnResponseHigh': WHATEVER THE INPUT: true; the input reads as it did. -/
def fnResponseHighSpec : ChangeSpec := { name := "fnResponseHigh", fn := fun _ => fun
  | [d] => { results := [.lit (.bool true)], args := [d] }
  | _ => none }
def fnResponseHighRow : OpenClaim := { program := "ytncgchlnaobalaa", sum := "00c743deb4944a2165cf9c52217c5a494b38eaf583b61f02b80064ecc3bbdcda", func := "loop.example/dualmodes/laws.FnResponseHigh", spec := "fnResponseHigh", unfollowed := true, recurses := true, apart := false }
def FnResponseHighSaid : Prop := fnResponseHighRow.holds Try.pinned (OpenSpec.ofChange fnResponseHighSpec)

/-- ITS FALSE NEIGHBOUR: 'it returns false'. Refute it at one input. -/
def fnResponseHighWrong : ChangeSpec := { name := "fnResponseHigh", fn := fun _ => fun
  | [d] => { results := [.lit (.bool false)], args := [d] }
  | _ => none }
def FnResponseHighWrongFalsely : Prop := fnResponseHighRow.holds Try.pinned (OpenSpec.ofChange fnResponseHighWrong)

/-- 'laws.FnExactResponseHigh': WHATEVER THE INPUT: true; the input reads as it did. -/
def fnExactResponseHighSpec : ChangeSpec := { name := "fnExactResponseHigh", fn := fun _ => fun
  | [d1, d2] => { results := [.lit (.bool true)], args := [d1, d2] }
  | _ => none }
def fnExactResponseHighRow : OpenClaim := { program := "ytncgchlnaobalaa", sum := "00c743deb4944a2165cf9c52217c5a494b38eaf583b61f02b80064ecc3bbdcda", func := "loop.example/dualmodes/laws.FnExactResponseHigh", spec := "fnExactResponseHigh", unfollowed := true, recurses := true, apart := false }
def FnExactResponseHighSaid : Prop := fnExactResponseHighRow.holds Try.pinned (OpenSpec.ofChange fnExactResponseHighSpec)

/-- ITS FALSE NEIGHBOUR: 'it returns false'. Refute it at one input. -/
def fnExactResponseHighWrong : ChangeSpec := { name := "fnExactResponseHigh", fn := fun _ => fun
  | [d1, d2] => { results := [.lit (.bool false)], args := [d1, d2] }
  | _ => none }
def FnExactResponseHighWrongFalsely : Prop := fnExactResponseHighRow.holds Try.pinned (OpenSpec.ofChange fnExactResponseHighWrong)

/-- 'laws.FnHighCritical': WHATEVER THE INPUT: true; the input reads as it did. -/
def fnHighCriticalSpec : ChangeSpec := { name := "fnHighCritical", fn := fun _ => fun
  | [d] => { results := [.lit (.bool true)], args := [d] }
  | _ => none }
def fnHighCriticalRow : OpenClaim := { program := "ytncgchlnaobalaa", sum := "00c743deb4944a2165cf9c52217c5a494b38eaf583b61f02b80064ecc3bbdcda", func := "loop.example/dualmodes/laws.FnHighCritical", spec := "fnHighCritical", unfollowed := true, recurses := true, apart := false }
def FnHighCriticalSaid : Prop := fnHighCriticalRow.holds Try.pinned (OpenSpec.ofChange fnHighCriticalSpec)

/-- ITS FALSE NEIGHBOUR: 'it returns false'. Refute it at one input. -/
def fnHighCriticalWrong : ChangeSpec := { name := "fnHighCritical", fn := fun _ => fun
  | [d] => { results := [.lit (.bool false)], args := [d] }
  | _ => none }
def FnHighCriticalWrongFalsely : Prop := fnHighCriticalRow.holds Try.pinned (OpenSpec.ofChange fnHighCriticalWrong)

/- THE SECOND FORM. 'bulk': how many values and letters a reading holds, each counted each time it is reached (what is shared counts as often as it is met; a slice's spare places count too). A statement '..UptoSaid' is the law's where the arguments, and the package variables that the reading takes, are together of bulk at most 1048576: NARROWER than '..Said'. Prove '..Said' where nothing that the law and all that it calls make is longer than what came in: it says more and counts as full. Else prove '..UptoSaid'. A law counts once. -/
mutual
def uptoBulk {H : Type} : DataW H → Nat
  | .lit (.string bytes) => bytes.length + 1
  | .lit _ => 1
  | .nil => 1
  | .ptr d => uptoBulk d + 1
  | .slice elems spare => uptoBulkAll elems + uptoBulkAll spare + 1
  | .agg parts => uptoBulkAll parts + 1
  | .iface _ d => uptoBulk d + 1
  | .map entries => uptoBulkEntries entries + 1
  | .held _ => 1
def uptoBulkAll {H : Type} : List (DataW H) → Nat
  | [] => 0
  | d :: r => uptoBulk d + uptoBulkAll r
def uptoBulkEntries {H : Type} : List (Lit × DataW H) → Nat
  | [] => 0
  | x :: r => uptoBulkEntry x + uptoBulkEntries r
def uptoBulkEntry {H : Type} : Lit × DataW H → Nat
  | (.string bytes, d) => bytes.length + uptoBulk d + 1
  | (_, d) => uptoBulk d + 1
 end
def uptoSmall : (H : Type) → List (DataW H) → Bool := fun _ ds => decide (uptoBulkAll ds ≤ 1048576)
def OpenSpec.upto (s : _root_.Go.ChangeSpec) : _root_.Go.OpenSpec := { _root_.Go.OpenSpec.ofChange s with cond := some uptoSmall }

/-- 'laws.FnDemandOf', WHERE WHAT IT READS IS OF BULK AT MOST 1048576: true; the input reads as it did. -/
def fnDemandOfUptoRow : OpenClaim := { program := "ytncgchlnaobalaa", sum := "00c743deb4944a2165cf9c52217c5a494b38eaf583b61f02b80064ecc3bbdcda", func := "loop.example/dualmodes/laws.FnDemandOf", spec := "fnDemandOf", apart := false, narrowed := true }
def FnDemandOfUptoSaid : Prop := fnDemandOfUptoRow.holds Try.pinned (OpenSpec.upto fnDemandOfSpec)

/-- 'laws.FnDemandAdd', WHERE WHAT IT READS IS OF BULK AT MOST 1048576: true; the input reads as it did. -/
def fnDemandAddUptoRow : OpenClaim := { program := "ytncgchlnaobalaa", sum := "00c743deb4944a2165cf9c52217c5a494b38eaf583b61f02b80064ecc3bbdcda", func := "loop.example/dualmodes/laws.FnDemandAdd", spec := "fnDemandAdd", apart := false, narrowed := true }
def FnDemandAddUptoSaid : Prop := fnDemandAddUptoRow.holds Try.pinned (OpenSpec.upto fnDemandAddSpec)

/-- 'laws.FnDemandOne', WHERE WHAT IT READS IS OF BULK AT MOST 1048576: true; the input reads as it did. -/
def fnDemandOneUptoRow : OpenClaim := { program := "ytncgchlnaobalaa", sum := "00c743deb4944a2165cf9c52217c5a494b38eaf583b61f02b80064ecc3bbdcda", func := "loop.example/dualmodes/laws.FnDemandOne", spec := "fnDemandOne", apart := false, narrowed := true }
def FnDemandOneUptoSaid : Prop := fnDemandOneUptoRow.holds Try.pinned (OpenSpec.upto fnDemandOneSpec)

/-- 'laws.FnExactDemandOf', WHERE WHAT IT READS IS OF BULK AT MOST 1048576: true; the input reads as it did. -/
def fnExactDemandOfUptoRow : OpenClaim := { program := "ytncgchlnaobalaa", sum := "00c743deb4944a2165cf9c52217c5a494b38eaf583b61f02b80064ecc3bbdcda", func := "loop.example/dualmodes/laws.FnExactDemandOf", spec := "fnExactDemandOf", apart := false, narrowed := true }
def FnExactDemandOfUptoSaid : Prop := fnExactDemandOfUptoRow.holds Try.pinned (OpenSpec.upto fnExactDemandOfSpec)

/-- 'laws.FnResponseLow', WHERE WHAT IT READS IS OF BULK AT MOST 1048576: true; the input reads as it did. -/
def fnResponseLowUptoRow : OpenClaim := { program := "ytncgchlnaobalaa", sum := "00c743deb4944a2165cf9c52217c5a494b38eaf583b61f02b80064ecc3bbdcda", func := "loop.example/dualmodes/laws.FnResponseLow", spec := "fnResponseLow", unfollowed := true, recurses := true, apart := false, narrowed := true }
def FnResponseLowUptoSaid : Prop := fnResponseLowUptoRow.holds Try.pinned (OpenSpec.upto fnResponseLowSpec)

/-- 'laws.FnResponseLess', WHERE WHAT IT READS IS OF BULK AT MOST 1048576: true; the input reads as it did. -/
def fnResponseLessUptoRow : OpenClaim := { program := "ytncgchlnaobalaa", sum := "00c743deb4944a2165cf9c52217c5a494b38eaf583b61f02b80064ecc3bbdcda", func := "loop.example/dualmodes/laws.FnResponseLess", spec := "fnResponseLess", unfollowed := true, recurses := true, apart := false, narrowed := true }
def FnResponseLessUptoSaid : Prop := fnResponseLessUptoRow.holds Try.pinned (OpenSpec.upto fnResponseLessSpec)

/-- 'laws.FnResponseMore', WHERE WHAT IT READS IS OF BULK AT MOST 1048576: true; the input reads as it did. -/
def fnResponseMoreUptoRow : OpenClaim := { program := "ytncgchlnaobalaa", sum := "00c743deb4944a2165cf9c52217c5a494b38eaf583b61f02b80064ecc3bbdcda", func := "loop.example/dualmodes/laws.FnResponseMore", spec := "fnResponseMore", unfollowed := true, recurses := true, apart := false, narrowed := true }
def FnResponseMoreUptoSaid : Prop := fnResponseMoreUptoRow.holds Try.pinned (OpenSpec.upto fnResponseMoreSpec)

/-- 'laws.FnExactResponseLow', WHERE WHAT IT READS IS OF BULK AT MOST 1048576: true; the input reads as it did. -/
def fnExactResponseLowUptoRow : OpenClaim := { program := "ytncgchlnaobalaa", sum := "00c743deb4944a2165cf9c52217c5a494b38eaf583b61f02b80064ecc3bbdcda", func := "loop.example/dualmodes/laws.FnExactResponseLow", spec := "fnExactResponseLow", unfollowed := true, recurses := true, apart := false, narrowed := true }
def FnExactResponseLowUptoSaid : Prop := fnExactResponseLowUptoRow.holds Try.pinned (OpenSpec.upto fnExactResponseLowSpec)

/-- 'laws.FnBusyLow', WHERE WHAT IT READS IS OF BULK AT MOST 1048576: true; the input reads as it did. -/
def fnBusyLowUptoRow : OpenClaim := { program := "ytncgchlnaobalaa", sum := "00c743deb4944a2165cf9c52217c5a494b38eaf583b61f02b80064ecc3bbdcda", func := "loop.example/dualmodes/laws.FnBusyLow", spec := "fnBusyLow", unfollowed := true, recurses := true, apart := false, narrowed := true }
def FnBusyLowUptoSaid : Prop := fnBusyLowUptoRow.holds Try.pinned (OpenSpec.upto fnBusyLowSpec)

/-- 'laws.FnBusyMore', WHERE WHAT IT READS IS OF BULK AT MOST 1048576: true; the input reads as it did. -/
def fnBusyMoreUptoRow : OpenClaim := { program := "ytncgchlnaobalaa", sum := "00c743deb4944a2165cf9c52217c5a494b38eaf583b61f02b80064ecc3bbdcda", func := "loop.example/dualmodes/laws.FnBusyMore", spec := "fnBusyMore", unfollowed := true, recurses := true, apart := false, narrowed := true }
def FnBusyMoreUptoSaid : Prop := fnBusyMoreUptoRow.holds Try.pinned (OpenSpec.upto fnBusyMoreSpec)

/-- 'laws.FnExactBusyLow', WHERE WHAT IT READS IS OF BULK AT MOST 1048576: true; the input reads as it did. -/
def fnExactBusyLowUptoRow : OpenClaim := { program := "ytncgchlnaobalaa", sum := "00c743deb4944a2165cf9c52217c5a494b38eaf583b61f02b80064ecc3bbdcda", func := "loop.example/dualmodes/laws.FnExactBusyLow", spec := "fnExactBusyLow", unfollowed := true, recurses := true, apart := false, narrowed := true }
def FnExactBusyLowUptoSaid : Prop := fnExactBusyLowUptoRow.holds Try.pinned (OpenSpec.upto fnExactBusyLowSpec)

/-- 'laws.FnResponseHigh', WHERE WHAT IT READS IS OF BULK AT MOST 1048576: true; the input reads as it did. -/
def fnResponseHighUptoRow : OpenClaim := { program := "ytncgchlnaobalaa", sum := "00c743deb4944a2165cf9c52217c5a494b38eaf583b61f02b80064ecc3bbdcda", func := "loop.example/dualmodes/laws.FnResponseHigh", spec := "fnResponseHigh", unfollowed := true, recurses := true, apart := false, narrowed := true }
def FnResponseHighUptoSaid : Prop := fnResponseHighUptoRow.holds Try.pinned (OpenSpec.upto fnResponseHighSpec)

/-- 'laws.FnExactResponseHigh', WHERE WHAT IT READS IS OF BULK AT MOST 1048576: true; the input reads as it did. -/
def fnExactResponseHighUptoRow : OpenClaim := { program := "ytncgchlnaobalaa", sum := "00c743deb4944a2165cf9c52217c5a494b38eaf583b61f02b80064ecc3bbdcda", func := "loop.example/dualmodes/laws.FnExactResponseHigh", spec := "fnExactResponseHigh", unfollowed := true, recurses := true, apart := false, narrowed := true }
def FnExactResponseHighUptoSaid : Prop := fnExactResponseHighUptoRow.holds Try.pinned (OpenSpec.upto fnExactResponseHighSpec)

/-- 'laws.FnHighCritical', WHERE WHAT IT READS IS OF BULK AT MOST 1048576: true; the input reads as it did. -/
def fnHighCriticalUptoRow : OpenClaim := { program := "ytncgchlnaobalaa", sum := "00c743deb4944a2165cf9c52217c5a494b38eaf583b61f02b80064ecc3bbdcda", func := "loop.example/dualmodes/laws.FnHighCritical", spec := "fnHighCritical", unfollowed := true, recurses := true, apart := false, narrowed := true }
def FnHighCriticalUptoSaid : Prop := fnHighCriticalUptoRow.holds Try.pinned (OpenSpec.upto fnHighCriticalSpec)

end Rows
end Go.Proofs.Ytncgchlnaobalaa
