/-
  No cell of these rows narrows 'for every input' (looked for: loops, veiled, ifaces, maps, wideKeys, modest, calm, conditions, laid).
  DERIVED. THE GIVEN ROWS OF THIS SEAT. 15 by the template 'for every input the law returns true; each argument reads behind the call as it read before'; 0 by the template 'total and deterministic' (their statements: YtobkbbgllapcoaaTotals.lean).
  GIVEN WITH THE SEED: the statements are not yours to turn. If you find one false, say at which input.
  Laid BY PROGRAM, IN A SANDBOX (cutbox-rows.mjs): the forced cells as the released guide's own fill.sh prints them over the translation 3b25e92e3c733d84… (all of the seat's roots in one cut). By AI agents, Wed Nov 11 2026. No macro, syntax, notation, axiom, sorry.
-/
import Derived.Test.YtobkbbgllapcoaaChecked
import GoSem.Claim
import GoSem.ClaimJoined
import GoSem.ClaimMapViews
import Derived.JoinedTies
import Derived.KernelRfl
namespace Go.Proofs.Ytobkbbgllapcoaa
/- THE CELL 'sum', in the pinned program and in every row, IS THE sha256 OF THE DUMP (.gsa) THAT YtobkbbgllapcoaaProg.lean LOADS. Nothing in Lean hashes anything: it is a label: what it is worth is what the hold of that sum in a sandbox is worth. -/
noncomputable def Try.pinned : Pinned := { name := "ytobkbbgllapcoaa", sum := "3b25e92e3c733d849ae69f246b056ae8bc019e1970e87f2f7aff1872663a166c", checked := Try.checked }
namespace Rows
def none {H : Type} : Left H := { results := [], args := [] }

/-- 'laws.FnDemandOf': WHATEVER THE INPUT: true; the input reads as it did. -/
def fnDemandOfSpec : ChangeSpec := { name := "fnDemandOf", fn := fun _ => fun
  | [d] => { results := [.lit (.bool true)], args := [d] }
  | _ => none }
def fnDemandOfRow : OpenClaim := { program := "ytobkbbgllapcoaa", sum := "3b25e92e3c733d849ae69f246b056ae8bc019e1970e87f2f7aff1872663a166c", func := "loop.example/dualmodes/laws.FnDemandOf", spec := "fnDemandOf", apart := false }
def FnDemandOfSaid : Prop := fnDemandOfRow.holds Try.pinned (OpenSpec.ofChange fnDemandOfSpec)

/-- ITS FALSE NEIGHBOUR: 'it returns false'. Refute it at one input. -/
def fnDemandOfWrong : ChangeSpec := { name := "fnDemandOf", fn := fun _ => fun
  | [d] => { results := [.lit (.bool false)], args := [d] }
  | _ => none }
def FnDemandOfWrongFalsely : Prop := fnDemandOfRow.holds Try.pinned (OpenSpec.ofChange fnDemandOfWrong)

/-- 'laws.FnResponseLow': WHATEVER THE INPUT: true; the input reads as it did. -/
def fnResponseLowSpec : ChangeSpec := { name := "fnResponseLow", fn := fun _ => fun
  | [d] => { results := [.lit (.bool true)], args := [d] }
  | _ => none }
def fnResponseLowRow : OpenClaim := { program := "ytobkbbgllapcoaa", sum := "3b25e92e3c733d849ae69f246b056ae8bc019e1970e87f2f7aff1872663a166c", func := "loop.example/dualmodes/laws.FnResponseLow", spec := "fnResponseLow", unfollowed := true, recurses := true, apart := false }
def FnResponseLowSaid : Prop := fnResponseLowRow.holds Try.pinned (OpenSpec.ofChange fnResponseLowSpec)

/-- ITS FALSE NEIGHBOUR: 'it returns false'. Refute it at one input. -/
def fnResponseLowWrong : ChangeSpec := { name := "fnResponseLow", fn := fun _ => fun
  | [d] => { results := [.lit (.bool false)], args := [d] }
  | _ => none }
def FnResponseLowWrongFalsely : Prop := fnResponseLowRow.holds Try.pinned (OpenSpec.ofChange fnResponseLowWrong)

/-- 'laws.FnResponseHigh': WHATEVER THE INPUT: true; the input reads as it did. -/
def fnResponseHighSpec : ChangeSpec := { name := "fnResponseHigh", fn := fun _ => fun
  | [d] => { results := [.lit (.bool true)], args := [d] }
  | _ => none }
def fnResponseHighRow : OpenClaim := { program := "ytobkbbgllapcoaa", sum := "3b25e92e3c733d849ae69f246b056ae8bc019e1970e87f2f7aff1872663a166c", func := "loop.example/dualmodes/laws.FnResponseHigh", spec := "fnResponseHigh", unfollowed := true, recurses := true, apart := false }
def FnResponseHighSaid : Prop := fnResponseHighRow.holds Try.pinned (OpenSpec.ofChange fnResponseHighSpec)

/-- ITS FALSE NEIGHBOUR: 'it returns false'. Refute it at one input. -/
def fnResponseHighWrong : ChangeSpec := { name := "fnResponseHigh", fn := fun _ => fun
  | [d] => { results := [.lit (.bool false)], args := [d] }
  | _ => none }
def FnResponseHighWrongFalsely : Prop := fnResponseHighRow.holds Try.pinned (OpenSpec.ofChange fnResponseHighWrong)

/-- 'laws.FnResponseSwitch': WHATEVER THE INPUT: true; the input reads as it did. -/
def fnResponseSwitchSpec : ChangeSpec := { name := "fnResponseSwitch", fn := fun _ => fun
  | [d] => { results := [.lit (.bool true)], args := [d] }
  | _ => none }
def fnResponseSwitchRow : OpenClaim := { program := "ytobkbbgllapcoaa", sum := "3b25e92e3c733d849ae69f246b056ae8bc019e1970e87f2f7aff1872663a166c", func := "loop.example/dualmodes/laws.FnResponseSwitch", spec := "fnResponseSwitch", unfollowed := true, recurses := true, apart := false }
def FnResponseSwitchSaid : Prop := fnResponseSwitchRow.holds Try.pinned (OpenSpec.ofChange fnResponseSwitchSpec)

/-- ITS FALSE NEIGHBOUR: 'it returns false'. Refute it at one input. -/
def fnResponseSwitchWrong : ChangeSpec := { name := "fnResponseSwitch", fn := fun _ => fun
  | [d] => { results := [.lit (.bool false)], args := [d] }
  | _ => none }
def FnResponseSwitchWrongFalsely : Prop := fnResponseSwitchRow.holds Try.pinned (OpenSpec.ofChange fnResponseSwitchWrong)

/-- 'laws.FnHoldsBoth': WHATEVER THE INPUT: true; the input reads as it did. -/
def fnHoldsBothSpec : ChangeSpec := { name := "fnHoldsBoth", fn := fun _ => fun
  | [d] => { results := [.lit (.bool true)], args := [d] }
  | _ => none }
def fnHoldsBothRow : OpenClaim := { program := "ytobkbbgllapcoaa", sum := "3b25e92e3c733d849ae69f246b056ae8bc019e1970e87f2f7aff1872663a166c", func := "loop.example/dualmodes/laws.FnHoldsBoth", spec := "fnHoldsBoth", unfollowed := true, recurses := true, apart := false }
def FnHoldsBothSaid : Prop := fnHoldsBothRow.holds Try.pinned (OpenSpec.ofChange fnHoldsBothSpec)

/-- ITS FALSE NEIGHBOUR: 'it returns false'. Refute it at one input. -/
def fnHoldsBothWrong : ChangeSpec := { name := "fnHoldsBoth", fn := fun _ => fun
  | [d] => { results := [.lit (.bool false)], args := [d] }
  | _ => none }
def FnHoldsBothWrongFalsely : Prop := fnHoldsBothRow.holds Try.pinned (OpenSpec.ofChange fnHoldsBothWrong)

/-- 'laws.FnFirstBad': WHATEVER THE INPUT: true; the input reads as it did. -/
def fnFirstBadSpec : ChangeSpec := { name := "fnFirstBad", fn := fun _ => fun
  | [d] => { results := [.lit (.bool true)], args := [d] }
  | _ => none }
def fnFirstBadRow : OpenClaim := { program := "ytobkbbgllapcoaa", sum := "3b25e92e3c733d849ae69f246b056ae8bc019e1970e87f2f7aff1872663a166c", func := "loop.example/dualmodes/laws.FnFirstBad", spec := "fnFirstBad", unfollowed := true, recurses := true, apart := false }
def FnFirstBadSaid : Prop := fnFirstBadRow.holds Try.pinned (OpenSpec.ofChange fnFirstBadSpec)

/-- ITS FALSE NEIGHBOUR: 'it returns false'. Refute it at one input. -/
def fnFirstBadWrong : ChangeSpec := { name := "fnFirstBad", fn := fun _ => fun
  | [d] => { results := [.lit (.bool false)], args := [d] }
  | _ => none }
def FnFirstBadWrongFalsely : Prop := fnFirstBadRow.holds Try.pinned (OpenSpec.ofChange fnFirstBadWrong)

/-- 'laws.FnBusyLow': WHATEVER THE INPUT: true; the input reads as it did. -/
def fnBusyLowSpec : ChangeSpec := { name := "fnBusyLow", fn := fun _ => fun
  | [d] => { results := [.lit (.bool true)], args := [d] }
  | _ => none }
def fnBusyLowRow : OpenClaim := { program := "ytobkbbgllapcoaa", sum := "3b25e92e3c733d849ae69f246b056ae8bc019e1970e87f2f7aff1872663a166c", func := "loop.example/dualmodes/laws.FnBusyLow", spec := "fnBusyLow", unfollowed := true, recurses := true, apart := false }
def FnBusyLowSaid : Prop := fnBusyLowRow.holds Try.pinned (OpenSpec.ofChange fnBusyLowSpec)

/-- ITS FALSE NEIGHBOUR: 'it returns false'. Refute it at one input. -/
def fnBusyLowWrong : ChangeSpec := { name := "fnBusyLow", fn := fun _ => fun
  | [d] => { results := [.lit (.bool false)], args := [d] }
  | _ => none }
def FnBusyLowWrongFalsely : Prop := fnBusyLowRow.holds Try.pinned (OpenSpec.ofChange fnBusyLowWrong)

/-- 'laws.FnDemandAdd': WHATEVER THE INPUT: true; the input reads as it did. -/
def fnDemandAddSpec : ChangeSpec := { name := "fnDemandAdd", fn := fun _ => fun
  | [d] => { results := [.lit (.bool true)], args := [d] }
  | _ => none }
def fnDemandAddRow : OpenClaim := { program := "ytobkbbgllapcoaa", sum := "3b25e92e3c733d849ae69f246b056ae8bc019e1970e87f2f7aff1872663a166c", func := "loop.example/dualmodes/laws.FnDemandAdd", spec := "fnDemandAdd", apart := false }
def FnDemandAddSaid : Prop := fnDemandAddRow.holds Try.pinned (OpenSpec.ofChange fnDemandAddSpec)

/-- ITS FALSE NEIGHBOUR: 'it returns false'. Refute it at one input. -/
def fnDemandAddWrong : ChangeSpec := { name := "fnDemandAdd", fn := fun _ => fun
  | [d] => { results := [.lit (.bool false)], args := [d] }
  | _ => none }
def FnDemandAddWrongFalsely : Prop := fnDemandAddRow.holds Try.pinned (OpenSpec.ofChange fnDemandAddWrong)

/-- 'laws.FnDemandOne': WHATEVER THE INPUT: true; the input reads as it did. -/
def fnDemandOneSpec : ChangeSpec := { name := "fnDemandOne", fn := fun _ => fun
  | [d] => { results := [.lit (.bool true)], args := [d] }
  | _ => none }
def fnDemandOneRow : OpenClaim := { program := "ytobkbbgllapcoaa", sum := "3b25e92e3c733d849ae69f246b056ae8bc019e1970e87f2f7aff1872663a166c", func := "loop.example/dualmodes/laws.FnDemandOne", spec := "fnDemandOne", apart := false }
def FnDemandOneSaid : Prop := fnDemandOneRow.holds Try.pinned (OpenSpec.ofChange fnDemandOneSpec)

/-- ITS FALSE NEIGHBOUR: 'it returns false'. Refute it at one input. -/
def fnDemandOneWrong : ChangeSpec := { name := "fnDemandOne", fn := fun _ => fun
  | [d] => { results := [.lit (.bool false)], args := [d] }
  | _ => none }
def FnDemandOneWrongFalsely : Prop := fnDemandOneRow.holds Try.pinned (OpenSpec.ofChange fnDemandOneWrong)

/-- 'laws.FnResponseFirst': WHATEVER THE INPUT: true; the input reads as it did. -/
def fnResponseFirstSpec : ChangeSpec := { name := "fnResponseFirst", fn := fun _ => fun
  | [d] => { results := [.lit (.bool true)], args := [d] }
  | _ => none }
def fnResponseFirstRow : OpenClaim := { program := "ytobkbbgllapcoaa", sum := "3b25e92e3c733d849ae69f246b056ae8bc019e1970e87f2f7aff1872663a166c", func := "loop.example/dualmodes/laws.FnResponseFirst", spec := "fnResponseFirst", unfollowed := true, recurses := true, apart := false }
def FnResponseFirstSaid : Prop := fnResponseFirstRow.holds Try.pinned (OpenSpec.ofChange fnResponseFirstSpec)

/-- ITS FALSE NEIGHBOUR: 'it returns false'. Refute it at one input. -/
def fnResponseFirstWrong : ChangeSpec := { name := "fnResponseFirst", fn := fun _ => fun
  | [d] => { results := [.lit (.bool false)], args := [d] }
  | _ => none }
def FnResponseFirstWrongFalsely : Prop := fnResponseFirstRow.holds Try.pinned (OpenSpec.ofChange fnResponseFirstWrong)

/-- 'laws.FnResponseMore': WHATEVER THE INPUT: true; the input reads as it did. -/
def fnResponseMoreSpec : ChangeSpec := { name := "fnResponseMore", fn := fun _ => fun
  | [d] => { results := [.lit (.bool true)], args := [d] }
  | _ => none }
def fnResponseMoreRow : OpenClaim := { program := "ytobkbbgllapcoaa", sum := "3b25e92e3c733d849ae69f246b056ae8bc019e1970e87f2f7aff1872663a166c", func := "loop.example/dualmodes/laws.FnResponseMore", spec := "fnResponseMore", unfollowed := true, recurses := true, apart := false }
def FnResponseMoreSaid : Prop := fnResponseMoreRow.holds Try.pinned (OpenSpec.ofChange fnResponseMoreSpec)

/-- ITS FALSE NEIGHBOUR: 'it returns false'. Refute it at one input. -/
def fnResponseMoreWrong : ChangeSpec := { name := "fnResponseMore", fn := fun _ => fun
  | [d] => { results := [.lit (.bool false)], args := [d] }
  | _ => none }
def FnResponseMoreWrongFalsely : Prop := fnResponseMoreRow.holds Try.pinned (OpenSpec.ofChange fnResponseMoreWrong)

/-- 'laws.FnResponseLess': WHATEVER THE INPUT: true; the input reads as it did. -/
def fnResponseLessSpec : ChangeSpec := { name := "fnResponseLess", fn := fun _ => fun
  | [d] => { results := [.lit (.bool true)], args := [d] }
  | _ => none }
def fnResponseLessRow : OpenClaim := { program := "ytobkbbgllapcoaa", sum := "3b25e92e3c733d849ae69f246b056ae8bc019e1970e87f2f7aff1872663a166c", func := "loop.example/dualmodes/laws.FnResponseLess", spec := "fnResponseLess", unfollowed := true, recurses := true, apart := false }
def FnResponseLessSaid : Prop := fnResponseLessRow.holds Try.pinned (OpenSpec.ofChange fnResponseLessSpec)

/-- ITS FALSE NEIGHBOUR: 'it returns false'. Refute it at one input. -/
def fnResponseLessWrong : ChangeSpec := { name := "fnResponseLess", fn := fun _ => fun
  | [d] => { results := [.lit (.bool false)], args := [d] }
  | _ => none }
def FnResponseLessWrongFalsely : Prop := fnResponseLessRow.holds Try.pinned (OpenSpec.ofChange fnResponseLessWrong)

/-- 'laws.FnSwitchFixed': WHATEVER THE INPUT: true; the input reads as it did. -/
def fnSwitchFixedSpec : ChangeSpec := { name := "fnSwitchFixed", fn := fun _ => fun
  | [d] => { results := [.lit (.bool true)], args := [d] }
  | _ => none }
def fnSwitchFixedRow : OpenClaim := { program := "ytobkbbgllapcoaa", sum := "3b25e92e3c733d849ae69f246b056ae8bc019e1970e87f2f7aff1872663a166c", func := "loop.example/dualmodes/laws.FnSwitchFixed", spec := "fnSwitchFixed", unfollowed := true, recurses := true, apart := false }
def FnSwitchFixedSaid : Prop := fnSwitchFixedRow.holds Try.pinned (OpenSpec.ofChange fnSwitchFixedSpec)

/-- ITS FALSE NEIGHBOUR: 'it returns false'. Refute it at one input. -/
def fnSwitchFixedWrong : ChangeSpec := { name := "fnSwitchFixed", fn := fun _ => fun
  | [d] => { results := [.lit (.bool false)], args := [d] }
  | _ => none }
def FnSwitchFixedWrongFalsely : Prop := fnSwitchFixedRow.holds Try.pinned (OpenSpec.ofChange fnSwitchFixedWrong)

/-- 'laws.FnHighCritical': WHATEVER THE INPUT: true; the input reads as it did. -/
def fnHighCriticalSpec : ChangeSpec := { name := "fnHighCritical", fn := fun _ => fun
  | [d] => { results := [.lit (.bool true)], args := [d] }
  | _ => none }
def fnHighCriticalRow : OpenClaim := { program := "ytobkbbgllapcoaa", sum := "3b25e92e3c733d849ae69f246b056ae8bc019e1970e87f2f7aff1872663a166c", func := "loop.example/dualmodes/laws.FnHighCritical", spec := "fnHighCritical", unfollowed := true, recurses := true, apart := false }
def FnHighCriticalSaid : Prop := fnHighCriticalRow.holds Try.pinned (OpenSpec.ofChange fnHighCriticalSpec)

/-- ITS FALSE NEIGHBOUR: 'it returns false'. Refute it at one input. -/
def fnHighCriticalWrong : ChangeSpec := { name := "fnHighCritical", fn := fun _ => fun
  | [d] => { results := [.lit (.bool false)], args := [d] }
  | _ => none }
def FnHighCriticalWrongFalsely : Prop := fnHighCriticalRow.holds Try.pinned (OpenSpec.ofChange fnHighCriticalWrong)

/-- 'laws.FnHoldsSwitch': WHATEVER THE INPUT: true; the input reads as it did. -/
def fnHoldsSwitchSpec : ChangeSpec := { name := "fnHoldsSwitch", fn := fun _ => fun
  | [d] => { results := [.lit (.bool true)], args := [d] }
  | _ => none }
def fnHoldsSwitchRow : OpenClaim := { program := "ytobkbbgllapcoaa", sum := "3b25e92e3c733d849ae69f246b056ae8bc019e1970e87f2f7aff1872663a166c", func := "loop.example/dualmodes/laws.FnHoldsSwitch", spec := "fnHoldsSwitch", unfollowed := true, recurses := true, apart := false }
def FnHoldsSwitchSaid : Prop := fnHoldsSwitchRow.holds Try.pinned (OpenSpec.ofChange fnHoldsSwitchSpec)

/-- ITS FALSE NEIGHBOUR: 'it returns false'. Refute it at one input. -/
def fnHoldsSwitchWrong : ChangeSpec := { name := "fnHoldsSwitch", fn := fun _ => fun
  | [d] => { results := [.lit (.bool false)], args := [d] }
  | _ => none }
def FnHoldsSwitchWrongFalsely : Prop := fnHoldsSwitchRow.holds Try.pinned (OpenSpec.ofChange fnHoldsSwitchWrong)

/- THE SECOND FORM. 'bulk': how many values and letters a reading holds, each counted each time it is reached (what is shared counts as often as it is met; a slice's spare places count too). A statement '..UptoSaid' is the law's where the arguments, and the package variables that the reading takes, are together of bulk at most 1048576: NARROWER than '..Said'. Prove '..Said' where nothing that the law and all that it calls make is longer than what came in: it says more and counts as full. Else prove '..UptoSaid'. A law counts once. -/
mutual
def uptoBulk {H : Type} : DataW H → Nat
  | .lit (.string bytes) => bytes.length + 1
  | .lit _ => 1
  | .nil => 1
  | .ptr d => uptoBulk d + 1
  | .slice elems spare => uptoBulkAll elems + uptoBulkAll spare + 1
  | .agg parts => uptoBulkAll parts + 1
  | .iface _ d => uptoBulk d + 1
  | .map entries => uptoBulkEntries entries + 1
  | .held _ => 1
def uptoBulkAll {H : Type} : List (DataW H) → Nat
  | [] => 0
  | d :: r => uptoBulk d + uptoBulkAll r
def uptoBulkEntries {H : Type} : List (Lit × DataW H) → Nat
  | [] => 0
  | x :: r => uptoBulkEntry x + uptoBulkEntries r
def uptoBulkEntry {H : Type} : Lit × DataW H → Nat
  | (.string bytes, d) => bytes.length + uptoBulk d + 1
  | (_, d) => uptoBulk d + 1
 end
def uptoSmall : (H : Type) → List (DataW H) → Bool := fun _ ds => decide (uptoBulkAll ds ≤ 1048576)
def OpenSpec.upto (s : _root_.Go.ChangeSpec) : _root_.Go.OpenSpec := { _root_.Go.OpenSpec.ofChange s with cond := some uptoSmall }

/-- 'laws.FnDemandOf', WHERE WHAT IT READS IS OF BULK AT MOST 1048576: true; the input reads as it did. -/
def fnDemandOfUptoRow : OpenClaim := { program := "ytobkbbgllapcoaa", sum := "3b25e92e3c733d849ae69f246b056ae8bc019e1970e87f2f7aff1872663a166c", func := "loop.example/dualmodes/laws.FnDemandOf", spec := "fnDemandOf", apart := false, narrowed := true }
def FnDemandOfUptoSaid : Prop := fnDemandOfUptoRow.holds Try.pinned (OpenSpec.upto fnDemandOfSpec)

/-- 'laws.FnResponseLow', WHERE WHAT IT READS IS OF BULK AT MOST 1048576: true; the input reads as it did. -/
def fnResponseLowUptoRow : OpenClaim := { program := "ytobkbbgllapcoaa", sum := "3b25e92e3c733d849ae69f246b056ae8bc019e1970e87f2f7aff1872663a166c", func := "loop.example/dualmodes/laws.FnResponseLow", spec := "fnResponseLow", unfollowed := true, recurses := true, apart := false, narrowed := true }
def FnResponseLowUptoSaid : Prop := fnResponseLowUptoRow.holds Try.pinned (OpenSpec.upto fnResponseLowSpec)

/-- 'laws.FnResponseHigh', WHERE WHAT IT READS IS OF BULK AT MOST 1048576: true; the input reads as it did. -/
def fnResponseHighUptoRow : OpenClaim := { program := "ytobkbbgllapcoaa", sum := "3b25e92e3c733d849ae69f246b056ae8bc019e1970e87f2f7aff1872663a166c", func := "loop.example/dualmodes/laws.FnResponseHigh", spec := "fnResponseHigh", unfollowed := true, recurses := true, apart := false, narrowed := true }
def FnResponseHighUptoSaid : Prop := fnResponseHighUptoRow.holds Try.pinned (OpenSpec.upto fnResponseHighSpec)

/-- 'laws.FnResponseSwitch', WHERE WHAT IT READS IS OF BULK AT MOST 1048576: true; the input reads as it did. -/
def fnResponseSwitchUptoRow : OpenClaim := { program := "ytobkbbgllapcoaa", sum := "3b25e92e3c733d849ae69f246b056ae8bc019e1970e87f2f7aff1872663a166c", func := "loop.example/dualmodes/laws.FnResponseSwitch", spec := "fnResponseSwitch", unfollowed := true, recurses := true, apart := false, narrowed := true }
def FnResponseSwitchUptoSaid : Prop := fnResponseSwitchUptoRow.holds Try.pinned (OpenSpec.upto fnResponseSwitchSpec)

/-- 'laws.FnHoldsBoth', WHERE WHAT IT READS IS OF BULK AT MOST 1048576: true; the input reads as it did. -/
def fnHoldsBothUptoRow : OpenClaim := { program := "ytobkbbgllapcoaa", sum := "3b25e92e3c733d849ae69f246b056ae8bc019e1970e87f2f7aff1872663a166c", func := "loop.example/dualmodes/laws.FnHoldsBoth", spec := "fnHoldsBoth", unfollowed := true, recurses := true, apart := false, narrowed := true }
def FnHoldsBothUptoSaid : Prop := fnHoldsBothUptoRow.holds Try.pinned (OpenSpec.upto fnHoldsBothSpec)

/-- 'laws.FnFirstBad', WHERE WHAT IT READS IS OF BULK AT MOST 1048576: true; the input reads as it did. -/
def fnFirstBadUptoRow : OpenClaim := { program := "ytobkbbgllapcoaa", sum := "3b25e92e3c733d849ae69f246b056ae8bc019e1970e87f2f7aff1872663a166c", func := "loop.example/dualmodes/laws.FnFirstBad", spec := "fnFirstBad", unfollowed := true, recurses := true, apart := false, narrowed := true }
def FnFirstBadUptoSaid : Prop := fnFirstBadUptoRow.holds Try.pinned (OpenSpec.upto fnFirstBadSpec)

/-- 'laws.FnBusyLow', WHERE WHAT IT READS IS OF BULK AT MOST 1048576: true; the input reads as it did. -/
def fnBusyLowUptoRow : OpenClaim := { program := "ytobkbbgllapcoaa", sum := "3b25e92e3c733d849ae69f246b056ae8bc019e1970e87f2f7aff1872663a166c", func := "loop.example/dualmodes/laws.FnBusyLow", spec := "fnBusyLow", unfollowed := true, recurses := true, apart := false, narrowed := true }
def FnBusyLowUptoSaid : Prop := fnBusyLowUptoRow.holds Try.pinned (OpenSpec.upto fnBusyLowSpec)

/-- 'laws.FnDemandAdd', WHERE WHAT IT READS IS OF BULK AT MOST 1048576: true; the input reads as it did. -/
def fnDemandAddUptoRow : OpenClaim := { program := "ytobkbbgllapcoaa", sum := "3b25e92e3c733d849ae69f246b056ae8bc019e1970e87f2f7aff1872663a166c", func := "loop.example/dualmodes/laws.FnDemandAdd", spec := "fnDemandAdd", apart := false, narrowed := true }
def FnDemandAddUptoSaid : Prop := fnDemandAddUptoRow.holds Try.pinned (OpenSpec.upto fnDemandAddSpec)

/-- 'laws.FnDemandOne', WHERE WHAT IT READS IS OF BULK AT MOST 1048576: true; the input reads as it did. -/
def fnDemandOneUptoRow : OpenClaim := { program := "ytobkbbgllapcoaa", sum := "3b25e92e3c733d849ae69f246b056ae8bc019e1970e87f2f7aff1872663a166c", func := "loop.example/dualmodes/laws.FnDemandOne", spec := "fnDemandOne", apart := false, narrowed := true }
def FnDemandOneUptoSaid : Prop := fnDemandOneUptoRow.holds Try.pinned (OpenSpec.upto fnDemandOneSpec)

/-- 'laws.FnResponseFirst', WHERE WHAT IT READS IS OF BULK AT MOST 1048576: true; the input reads as it did. -/
def fnResponseFirstUptoRow : OpenClaim := { program := "ytobkbbgllapcoaa", sum := "3b25e92e3c733d849ae69f246b056ae8bc019e1970e87f2f7aff1872663a166c", func := "loop.example/dualmodes/laws.FnResponseFirst", spec := "fnResponseFirst", unfollowed := true, recurses := true, apart := false, narrowed := true }
def FnResponseFirstUptoSaid : Prop := fnResponseFirstUptoRow.holds Try.pinned (OpenSpec.upto fnResponseFirstSpec)

/-- 'laws.FnResponseMore', WHERE WHAT IT READS IS OF BULK AT MOST 1048576: true; the input reads as it did. -/
def fnResponseMoreUptoRow : OpenClaim := { program := "ytobkbbgllapcoaa", sum := "3b25e92e3c733d849ae69f246b056ae8bc019e1970e87f2f7aff1872663a166c", func := "loop.example/dualmodes/laws.FnResponseMore", spec := "fnResponseMore", unfollowed := true, recurses := true, apart := false, narrowed := true }
def FnResponseMoreUptoSaid : Prop := fnResponseMoreUptoRow.holds Try.pinned (OpenSpec.upto fnResponseMoreSpec)

/-- 'laws.FnResponseLess', WHERE WHAT IT READS IS OF BULK AT MOST 1048576: true; the input reads as it did. -/
def fnResponseLessUptoRow : OpenClaim := { program := "ytobkbbgllapcoaa", sum := "3b25e92e3c733d849ae69f246b056ae8bc019e1970e87f2f7aff1872663a166c", func := "loop.example/dualmodes/laws.FnResponseLess", spec := "fnResponseLess", unfollowed := true, recurses := true, apart := false, narrowed := true }
def FnResponseLessUptoSaid : Prop := fnResponseLessUptoRow.holds Try.pinned (OpenSpec.upto fnResponseLessSpec)

/-- 'laws.FnSwitchFixed', WHERE WHAT IT READS IS OF BULK AT MOST 1048576: true; the input reads as it did. -/
def fnSwitchFixedUptoRow : OpenClaim := { program := "ytobkbbgllapcoaa", sum := "3b25e92e3c733d849ae69f246b056ae8bc019e1970e87f2f7aff1872663a166c", func := "loop.example/dualmodes/laws.FnSwitchFixed", spec := "fnSwitchFixed", unfollowed := true, recurses := true, apart := false, narrowed := true }
def FnSwitchFixedUptoSaid : Prop := fnSwitchFixedUptoRow.holds Try.pinned (OpenSpec.upto fnSwitchFixedSpec)

/-- 'laws.FnHighCritical', WHERE WHAT IT READS IS OF BULK AT MOST 1048576: true; the input reads as it did. -/
def fnHighCriticalUptoRow : OpenClaim := { program := "ytobkbbgllapcoaa", sum := "3b25e92e3c733d849ae69f246b056ae8bc019e1970e87f2f7aff1872663a166c", func := "loop.example/dualmodes/laws.FnHighCritical", spec := "fnHighCritical", unfollowed := true, recurses := true, apart := false, narrowed := true }
def FnHighCriticalUptoSaid : Prop := fnHighCriticalUptoRow.holds Try.pinned (OpenSpec.upto fnHighCriticalSpec)

/-- 'laws.FnHoldsSwitch', WHERE WHAT IT READS IS OF BULK AT MOST 1048576: true; the input reads as it did. -/
def fnHoldsSwitchUptoRow : OpenClaim := { program := "ytobkbbgllapcoaa", sum := "3b25e92e3c733d849ae69f246b056ae8bc019e1970e87f2f7aff1872663a166c", func := "loop.example/dualmodes/laws.FnHoldsSwitch", spec := "fnHoldsSwitch", unfollowed := true, recurses := true, apart := false, narrowed := true }
def FnHoldsSwitchUptoSaid : Prop := fnHoldsSwitchUptoRow.holds Try.pinned (OpenSpec.upto fnHoldsSwitchSpec)

end Rows
end Go.Proofs.Ytobkbbgllapcoaa
