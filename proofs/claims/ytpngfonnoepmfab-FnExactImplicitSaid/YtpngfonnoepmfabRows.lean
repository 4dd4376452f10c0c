/-
  No cell of these rows narrows 'for every input' (looked for: loops, veiled, ifaces, maps, wideKeys, modest, calm, conditions, laid).
  DERIVED. THE GIVEN ROWS OF THIS SEAT. 2 by the template 'for every input the law returns true; each argument reads behind the call as it read before'; 0 by the template 'total and deterministic' (their statements: YtpngfonnoepmfabTotals.lean).
  GIVEN WITH THE SEED: the statements are not yours to turn. If you find one false, say at which input.
  Laid BY PROGRAM, IN A SANDBOX (cutbox-rows.mjs): the forced cells as the released guide's own fill.sh prints them over the translation dc599b836b5d0fa9… (all of the seat's roots in one cut). By AI agents, Wed Nov 11 2026. No macro, syntax, notation, axiom, sorry.
-/
import Derived.Test.YtpngfonnoepmfabChecked
import GoSem.Claim
import GoSem.ClaimJoined
import GoSem.ClaimMapViews
import Derived.JoinedTies
import Derived.KernelRfl
namespace Go.Proofs.Ytpngfonnoepmfab
/- THE CELL 'sum', in the pinned program and in every row, IS THE sha256 OF THE DUMP (.gsa) THAT YtpngfonnoepmfabProg.lean LOADS. Nothing in Lean hashes anything: it is a label: what it is worth is what the hold of that sum in a sandbox is worth. -/
noncomputable def Try.pinned : Pinned := { name := "ytpngfonnoepmfab", sum := "dc599b836b5d0fa9c0197788237f735e34c9f509b88c8e91d14c3351685327e3", checked := Try.checked }
namespace Rows
def none {H : Type} : Left H := { results := [], args := [] }

/-- 'laws.FnImplicitPart': WHATEVER THE INPUT: true; the input reads as it did. -/
def fnImplicitPartSpec : ChangeSpec := { name := "fnImplicitPart", fn := fun _ => fun
  | [d] => { results := [.lit (.bool true)], args := [d] }
  | _ => none }
def fnImplicitPartRow : OpenClaim := { program := "ytpngfonnoepmfab", sum := "dc599b836b5d0fa9c0197788237f735e34c9f509b88c8e91d14c3351685327e3", func := "loop.example/dualmodes/laws.FnImplicitPart", spec := "fnImplicitPart", inPlace := ["slices.overlaps[loop.example/dualmodes/impl.Task]"], unfollowed := true, recurses := true, apart := false }
def FnImplicitPartSaid : Prop := fnImplicitPartRow.holds Try.pinned (OpenSpec.ofChange fnImplicitPartSpec)

/-- ITS FALSE NEIGHBOUR: 'it returns false'. Refute it at one input. -/
def fnImplicitPartWrong : ChangeSpec := { name := "fnImplicitPart", fn := fun _ => fun
  | [d] => { results := [.lit (.bool false)], args := [d] }
  | _ => none }
def FnImplicitPartWrongFalsely : Prop := fnImplicitPartRow.holds Try.pinned (OpenSpec.ofChange fnImplicitPartWrong)

/-- 'laws.FnExactImplicit': WHATEVER THE INPUT: true; the input reads as it did. -/
def fnExactImplicitSpec : ChangeSpec := { name := "fnExactImplicit", fn := fun _ => fun
  | [d] => { results := [.lit (.bool true)], args := [d] }
  | _ => none }
def fnExactImplicitRow : OpenClaim := { program := "ytpngfonnoepmfab", sum := "dc599b836b5d0fa9c0197788237f735e34c9f509b88c8e91d14c3351685327e3", func := "loop.example/dualmodes/laws.FnExactImplicit", spec := "fnExactImplicit", apart := false }
def FnExactImplicitSaid : Prop := fnExactImplicitRow.holds Try.pinned (OpenSpec.ofChange fnExactImplicitSpec)

/-- ITS FALSE NEIGHBOUR: 'it returns false'. Refute it at one input. -/
def fnExactImplicitWrong : ChangeSpec := { name := "fnExactImplicit", fn := fun _ => fun
  | [d] => { results := [.lit (.bool false)], args := [d] }
  | _ => none }
def FnExactImplicitWrongFalsely : Prop := fnExactImplicitRow.holds Try.pinned (OpenSpec.ofChange fnExactImplicitWrong)

/- THE SECOND FORM. 'bulk': how many values and letters a reading holds, each counted each time it is reached (what is shared counts as often as it is met; a slice's spare places count too). A statement '..UptoSaid' is the law's where the arguments, and the package variables that the reading takes, are together of bulk at most 1048576: NARROWER than '..Said'. Prove '..Said' where nothing that the law and all that it calls make is longer than what came in: it says more and counts as full. Else prove '..UptoSaid'. A law counts once. -/
mutual
def uptoBulk {H : Type} : DataW H → Nat
  | .lit (.string bytes) => bytes.length + 1
  | .lit _ => 1
  | .nil => 1
  | .ptr d => uptoBulk d + 1
  | .slice elems spare => uptoBulkAll elems + uptoBulkAll spare + 1
  | .agg parts => uptoBulkAll parts + 1
  | .iface _ d => uptoBulk d + 1
  | .map entries => uptoBulkEntries entries + 1
  | .held _ => 1
def uptoBulkAll {H : Type} : List (DataW H) → Nat
  | [] => 0
  | d :: r => uptoBulk d + uptoBulkAll r
def uptoBulkEntries {H : Type} : List (Lit × DataW H) → Nat
  | [] => 0
  | x :: r => uptoBulkEntry x + uptoBulkEntries r
def uptoBulkEntry {H : Type} : Lit × DataW H → Nat
  | (.string bytes, d) => bytes.length + uptoBulk d + 1
  | (_, d) => uptoBulk d + 1
 end
def uptoSmall : (H : Type) → List (DataW H) → Bool := fun _ ds => decide (uptoBulkAll ds ≤ 1048576)
def OpenSpec.upto (s : _root_.Go.ChangeSpec) : _root_.Go.OpenSpec := { _root_.Go.OpenSpec.ofChange s with cond := some uptoSmall }

/-- 'laws.FnImplicitPart', WHERE WHAT IT READS IS OF BULK AT MOST 1048576: true; the input reads as it did. -/
def fnImplicitPartUptoRow : OpenClaim := { program := "ytpngfonnoepmfab", sum := "dc599b836b5d0fa9c0197788237f735e34c9f509b88c8e91d14c3351685327e3", func := "loop.example/dualmodes/laws.FnImplicitPart", spec := "fnImplicitPart", inPlace := ["slices.overlaps[loop.example/dualmodes/impl.Task]"], unfollowed := true, recurses := true, apart := false, narrowed := true }
def FnImplicitPartUptoSaid : Prop := fnImplicitPartUptoRow.holds Try.pinned (OpenSpec.upto fnImplicitPartSpec)

/-- 'laws.FnExactImplicit', WHERE WHAT IT READS IS OF BULK AT MOST 1048576: true; the input reads as it did. -/
def fnExactImplicitUptoRow : OpenClaim := { program := "ytpngfonnoepmfab", sum := "dc599b836b5d0fa9c0197788237f735e34c9f509b88c8e91d14c3351685327e3", func := "loop.example/dualmodes/laws.FnExactImplicit", spec := "fnExactImplicit", apart := false, narrowed := true }
def FnExactImplicitUptoSaid : Prop := fnExactImplicitUptoRow.holds Try.pinned (OpenSpec.upto fnExactImplicitSpec)

end Rows
end Go.Proofs.Ytpngfonnoepmfab
