/- Contracts of what the reference draws: a task that is valid, and one that may be wrong; its numbers are small. -/
import Derived.Test.YtjondedkgkohfaaNum
import Derived.Test.YtjondedkgkohfaaLit
import Derived.Test.YtjondedkgkohfaaBase
import Derived.Deep.RegionHeld3
import Derived.Deep.RegionLaw
namespace Go.Proofs.Ytjondedkgkohfaa
open Go.RowKit

/-- The numbers of a task are small. -/
def smallT (lo hi du ev : Int) (_ : Bool) : Prop := (-1 ≤ lo ∧ lo ≤ 21) ∧ (-1 ≤ hi ∧ hi ≤ 21) ∧ (-1 ≤ du ∧ du ≤ 21) ∧ (-1 ≤ ev ∧ ev ≤ 21)

/-- What a draw of a task leaves: a task of the kind 'good'; the reader at most d on. -/
def TkOut (B g : Nat) (A : Option Addr) (n c : Nat) (f : Nat → Int) (p d : Nat) (good : Int → Int → Int → Int → Bool → Prop) (w : World) (e : Ending) (w' : World) : Prop :=
  ∃ (lo hi du ev : Int) (cr : Bool) (p' : Nat), e = .returned (.agg #[.int .i64 lo, .int .i64 hi, .int .i64 du, .int .i64 ev, .bool cr]) ∧ good lo hi du ev cr ∧ p' ≤ p + d ∧ Rd w' B g A n c f p' ∧ w.grownBy w' (some g)

end Go.Proofs.Ytjondedkgkohfaa
