/- The swap in the program's heap of jobs, cell by cell. -/
import Derived.Test.YtjondedkgkohfaaQOrd
import Derived.RegionTactic
import Derived.ChangeAlike
import Derived.BigRegion
namespace Go.Proofs.Ytjondedkgkohfaa
open Go.RowKit
set_option linter.unusedVariables false

/-- Three numbers written one after another. -/
def put3 (w : World) (a : Addr) (x y z : Int) : World := ((w.setCell a (.int .i64 x)).setCell ⟨a.block, a.off + 1, none⟩ (.int .i64 y)).setCell ⟨a.block, a.off + 2, none⟩ (.int .i64 z)
/-- No result; the world is W. -/
def SwRes (W : World) (e : Ending) (w' : World) : Prop := e = .returned (.tuple #[]) ∧ w' = W
end Go.Proofs.Ytjondedkgkohfaa
