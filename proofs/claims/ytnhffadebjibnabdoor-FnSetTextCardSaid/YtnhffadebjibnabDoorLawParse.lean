/- The walk of the exact law on parsing a task: FnExactParseTask returns true, and writes nothing that was there. -/
import Derived.Test.YtnhffadebjibnabDoorParseSp
import Derived.Test.YtnhffadebjibnabDoorExMark
namespace Go.Proofs.YtnhffadebjibnabDoor
open Go.RowKit

def TrueP (w : World) (e : Ending) (w' : World) : Prop := e = .returned (.bool true) ∧ Below w.heap.size w w'

/-- Both parsers, at one text: the same result. -/
theorem parsers (l : List UInt8) (hl : l.length ≤ 2000000) : ∃ (lo hi du ev : Int) (cr b : Bool), parsedT l = ⟨lo, hi, du, ev, cr⟩ ∧ okR l = b ∧
    (∀ W, Vars W → Calls Tryd.prog 14 #[str l] W fun e w' => e = .returned (.tuple #[.agg #[.int .i64 lo, .int .i64 hi, .int .i64 du, .int .i64 ev, .bool cr], .bool b]) ∧ Below W.heap.size W w') ∧
    (∀ W, Calls Tryd.prog 19 #[str l] W fun e w' => e = .returned (.tuple #[.agg #[.int .i64 lo, .int .i64 hi, .int .i64 du, .int .i64 ev, .bool cr], .bool b]) ∧ Below W.heap.size W w') :=
  ⟨_, _, _, _, _, _, rfl, rfl, fun W h => iParseTask_any W l hl h, fun W => sParseTask_any W l hl⟩

set_option maxRecDepth 100000 in
set_option maxHeartbeats 1000000 in
theorem fnExactParseTask_walk (w : World) (l : List UInt8) (hmax : l.length ≤ 9223372036854775807) (hv : Vars w) :
    Calls Tryd.prog 9 #[str l] w (TrueP w) := by
  by_cases hn : 1048576 < l.length
  · have hni : (1048576 : Int) < (l.length : Int) := by omega
    go_enter Tryd.func9, Tryd.ntmps9
    go_wp2
    go_ret
    exact ⟨rfl, Below.refl _ _⟩
  have hni : ¬ (1048576 : Int) < (l.length : Int) := by omega
  obtain ⟨lo, hi, du, ev, cr, b, _, _, hi_, hs_⟩ := parsers l (by omega)
  have HV := Lib.hid hv
  have HI := Lib.hid hi_
  have HS := Lib.hid hs_
  clear hv hi_ hs_
  go_enter Tryd.func9, Tryd.ntmps9
  go_wp2_with fail
  refine (HS.out _).mono ?_
  rintro e w1 ⟨rfl, hb⟩
  have HB1 := Lib.hid hb
  clear hb HS
  go_wp2_with fail
  refine (HI.out _ (HV.out.below (bl_alloc HB1.out _))).mono ?_
  rintro e w2 ⟨rfl, hb⟩
  have HB2 := Lib.hid (bl_trans (bl_alloc HB1.out _) hb)
  have s2 : w1.heap.size < w2.heap.size := by have := hb.size; simp at this; omega
  have bT := (Blk.new w1 24 #[.int .i64 lo, .int .i64 hi, .int .i64 du, .int .i64 ev, .bool cr]).below hb (by simp)
  have cT := bT.cell
  have fT := bT.frozen
  clear hb bT HI
  go_wp2_with fail
  refine (eqTask_any _ lo hi du ev cr).mono ?_
  rintro e w3 ⟨rfl, hb⟩
  have HB3 := Lib.hid (bl_trans (bl_alloc HB2.out _) hb)
  clear hb
  go_wp2
  go_ret
  exact ⟨rfl, HB3.out⟩

end Go.Proofs.YtnhffadebjibnabDoor
