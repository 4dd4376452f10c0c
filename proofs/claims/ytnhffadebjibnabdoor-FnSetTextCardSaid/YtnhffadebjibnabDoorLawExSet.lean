/- The walk of the exact law on parsing a set: FnExactParseSet returns true, and writes nothing that was there. -/
import Derived.Test.YtnhffadebjibnabDoorParseSetS
import Derived.Test.YtnhffadebjibnabDoorMarkOwn
namespace Go.Proofs.YtnhffadebjibnabDoor
open Go.RowKit

theorem tsS_len (l : List UInt8) : (tsS l).length ≤ 5 := by
  cases h : okS l
  · rw [tsS_no h]; simp
  · by_cases hl : l = []
    · rw [hl, okS_nil.2]; simp
    · exact setB_len (okS_spec h hl).1

/-- Both parsers of sets, at one text: the same result. -/
theorem setParsers (l : List UInt8) (hl : l.length ≤ 2000000) : ∃ (us : List Tk) (b : Bool), us = tsS l ∧ b = okS l ∧ us.length ≤ 5 ∧
    (∀ W, Vars W → Calls Tryd.prog 25 #[str l] W fun e w' => ∃ A c, e = .returned (.tuple #[.slice A us.length c, .bool b]) ∧ Own w' W.heap.size (.slice A us.length c) us ∧ Below W.heap.size W w') ∧
    (∀ W, Calls Tryd.prog 28 #[str l] W fun e w' => ∃ A c, e = .returned (.tuple #[.slice A us.length c, .bool b]) ∧ Own w' W.heap.size (.slice A us.length c) us ∧ Below W.heap.size W w') :=
  ⟨_, _, rfl, rfl, tsS_len l, fun W h => iParseSet_any W l hl h, fun W => sParseSet_any W l hl⟩

set_option maxRecDepth 100000 in
set_option maxHeartbeats 2000000 in
theorem fnExactParseSet_walk (w : World) (l : List UInt8) (hmax : l.length ≤ 9223372036854775807) (hv : Vars w) :
    Calls Tryd.prog 11 #[str l] w (TrueP w) := by
  by_cases hn : 1048576 < l.length
  · have hni : (1048576 : Int) < (l.length : Int) := by omega
    go_enter Tryd.func11, Tryd.ntmps11
    go_wp2
    go_ret
    exact ⟨rfl, Below.refl _ _⟩
  have hni : ¬ (1048576 : Int) < (l.length : Int) := by omega
  obtain ⟨us, b, hu1, hb1, hus, hi_, hs_⟩ := setParsers l (by omega)
  clear hu1 hb1
  have HV := Lib.hid hv
  have HI := Lib.hid hi_
  have HS := Lib.hid hs_
  clear hv hi_ hs_
  go_enter Tryd.func11, Tryd.ntmps11
  go_wp2_with fail
  refine (HS.out _).mono ?_
  rintro e w1 ⟨Aw, cw, rfl, ho, hb⟩
  have HB1 := Lib.hid hb
  have HOw1 := Lib.hid ho
  have HMw := Lib.hid (World.ownsRow.lt ho)
  clear hb ho HS
  go_wp2_with fail
  refine (HI.out _ (HV.out.below HB1.out)).mono ?_
  rintro e w2 ⟨Ag, cg, rfl, ho, hb⟩
  have hs2 : w1.heap.size ≤ w2.heap.size := hb.size
  have HB2 := Lib.hid (bl_trans HB1.out hb)
  have HOw2 := Lib.hid (HOw1.out.below hb)
  have HOg2 := Lib.hid ho
  have HMg := Lib.hid (World.ownsRow.lt ho)
  clear hb ho HOw1
  go_wp2_with fail
  refine (eqTaskS_any w2 Ag Aw _ cg cw us HOg2.out.reads.2 HOw2.out.reads.2 (by omega)).mono ?_
  rintro e w3 ⟨rfl, hb⟩
  have hs3 : w2.heap.size ≤ w3.heap.size := hb.size
  have HB3 := Lib.hid (bl_trans HB2.out hb)
  have HOw3 := Lib.hid (HOw2.out.below hb)
  have HOg3 := Lib.hid (HOg2.out.below hb)
  clear hb HOw2 HOg2
  go_wp2_with fail
  refine (mark_own w3 _ Ag _ cg 1 us HOg3.out (by omega) (by omega)).mono ?_
  rintro e w4 ⟨rfl, ho, hg⟩
  have HOg4 := Lib.hid ho
  have HB4 := Lib.hid (HB3.out.grown hg HB3.out.size (fun q e => by have h1 := (World.ownsRow.lt HOg3.out q e).1; have h2 := HB1.out.size; omega))
  have hs4 : w3.heap.size ≤ w4.heap.size := hg.size
  have HOw4 := Lib.hid (HOw3.out.kept_down hg (M := w1.heap.size) (fun q e => by have := (HMw.out q e).2; omega) (fun q e => by have := (HMg.out q e).1; omega))
  clear ho hg HOw3 HOg3
  go_wp2_with fail
  refine (held_any w4 Ag _ cg 1 HOg4.out.reads.2 (by omega) (by omega)).mono ?_
  rintro e w0 ⟨rfl, rfl⟩
  go_wp2_with fail
  refine (HI.out _ (HV.out.below HB4.out)).mono ?_
  rintro e w5 ⟨Ah, ch, rfl, ho, hb⟩
  have HB5 := Lib.hid (bl_trans HB4.out hb)
  have HOh5 := Lib.hid ho
  have HOw5 := Lib.hid (HOw4.out.below hb)
  have HOg5 := Lib.hid (HOg4.out.below hb)
  clear hb ho HOw4 HOg4 HI
  go_wp2_with fail
  refine (eqTaskS_any w5 Ah Aw _ ch cw us HOh5.out.reads.2 HOw5.out.reads.2 (by omega)).mono ?_
  rintro e w6 ⟨rfl, hb⟩
  have HB6 := Lib.hid (bl_trans HB5.out hb)
  have HOg6 := Lib.hid (HOg5.out.below hb)
  clear hb HOg5 HOw5 HOh5
  go_wp2_with fail
  refine (held_any w6 Ag _ cg 1 HOg6.out.reads.2 (by omega) (by omega)).mono ?_
  rintro e w0 ⟨rfl, rfl⟩
  go_wp2
  go_ret
  exact ⟨rfl, HB6.out⟩

end Go.Proofs.YtnhffadebjibnabDoor
