/- Contract of the reference's AddShares. Nothing that was there is written. -/
import Derived.Test.YtbaecbibkmdbiabDoorL2
namespace Go.Proofs.YtbaecbibkmdbiabDoor
open Go.RowKit
set_option linter.unusedVariables false

set_option maxHeartbeats 1000000 in
theorem sAdd_is (w : World) (n d m e : Int) (p q : Nat) (c : Bool) (hp : plusS n d m e = (p, q)) (hb : plusB n d m e = c) :
    Calls Tryd.prog 21 #[.agg #[.int .i64 n, .int .i64 d], .agg #[.int .i64 m, .int .i64 e]] w (MkRes p q c w) := by
  cases ha : shB n d
  · have hpb : plusB n d m e = false := by unfold plusB; rw [ha]; rfl
    obtain rfl : c = false := by rw [← hb]; exact hpb
    rw [plus_no hpb] at hp
    obtain ⟨rfl, rfl⟩ := Prod.mk.inj hp
    clear hp hb hpb
    have HC := Lib.hid (fun W : World => sShare_is W n d false ha)
    clear ha
    go_enter Tryd.func21, Tryd.ntmps21
    go_wp2_with fail
    refine (HC.out _).mono ?_
    rintro e w1 ⟨rfl, hb1⟩
    have HB := Lib.hid (bl_trans (bl_alloc (bl_alloc (bl_alloc (Below.refl _ w) _) _) _) hb1)
    have bR := Lib.hid ((Blk.new ((w.alloc (.cells #[.int .i64 n, .int .i64 d] 26)).alloc (.cells #[.int .i64 m, .int .i64 e] 26)) 26 #[.int .i64 0, .int .i64 0]).below hb1 (by simp))
    have bR' : Hid (Blk w1 (w.heap.size + 1 + 1) 26 #[.int .i64 0, .int .i64 0]) := by have h := bR.out; simp only [World.size_alloc] at h; exact h
    clear bR
    have cR0 := bR'.out.cell
    have fR0 := bR'.out.frozen
    have cR := fun k => (bR'.out.drewN k).cell
    have fR := fun k => (bR'.out.drewN k).frozen
    clear hb1 HC
    go_wp2
    (try go_region)
    all_goals (try go_wp2)
    all_goals refine bodyPost_ret (v := .tuple #[.agg #[.int .i64 0, .int .i64 0], .bool false]) (by simp [results, Tryd.results21, go_sem, cR0]) rfl ⟨rfl, (by repeat (first | exact HB.out | refine bl_drewN ?_ _ | refine Below.drew ?_ | refine bl_alloc ?_ _ | refine bl_set ?_ (by dsimp only; omega) _))⟩
  cases hc : shB m e
  · have hpb : plusB n d m e = false := by unfold plusB; rw [hc]; simp
    obtain rfl : c = false := by rw [← hb]; exact hpb
    rw [plus_no hpb] at hp
    obtain ⟨rfl, rfl⟩ := Prod.mk.inj hp
    clear hp hb hpb
    have HC := Lib.hid (fun W : World => sShare_is W n d true ha)
    have HD := Lib.hid (fun W : World => sShare_is W m e false hc)
    clear ha hc
    go_enter Tryd.func21, Tryd.ntmps21
    go_wp2_with fail
    refine (HC.out _).mono ?_
    rintro e0 w1 ⟨rfl, hb1⟩
    have HB1 := Lib.hid (bl_trans (bl_alloc (bl_alloc (bl_alloc (Below.refl _ w) _) _) _) hb1)
    have hs1 := hb1.size
    simp at hs1
    have b1 := Lib.hid (((Blk.new w 26 #[.int .i64 n, .int .i64 d]).alloc (.cells #[.int .i64 m, .int .i64 e] 26)).alloc (.cells #[.int .i64 0, .int .i64 0] 26) |>.below hb1 (by simp; omega))
    have b2 := Lib.hid ((Blk.new (w.alloc (.cells #[.int .i64 n, .int .i64 d] 26)) 26 #[.int .i64 m, .int .i64 e]).alloc (.cells #[.int .i64 0, .int .i64 0] 26) |>.below hb1 (by simp))
    have c1 := b1.out.cell
    have c2 := b2.out.cell
    simp only [World.size_alloc] at c2
    have bR := Lib.hid ((Blk.new ((w.alloc (.cells #[.int .i64 n, .int .i64 d] 26)).alloc (.cells #[.int .i64 m, .int .i64 e] 26)) 26 #[.int .i64 0, .int .i64 0]).below hb1 (by simp))
    have bR' : Hid (Blk w1 (w.heap.size + 1 + 1) 26 #[.int .i64 0, .int .i64 0]) := by have h := bR.out; simp only [World.size_alloc] at h; exact h
    clear bR
    clear hb1 HC
    go_wp2_with fail
    refine (HD.out _).mono ?_
    rintro e0 w2 ⟨rfl, hb2⟩
    have HB := Lib.hid (bl_trans HB1.out hb2)
    have bR' := Lib.hid (bR'.out.below hb2 (by omega))
    have cR0 := bR'.out.cell
    have fR0 := bR'.out.frozen
    have cR := fun k => (bR'.out.drewN k).cell
    have fR := fun k => (bR'.out.drewN k).frozen
    clear hb2 HD HB1
    go_wp2
    (try go_region)
    all_goals (try go_wp2)
    all_goals refine bodyPost_ret (v := .tuple #[.agg #[.int .i64 0, .int .i64 0], .bool false]) (by simp [results, Tryd.results21, go_sem, cR0]) rfl ⟨rfl, (by repeat (first | exact HB.out | refine bl_drewN ?_ _ | refine Below.drew ?_ | refine bl_alloc ?_ _ | refine bl_set ?_ (by dsimp only; omega) _))⟩
  obtain ⟨a, b, rfl, rfl, hA⟩ := sh_of ha
  obtain ⟨x, y, rfl, rfl, hX⟩ := sh_of hc
  have HC := Lib.hid (fun W : World => sShare_is W a b true ha)
  have HD := Lib.hid (fun W : World => sShare_is W x y true hc)
  obtain ⟨a0, a1, a2, a3⟩ := hA
  obtain ⟨x0, x1, x2, x3⟩ := hX
  have HA := Lib.hid (show Sh a b from ⟨a0, a1, a2, a3⟩)
  have HX := Lib.hid (show Sh x y from ⟨x0, x1, x2, x3⟩)
  clear ha hc a3 x3
  have HL := Lib.hid (fun W : World => l2_is W a b x y p q c HA.out HX.out hp hb)
  clear hp hb
  go_enter Tryd.func21, Tryd.ntmps21
  go_wp2_with fail
  refine (HC.out _).mono ?_
  rintro e0 w1 ⟨rfl, hb1⟩
  have HB1 := Lib.hid (bl_trans (bl_alloc (bl_alloc (bl_alloc (Below.refl _ w) _) _) _) hb1)
  have hs1 := hb1.size
  simp at hs1
  have b1 := Lib.hid (((Blk.new w 26 #[.int .i64 (a : Int), .int .i64 (b : Int)]).alloc (.cells #[.int .i64 (x : Int), .int .i64 (y : Int)] 26)).alloc (.cells #[.int .i64 0, .int .i64 0] 26) |>.below hb1 (by simp; omega))
  have b2 := Lib.hid ((Blk.new (w.alloc (.cells #[.int .i64 (a : Int), .int .i64 (b : Int)] 26)) 26 #[.int .i64 (x : Int), .int .i64 (y : Int)]).alloc (.cells #[.int .i64 0, .int .i64 0] 26) |>.below hb1 (by simp))
  have b2' : Hid (Blk w1 (w.heap.size + 1) 26 #[.int .i64 (x : Int), .int .i64 (y : Int)]) := by have h := b2.out; simp only [World.size_alloc] at h; exact h
  have c1 := b1.out.cell
  have c2 := b2'.out.cell
  have bR := Lib.hid ((Blk.new ((w.alloc (.cells #[.int .i64 (a : Int), .int .i64 (b : Int)] 26)).alloc (.cells #[.int .i64 (x : Int), .int .i64 (y : Int)] 26)) 26 #[.int .i64 0, .int .i64 0]).below hb1 (by simp))
  have bR' : Hid (Blk w1 (w.heap.size + 1 + 1) 26 #[.int .i64 0, .int .i64 0]) := by have h := bR.out; simp only [World.size_alloc] at h; exact h
  clear bR
  clear hb1 HC b2
  go_wp2_with fail
  refine (HD.out _).mono ?_
  rintro e0 w2 ⟨rfl, hb2⟩
  have HB2 := Lib.hid (bl_trans HB1.out hb2)
  have hs2 := hb2.size
  have d1 := Lib.hid (b1.out.below hb2 (by omega))
  have d2 := Lib.hid (b2'.out.below hb2 (by omega))
  have bR2 := Lib.hid (bR'.out.below hb2 (by omega))
  clear bR'
  clear hb2 HD HB1 c1 c2 b1 b2'
  have c1 := d1.out.cell
  have c2 := d2.out.cell
  go_wp2_with fail
  refine (HL.out _).mono ?_
  rintro e0 w3 ⟨rfl, hb⟩
  have HB3 := Lib.hid (bl_trans HB2.out hb)
  have bR := bR2.out.below hb bR2.out.lt
  have cR := bR.cell
  have fR := bR.frozen
  clear hb bR c1 c2
  all_goals go_wp2
  all_goals refine bodyPost_ret (v := .tuple #[.agg #[.int .i64 (p : Int), .int .i64 (q : Int)], .bool c]) (by simp [results, Tryd.results21, go_sem, cR]) rfl ⟨rfl, (by repeat (first | exact HB3.out | refine bl_drewN ?_ _ | refine Below.drew ?_ | refine bl_alloc ?_ _ | refine bl_set ?_ (by dsimp only; omega) _))⟩

end Go.Proofs.YtbaecbibkmdbiabDoor
