/- The walk of the law FnGroupShare. -/
import Derived.Test.YtfjbkblodgdcnaaDoorDq
import Derived.Test.YtfjbkblodgdcnaaDoorGp
import Derived.Test.YtfjbkblodgdcnaaDoorNC
import Derived.Test.YtfjbkblodgdcnaaDoorNB
import Derived.Test.YtfjbkblodgdcnaaDoorNA
import Derived.Deep.RegionWith
namespace Go.Proofs.YtfjbkblodgdcnaaDoor
open Go.RowKit
set_option linter.unusedVariables false

set_option maxRecDepth 100000 in
set_option maxHeartbeats 4000000 in
theorem fnGroupShare_walk (w : World) (A : Option Addr) (n c : Nat) (f : Nat → Int) (h : Code w w.heap.size A n c f) (e0 : Addr) (he : EG w e0) :
    Calls Tryd.prog 8 #[.slice A n c] w fun e w' => e = .returned (.bool true) ∧ Below w.heap.size w w' := by
  have H := Lib.hid h
  have HE := Lib.hid he
  have hle := h.le
  have hmax := h.max
  unfold maxLen at hmax
  clear h he
  by_cases hn : 1048576 < n
  · go_enter Tryd.func8, Tryd.ntmps8
    go_wp2
    go_ret
    exact ⟨rfl, Below.refl _ _⟩
  go_enter Tryd.func8, Tryd.ntmps8
  go_wp2_with fail
  refine (dDrawGroupOf_any _ A n c f H.out).mono ?_
  rintro e w1 ⟨At, ct, ts, Az, cz, zs, z, rfl, hl, hzl, hzz, ho, hoz, hb⟩
  have HB1 := Lib.hid hb
  have HO := Lib.hid ho
  have HT := Lib.hid ho.reads.2
  have hct := own_le ho
  have hcz := hoz.le
  have HZ1 := Lib.hid hoz.reads
  clear hb ho hoz H
  have HD1 := Lib.hid (Below.refl w1.heap.size w1)
  have hs1 := HB1.out.size
  obtain ⟨b, hv⟩ : ∃ b, groupB ts zs z = b := ⟨_, rfl⟩
  obtain ⟨xs, hxs⟩ : ∃ xs, xs = if b then groupL ts zs z else [] := ⟨_, rfl⟩
  have HV := Lib.hid hv
  have HXS : Hid (xs = if b = true then groupL ts zs z else []) := hxs
  have hxl : xs.length ≤ 4 := by
    rw [hxs]
    split
    · exact Nat.le_trans (groupK_len _ _ _ _) hl
    · exact Nat.zero_le _
  clear hv hxs
  go_wp2_with fail
  refine (iGroup_is w1 At _ ct ts Az _ cz zs z xs b (tks_to HT.out HD1.out) (by omega) HZ1.out (by omega) HV.out HXS.out).mono ?_
  rintro e w2 ⟨Ax, cx, rfl, ho, hb⟩
  have hs2 := hb.size
  have HB2 := Lib.hid (show Below w.heap.size w w2 from bl_trans HB1.out hb)
  have HD2 := Lib.hid (show Below w1.heap.size w1 w2 from bl_trans HD1.out hb)
  have HZ2 := Lib.hid ((HZ1.out.below hb).more hb.size)
  have HX2 := Lib.hid (ho)
  clear hb ho
  go_wp2_with fail
  refine (sGroup_is w2 At _ ct ts Az _ cz zs z xs b (tks_to HT.out HD2.out) (by omega) HZ2.out (by omega) HV.out HXS.out).mono ?_
  rintro e w3 ⟨Aw, cw, rfl, ho, hb⟩
  have hs3 := hb.size
  have HB3 := Lib.hid (show Below w.heap.size w w3 from bl_trans HB2.out hb)
  have HD3 := Lib.hid (show Below w1.heap.size w1 w3 from bl_trans HD2.out hb)
  have HZ3 := Lib.hid ((HZ2.out.below hb).more hb.size)
  have HX3 := Lib.hid (HX2.out.below hb)
  have HW3 := Lib.hid (ho)
  clear hb ho
  go_wp2_with fail
  refine (dmTasks_any w3 Ax Aw _ cx cw xs HX3.out.reads.2 HW3.out.reads.2 (by omega)).mono ?_
  rintro e w4 ⟨rfl, hb⟩
  have hs4 := hb.size
  have HB4 := Lib.hid (show Below w.heap.size w w4 from bl_trans HB3.out hb)
  have HD4 := Lib.hid (show Below w1.heap.size w1 w4 from bl_trans HD3.out hb)
  have HZ4 := Lib.hid ((HZ3.out.below hb).more hb.size)
  have HX4 := Lib.hid (HX3.out.below hb)
  have HW4 := Lib.hid (HW3.out.below hb)
  clear hb
  cases b
  · go_wp2_with fail
    refine (dmTasks_any w4 Ax Aw _ cx cw xs HX4.out.reads.2 HW4.out.reads.2 (by omega)).mono ?_
    rintro e w5 ⟨rfl, hb⟩
    have hs5 := hb.size
    have HB5 := Lib.hid (show Below w.heap.size w w5 from bl_trans HB4.out hb)
    have HD5 := Lib.hid (show Below w1.heap.size w1 w5 from bl_trans HD4.out hb)
    have HZ5 := Lib.hid ((HZ4.out.below hb).more hb.size)
    have HX5 := Lib.hid (HX4.out.below hb)
    have HW5 := Lib.hid (HW4.out.below hb)
    clear hb
    go_wp2
    go_ret
    exact ⟨rfl, HB5.out⟩
  · have HP : Hid (packB ts zs 3 = true) := group_pack HV.out
    have HS : Hid (setB ts = true) := (packB_iff.1 HP.out).1
    have HF := Lib.hid (sumG_facts HP.out).1
    have HF3 := Lib.hid (sumG_facts HP.out).2
    go_wp2
    go_loopw [11] (fun i wr => ∃ j s1 s2 : Nat, j ≤ 3 ∧ i = .int .i64 j ∧ Hid (sumG ts zs j = (s1, s2)) ∧ Hid (Blk wr w4.heap.size 40 #[.int .i64 (s1 : Int), .int .i64 (s2 : Int)]) ∧ Hid (Below w4.heap.size w4 wr)) (fun i _ => 3 - (intOf i).toNat)
    case atStart => exact ⟨0, 0, 1, Nat.zero_le _, rfl, Lib.hid rfl, Lib.hid (Blk.new w4 _ _), Lib.hid (bl_alloc (Below.refl _ _) _)⟩
    case round =>
      obtain ⟨j, s1, s2, hj, rfl, HQ, HX0, HR⟩ := hrel
      by_cases hlt : j < 3
      · have hji : (j : Int) < 3 := by omega
        have HV2 : Hid (groupB ts zs (j : Int) = true) := group_any HP.out hlt
        have HSG : Hid (setB (groupL ts zs (j : Int)) = true) := group_set _ _ HS.out
        have hgl : (groupL ts zs (j : Int)).length ≤ 4 := Nat.le_trans (groupK_len _ _ _ _) hl
        obtain ⟨fa, fs⟩ := HF.out j hlt
        have fn : sumG ts zs (j + 1) = addN (sumG ts zs j) (highOf (groupL ts zs (j : Int))) := rfl
        rw [HQ.out] at fa fs fn
        obtain ⟨us, hus⟩ : ∃ us, us = groupL ts zs (j : Int) := ⟨_, rfl⟩
        rw [← hus] at HSG hgl fa fn
        have HU : Hid (us = if true = true then groupL ts zs (j : Int) else []) := hus
        obtain ⟨p1, q1, hp1⟩ : ∃ p q, highOf us = (p, q) := ⟨_, _, rfl⟩
        have fh := (highOf_sh HSG.out).1
        rw [hp1] at fh fa fn
        obtain ⟨p2, q2, hp2⟩ : ∃ p q, addN (s1, s2) (p1, q1) = (p, q) := ⟨_, _, rfl⟩
        obtain ⟨g1, g2⟩ := plus_sh fs fh
        rw [fa] at g1 g2
        rw [if_pos rfl, hp2] at g2
        rw [hp2] at fn
        have HPA := Lib.hid g2
        have HPB := Lib.hid g1
        have HSN := Lib.hid fn
        have HP1 := Lib.hid hp1
        clear hus fa fs fn fh g1 g2 hp1 hp2
        go_wp2_with fail
        refine (iGroup_is wr At _ ct ts Az _ cz zs (j : Int) us true (tks_to HT.out (bl_trans HD4.out HR.out)) (by omega) ((HZ4.out.below HR.out).more HR.out.size) (by omega) HV2.out HU.out).mono ?_
        rintro e w8 ⟨Ag, cg, rfl, ho, hb⟩
        have HR8 := Lib.hid (show Below w4.heap.size w4 w8 from bl_trans HR.out hb)
        have HG8 := Lib.hid ho.reads.2
        have HX8 := Lib.hid (HX0.out.below hb HX0.out.lt)
        have HE8 := Lib.hid (HE.out.below (bl_trans HB4.out HR8.out))
        clear ho hb
        go_wp2
        have cX8 := HX8.out.cell
        have cA8 := fun (o : Obj) => (HX8.out.alloc o).cell
        have HX8L := Lib.hid HX8.out.lt
        go_region_with (first
          | (go_at_call 29; refine (iHigh_is _ Ag _ cg us ?_ (by omega) e0 ?_ p1 q1 HP1.out).mono ?_; (exact (HG8.out.below (by repeat (first | exact Below.refl _ _ | with_reducible refine Below.drew ?_ | with_reducible refine bl_alloc ?_ _) : Below w8.heap.size w8 _)).more (by first | exact Nat.le_refl _ | (simp; done) | (simp; omega))); (exact HE8.out.below (by repeat (first | exact Below.refl _ _ | with_reducible refine Below.drew ?_ | with_reducible refine bl_alloc ?_ _) : Below w8.heap.size w8 _)); rintro e w9 ⟨rfl, hb⟩; have HR9 := Lib.hid (bl_trans (by repeat (first | exact Below.refl _ _ | with_reducible refine Below.drew ?_ | with_reducible refine bl_alloc ?_ _) : Below w8.heap.size w8 _) hb); (try have HN := Lib.hid (show Blk w9 w8.heap.size 40 #[.int .i64 0, .int .i64 0] from (Blk.new w8.drew 40 #[.int .i64 0, .int .i64 0]).below hb (Blk.new w8.drew 40 #[.int .i64 0, .int .i64 0]).lt)); have cX9 := (HX8.out.below HR9.out HX8.out.lt).cell; have cA9 := fun (o : Obj) => ((HX8.out.below HR9.out HX8.out.lt).alloc o).cell; clear hb)
          | (go_at_call 34; refine (iAdd_is _ e0 ?_ s1 s2 p1 q1 p2 q2 true HPA.out HPB.out).mono ?_; (exact HE8.out.below (by repeat (first | with_reducible exact HR9.out | with_reducible refine bl_alloc ?_ _) : Below w8.heap.size w8 _)); rintro e w10 ⟨rfl, hb⟩; have HR10 := Lib.hid (bl_trans (by repeat (first | with_reducible exact HR9.out | with_reducible refine bl_alloc ?_ _) : Below w8.heap.size w8 _) hb); (first | (have HN := Lib.hid (HN.out.below hb HN.out.lt); have cN := HN.out.cell; have fN := HN.out.frozen) | (have HN := Lib.hid (show Blk w10 w9.heap.size 40 #[.int .i64 0, .int .i64 0] from (Blk.new w9 40 #[.int .i64 0, .int .i64 0]).below hb (Blk.new w9 40 #[.int .i64 0, .int .i64 0]).lt); have cN := HN.out.cell; have fN := HN.out.frozen) | skip); clear hb))
        all_goals (
          (try clear cX8)
          (try clear cX9)
          (try clear cA8)
          (try clear cA9)
          have HX10 := Lib.hid (HX8.out.below HR10.out HX8.out.lt)
          have HRk := Lib.hid (bl_trans HR8.out HR10.out)
          have hx8 : w4.heap.size < w8.heap.size := HX8L.out
          have hs89 : w8.heap.size ≤ w9.heap.size := HR9.out.size
          have hs810 : w8.heap.size ≤ w10.heap.size := HR10.out.size
          have hx1 : ¬ w4.heap.size = w8.heap.size := by omega
          have hx2 : ¬ w4.heap.size = w9.heap.size := by omega
          have hx3 : ¬ w4.heap.size = w10.heap.size := by omega
          have hx4 : ¬ w8.heap.size = w4.heap.size := by omega
          have hx5 : ¬ w9.heap.size = w4.heap.size := by omega
          have hsk : w4.heap.size ≤ w8.heap.size := by omega
          first
          | (have hN := HN.out.lt
             have cX := HX10.out.cell
             have fX := HX10.out.frozen
             go_wp2
             go_roundw
             case rel =>
               refine ⟨j + 1, p2, q2, by omega, by go_num, HSN, Lib.hid ?_, Lib.hid ?_⟩
               · first
                 | (have h := Blk.set_ (Blk.set_ (Blk.far (Blk.far HX10.out (p := ⟨w8.heap.size, 0, none⟩) (by dsimp only; omega) (.int .i64 (p2 : Int))) (p := ⟨w8.heap.size, 1, none⟩) (by dsimp only; omega) (.int .i64 (q2 : Int))) 0 (.int .i64 (p2 : Int))) 1 (.int .i64 (q2 : Int))
                    simpa using h)
                 | (have h := Blk.set_ (Blk.set_ (Blk.far (Blk.far HX10.out (p := ⟨w9.heap.size, 0, none⟩) (by dsimp only; omega) (.int .i64 (p2 : Int))) (p := ⟨w9.heap.size, 1, none⟩) (by dsimp only; omega) (.int .i64 (q2 : Int))) 0 (.int .i64 (p2 : Int))) 1 (.int .i64 (q2 : Int))
                    simpa using h)
               · repeat (refine Below.setCell ?_ (by dsimp only; omega) _)
                 exact HRk.out
             case measure => simp [intOf]; omega)
          | (have cN := (Blk.new w10 40 #[.int .i64 (p2 : Int), .int .i64 (q2 : Int)]).cell
             have fX := (HX10.out.alloc (.cells #[.int .i64 (p2 : Int), .int .i64 (q2 : Int)] 40)).frozen
             have cX := (HX10.out.alloc (.cells #[.int .i64 (p2 : Int), .int .i64 (q2 : Int)] 40)).cell
             go_wp2
             go_roundw
             case rel =>
               refine ⟨j + 1, p2, q2, by omega, by go_num, HSN, Lib.hid ?_, Lib.hid ?_⟩
               · have h := ((HX10.out.alloc (.cells #[.int .i64 (p2 : Int), .int .i64 (q2 : Int)] 40)).set_ 0 (.int .i64 (p2 : Int))).set_ 1 (.int .i64 (q2 : Int))
                 simpa using h
               · exact Below.setCell (Below.setCell (bl_alloc HRk.out _) (by dsimp only; omega) _) (by dsimp only; omega) _
             case measure => simp [intOf]; omega))
      · obtain rfl : j = 3 := by omega
        have HH := Lib.hid (HF3.out.symm.trans HQ.out)
        have HEr := Lib.hid (HE.out.below (bl_trans HB4.out HR.out))
        have HTr := Lib.hid (tks_to HT.out (bl_trans HD4.out HR.out))
        go_wp2
        have cX := HX0.out.cell
        go_region_with (go_at_call 29; refine (iHigh_is _ At _ ct ts ?_ (by omega) e0 ?_ s1 s2 HH.out).mono ?_; (exact (HTr.out.below (Below.drew (Below.refl _ _)) : Tks _ _ _ _ _)); (exact HEr.out.below (Below.drew (Below.refl _ _) : Below wr.heap.size wr _)); rintro e w9 ⟨rfl, hb⟩; have HR9 := Lib.hid (bl_trans (Below.drew (Below.refl _ _) : Below wr.heap.size wr wr.drew) hb); have cX9 := (HX0.out.below HR9.out HX0.out.lt).cell; clear hb)
        all_goals (
          go_wp2
          go_ret
          exact ⟨rfl, bl_trans HB4.out (bl_trans HR.out HR9.out)⟩)

end Go.Proofs.YtfjbkblodgdcnaaDoor
