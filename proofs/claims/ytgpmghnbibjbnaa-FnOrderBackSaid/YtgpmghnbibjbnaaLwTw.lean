/- The walk of the law FnOrderTwice. -/
import Derived.Test.YtgpmghnbibjbnaaLwPm
import Derived.Test.YtgpmghnbibjbnaaMB
import Derived.Test.YtgpmghnbibjbnaaMC
namespace Go.Proofs.Ytgpmghnbibjbnaa
open Go.RowKit
set_option linter.unusedVariables false

theorem ownsRow_pos {W : World} {base : Nat} {e : TypeId} {size : Nat} {v : Value} {k : Nat} {xs : List Value} (h : W.ownsRow base e size v k xs) (hk : 0 < k) : ∃ g cap, v = .slice (some ⟨g, 0, none⟩) k cap := by
  rcases h.2 with ⟨_, h0⟩ | ⟨g, cap, _, rfl, _⟩
  · omega
  · exact ⟨g, cap, rfl⟩
theorem twice_no {zs : List Int} {n : Nat} {z : Int} (h : zs[1]? = some z) : ordB (zs.set 0 z) n = false := by
  cases hx : ordB (zs.set 0 z) n
  · rfl
  · have hn := (ordB_iff.1 hx).2.2
    cases zs with
    | nil => simp at h
    | cons a zs =>
      cases zs with
      | nil => simp at h
      | cons b zs =>
        simp at h
        subst h
        simp at hn
theorem part_no {zs : List Int} {n : Nat} (h : ordB zs n = true) (h2 : 2 ≤ zs.length) : ordB (zs.drop 1) n = false := by
  cases hx : ordB (zs.drop 1) n
  · rfl
  · have h1 := (ordB_iff.1 hx).1
    have h3 := (ordB_iff.1 h).1
    rw [List.length_drop] at h1
    omega

set_option maxRecDepth 100000 in
set_option maxHeartbeats 4000000 in
theorem fnOrderTwice_walk (w : World) (A : Option Addr) (n c : Nat) (f : Nat → Int) (h : Code w w.heap.size A n c f) :
    Calls Try.prog 10 #[.slice A n c] w fun e w' => e = .returned (.bool true) ∧ Below w.heap.size w w' := by
  have H := Lib.hid h
  have hle := h.le
  have hmax := h.max
  unfold maxLen at hmax
  clear h
  by_cases hn : 1048576 < n
  · go_enter Try.func10, Try.ntmps10
    go_wp2
    go_ret
    exact ⟨rfl, Below.refl _ _⟩
  go_enter Try.func10, Try.ntmps10
  go_wp2_with fail
  refine (dDrawOrderValid_any _ A n c f H.out).mono ?_
  rintro e w1 ⟨At, ct, ts, Az, cz, zs, rfl, hl, hzl, ho, hoz, hb⟩
  have HB1 := Lib.hid hb
  have HO := Lib.hid ho
  have HT := Lib.hid ho.reads.2
  have hct := own_le ho
  have hcz := hoz.le
  have HZ1 := Lib.hid hoz.reads
  have HOZ1 := Lib.hid hoz
  clear hb ho hoz H
  have HD1 := Lib.hid (Below.refl w1.heap.size w1)
  have hs1 := HB1.out.size
  obtain ⟨b, hv⟩ : ∃ b, (setB ts && ordB zs ts.length) = b := ⟨_, rfl⟩
  have HV := Lib.hid hv
  clear hv
  go_wp2_with fail
  refine (iOrdValid_is w1 At _ ct ts Az _ cz zs (tks_to HT.out HD1.out) (by omega) HZ1.out b HV.out).mono ?_
  rintro e w2 ⟨rfl, hb⟩
  have hs2 := hb.size
  have HB2 := Lib.hid (show Below w.heap.size w w2 from bl_trans HB1.out hb)
  have HD2 := Lib.hid (show Below w1.heap.size w1 w2 from bl_trans HD1.out hb)
  have HZ2 := Lib.hid ((HZ1.out.below hb).more hb.size)
  clear hb
  go_wp2_with fail
  refine (sOrdValid_is w2 At _ ct ts Az _ cz zs (tks_to HT.out HD2.out) (by omega) HZ2.out b HV.out).mono ?_
  rintro e w3 ⟨rfl, hb⟩
  have hs3 := hb.size
  have HB3 := Lib.hid (show Below w.heap.size w w3 from bl_trans HB2.out hb)
  have HD3 := Lib.hid (show Below w1.heap.size w1 w3 from bl_trans HD2.out hb)
  have HZ3 := Lib.hid ((HZ2.out.below hb).more hb.size)
  clear hb
  cases b
  · go_wp2_with fail
    refine (sOrdValid_is w3 At _ ct ts Az _ cz zs (tks_to HT.out HD3.out) (by omega) HZ3.out false HV.out).mono ?_
    rintro e w4 ⟨rfl, hb⟩
    have hs4 := hb.size
    have HB4 := Lib.hid (show Below w.heap.size w w4 from bl_trans HB3.out hb)
    have HD4 := Lib.hid (show Below w1.heap.size w1 w4 from bl_trans HD3.out hb)
    have HZ4 := Lib.hid ((HZ3.out.below hb).more hb.size)
    clear hb
    go_wp2
    go_ret
    exact ⟨rfl, HB4.out⟩
  by_cases h2 : zs.length < 2
  · have h2i : (zs.length : Int) < 2 := by omega
    go_wp2_with fail
    refine (sOrdValid_is w3 At _ ct ts Az _ cz zs (tks_to HT.out HD3.out) (by omega) HZ3.out true HV.out).mono ?_
    rintro e w4 ⟨rfl, hb⟩
    have hs4 := hb.size
    have HB4 := Lib.hid (show Below w.heap.size w w4 from bl_trans HB3.out hb)
    have HD4 := Lib.hid (show Below w1.heap.size w1 w4 from bl_trans HD3.out hb)
    have HZ4 := Lib.hid ((HZ3.out.below hb).more hb.size)
    clear hb
    go_wp2
    go_ret
    exact ⟨rfl, HB4.out⟩
  have h2i : ¬ (zs.length : Int) < 2 := by omega
  obtain ⟨z, hz⟩ : ∃ z, zs[1]? = some z := ⟨zs[1]'(by omega), List.getElem?_eq_getElem _⟩
  obtain ⟨y, hy⟩ : ∃ y, zs[0]? = some y := ⟨zs[0]'(by omega), List.getElem?_eq_getElem _⟩
  obtain ⟨bz, oz, rfl, hbz, _⟩ := HZ1.out.at_ 1 z hz
  have HOR : Hid (ordB zs ts.length = true) := by
    have h := HV.out
    rw [Bool.and_eq_true] at h
    exact h.2
  have HN1 : Hid ((setB ts && ordB (zs.set 0 z) ts.length) = false) := by show _ = _; rw [twice_no hz, Bool.and_false]
  have HN2 : Hid ((setB ts && ordB (zs.drop 1) ts.length) = false) := by show _ = _; rw [part_no HOR.out (by omega), Bool.and_false]
  have HZZ := Lib.hid hz
  have HYY := Lib.hid hy
  have h10 : (1 : Int) < (zs.length : Int) := by omega
  have h00 : (0 : Int) < (zs.length : Int) := by omega
  clear hz hy
  obtain ⟨i0, hi, hz0, hz1, hz2⟩ := info_parts info_int
  go_wp2_with (at_builtin; refine wpList_append_own _ rfl (.tmp 37) (.tmp 38) 25 rfl w3.heap.size 3 i0 _ 1 8 Try.underlying25 hi hz0 hz1 hz2 rfl (by decide) _ 0 [] rfl (OwnZ.empty w3) ⟨bz, oz, none⟩ zs.length cz (zs.map (Value.int .i64)) rfl (by rw [List.length_map, Nat.mul_one]) (Zs.cells (HZ3.out.below (bl_alloc (Below.refl _ _) _))) (zs_one _) (by unfold maxLen; omega) (by omega) (by simp) ?_; intro v4 w4 hown' hgrow _; rw [Nat.zero_add] at hown'; have HOv := Lib.hid (show OwnZ w4 w3.heap.size v4 zs from by unfold OwnZ; simpa using hown'); have HBv := Lib.hid (show Below w3.heap.size w3 w4 from (bl_alloc (Below.refl _ _) _).grown hgrow (by simp) (fun q e => Nat.le_of_eq (Option.some.inj e))); obtain ⟨gv, cv, rfl⟩ := ownsRow_pos hown' (by omega); have hzr : Zs w4 w4.heap.size (some ⟨gv, 0, none⟩) zs.length zs := HOv.out.readsN rfl; have c0 := (hzr.get HYY.out).2; have c1 := (hzr.get HZZ.out).2; rw [Nat.zero_add] at c0 c1; have f0 := HOv.out.frozen 0; clear hzr; clear hown' hgrow)
  have hb := HBv.out
  have hs4 := hb.size
  have HB4 := Lib.hid (show Below w.heap.size w w4 from bl_trans HB3.out hb)
  have HD4 := Lib.hid (show Below w1.heap.size w1 w4 from bl_trans HD3.out hb)
  have HZ4 := Lib.hid ((HZ3.out.below hb).more hb.size)
  clear hb
  have HSO := Lib.hid (HOv.out.put 0 z)
  have hgv := HOv.out.lt
  have hlz : (zs.set 0 z).length = zs.length := List.length_set
  have HLZ := Lib.hid hlz
  have HSB : Hid (Below w4.heap.size w4 w4 ) := Below.refl _ _
  have HSB2 : Hid (Below w.heap.size w (w4.setCell ⟨gv, 0, none⟩ (.int .i64 z))) := bl_set HB4.out (by dsimp only; omega) _
  have HSD2 : Hid (Below w1.heap.size w1 (w4.setCell ⟨gv, 0, none⟩ (.int .i64 z))) := bl_set HD4.out (by dsimp only; omega) _
  have HXR : Hid (Zs (w4.setCell ⟨gv, 0, none⟩ (.int .i64 z)) (w4.setCell ⟨gv, 0, none⟩ (.int .i64 z)).heap.size (some ⟨gv, 0, none⟩) zs.length (zs.set 0 z)) := HSO.out.readsN hlz
  have e1 : (1 : Int) ≤ (zs.length : Int) := by omega
  have e2 : (1 : Int) ≤ (cz : Int) := by omega
  have e3 : (zs.length : Int) ≤ (cz : Int) := by omega
  have e4 : ((1 : Int) == (cz : Int)) = false := by rw [beq_eq_false_iff_ne]; omega
  have e5 : ¬ (1 : Int) = (cz : Int) := by omega
  have e6 : ¬ cz = 1 := by omega
  clear hlz
  go_wp2_with fail
  refine (iOrdValid_is _ At _ ct ts (some ⟨gv, 0, none⟩) zs.length cv (zs.set 0 z) (tks_to HT.out HSD2.out) (by omega) HXR.out false HN1.out).mono ?_
  rintro e w5 ⟨rfl, hb⟩
  have HBA := Lib.hid (bl_trans HSB2.out hb)
  have HDA := Lib.hid (bl_trans HSD2.out hb)
  clear hb
  have HZD : Hid (Zs w5 w5.heap.size (some ⟨bz, oz + 1, none⟩) (zs.length - 1) (zs.drop 1)) := Zs.drop (k := 1) ((HZ1.out.below HDA.out).more HDA.out.size) rfl
  go_wp2_with fail
  refine (iOrdValid_is _ At _ ct ts (some ⟨bz, oz + 1, none⟩) (zs.length - 1) (cz - 1) (zs.drop 1) (tks_to HT.out HDA.out) (by omega) HZD.out false HN2.out).mono ?_
  rintro e w6 ⟨rfl, hb⟩
  have HBB := Lib.hid (bl_trans HBA.out hb)
  clear hb
  go_wp2
  go_ret
  exact ⟨rfl, HBB.out⟩

end Go.Proofs.Ytgpmghnbibjbnaa
