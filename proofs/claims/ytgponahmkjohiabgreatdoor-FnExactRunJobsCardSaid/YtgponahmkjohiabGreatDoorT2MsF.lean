import Derived.Deep.RegionHeld3
import Derived.Test.YtgponahmkjohiabGreatDoorT2McR
import Derived.Test.YtgponahmkjohiabGreatDoorT2MsE
import Derived.Test.YtgponahmkjohiabGreatDoorT2NC
import Derived.Test.YtgponahmkjohiabGreatDoorT2NE
namespace Go.Proofs.YtgponahmkjohiabGreatDoor
open Go.RowKit
set_option linter.unusedVariables false
set_option maxRecDepth 100000 in
set_option maxHeartbeats 2000000 in
theorem sPolicy_is (w : World) (A : Option Addr) (n c : Nat) (ts : List Tk) (h : Tks w w.heap.size A n ts) (hn : n ≤ 1048576) (pol : Int) (X Y : Nat) (b : Bool) (hX : polX ts pol = (X, Y)) (hb : polB ts pol = b) :
    Calls Tryz.prog 49 #[.slice A n c, .int .i64 pol] w (MkRes X Y b w) := by
  have HT := Lib.hid h
  have hF := Blk.new w 87 #[.int .i64 0, .int .i64 0]
  have HW := Lib.hid hF
  clear h
  by_cases hp : pol = 0
  · subst hp
    obtain ⟨rfl, rfl⟩ : X = 1 ∧ Y = 1 := by unfold polX at hX; rw [if_pos rfl] at hX; injection hX with h1 h2; exact ⟨h1.symm, h2.symm⟩
    obtain rfl : b = true := by rw [← hb]; rfl
    clear hX hb
    go_enter Tryz.func49, Tryz.ntmps49
    go_wp2_with fail
    refine (sOne_is _).mono ?_
    rintro e w1 ⟨rfl, hb⟩
    have HB1 := Lib.hid (bl_trans (bl_alloc (Below.refl _ w) _) hb)
    have HF1 := Lib.hid (HW.out.below hb (by simp))
    clear hb hF
    obtain ⟨c0, c1⟩ := HF1.out.two
    have fF := HF1.out.frozen
    have hZ := (HF1.out.set_ 0 (.int .i64 1)).set_ 1 (.int .i64 1)
    obtain ⟨z0, z1⟩ := Blk.two (w := (w1.setCell ⟨w.heap.size, 0, none⟩ (.int .i64 1)).setCell ⟨w.heap.size, 1, none⟩ (.int .i64 1)) hZ
    clear hZ
    go_wp2
    refine bodyPost_ret (v := .tuple #[.agg #[.int .i64 1, .int .i64 1], .bool true]) (by simp [results, Tryz.results49, go_sem, z0, z1]) rfl ⟨rfl, bl_set (bl_set HB1.out (by dsimp only; omega) _) (by dsimp only; omega) _⟩
  have t1 : (pol == 0) = false := by simpa using hp
  have hX2 : facV ts = (X, Y) := by unfold polX at hX; rw [if_neg hp] at hX; exact hX
  obtain ⟨bf, hbf⟩ : ∃ bf, facB ts = bf := ⟨_, rfl⟩
  have hb2 : (bf && (pol == 1)) = b := by rw [← hb]; unfold polB; rw [if_neg hp, hbf]
  have HX := Lib.hid hX2
  have HBF := Lib.hid hbf
  clear hX hX2 hb hbf hp
  go_enter Tryz.func49, Tryz.ntmps49
  go_wp2_with fail
  refine (sFac_is _ A n c ts ((HT.out.below (bl_alloc (Below.refl _ w) _)).more (by simp)) hn X Y bf HX.out HBF.out).mono ?_
  rintro e w1 ⟨rfl, hb⟩
  have hs1 : w.heap.size + 1 ≤ w1.heap.size := by have := hb.size; simp at this; omega
  have HB1 := Lib.hid (bl_trans (bl_alloc (Below.refl _ w) _) hb)
  have HF1 := Lib.hid (HW.out.below hb (by simp))
  clear hb hF
  have HF2 := Lib.hid (HF1.out.alloc (.cells #[.int .i64 (X : Int), .int .i64 (Y : Int)] 87))
  have HX2 := Lib.hid (Blk.new w1 87 #[.int .i64 (X : Int), .int .i64 (Y : Int)])
  obtain ⟨c0, c1⟩ := HF2.out.two
  have fF := HF2.out.frozen
  obtain ⟨x0, x1⟩ := HX2.out.two
  have HB2 := Lib.hid (bl_alloc HB1.out (.cells #[.int .i64 (X : Int), .int .i64 (Y : Int)] 87))
  cases bf
  · obtain rfl : b = false := by rw [← hb2]; rfl
    clear hb2
    go_wp2
    have hZ := (HF2.out.set_ 0 (.int .i64 (X : Int))).set_ 1 (.int .i64 (Y : Int))
    obtain ⟨z0, z1⟩ := Blk.two (w := (((w1.alloc (.cells #[.int .i64 (X : Int), .int .i64 (Y : Int)] 87)).setCell ⟨w.heap.size, 0, none⟩ (.int .i64 (X : Int))).setCell ⟨w.heap.size, 1, none⟩ (.int .i64 (Y : Int)))) hZ
    refine bodyPost_ret (v := .tuple #[.agg #[.int .i64 (X : Int), .int .i64 (Y : Int)], .bool false]) (by simp [results, Tryz.results49, go_sem, z0, z1]) rfl ⟨rfl, bl_set (bl_set HB2.out (by dsimp only; omega) _) (by dsimp only; omega) _⟩
  · rw [Bool.true_and] at hb2
    cases hq : (pol == 1)
    · obtain rfl : b = false := by rw [← hb2, hq]
      clear hb2
      go_wp2
      have hZ := (HF2.out.set_ 0 (.int .i64 (X : Int))).set_ 1 (.int .i64 (Y : Int))
      obtain ⟨z0, z1⟩ := Blk.two (w := (((w1.alloc (.cells #[.int .i64 (X : Int), .int .i64 (Y : Int)] 87)).setCell ⟨w.heap.size, 0, none⟩ (.int .i64 (X : Int))).setCell ⟨w.heap.size, 1, none⟩ (.int .i64 (Y : Int)))) hZ
      refine bodyPost_ret (v := .tuple #[.agg #[.int .i64 (X : Int), .int .i64 (Y : Int)], .bool false]) (by simp [results, Tryz.results49, go_sem, z0, z1]) rfl ⟨rfl, bl_set (bl_set HB2.out (by dsimp only; omega) _) (by dsimp only; omega) _⟩
    · obtain rfl : b = true := by rw [← hb2, hq]
      clear hb2
      go_wp2
      have hZ := (HF2.out.set_ 0 (.int .i64 (X : Int))).set_ 1 (.int .i64 (Y : Int))
      obtain ⟨z0, z1⟩ := Blk.two (w := (((w1.alloc (.cells #[.int .i64 (X : Int), .int .i64 (Y : Int)] 87)).setCell ⟨w.heap.size, 0, none⟩ (.int .i64 (X : Int))).setCell ⟨w.heap.size, 1, none⟩ (.int .i64 (Y : Int)))) hZ
      refine bodyPost_ret (v := .tuple #[.agg #[.int .i64 (X : Int), .int .i64 (Y : Int)], .bool true]) (by simp [results, Tryz.results49, go_sem, z0, z1]) rfl ⟨rfl, bl_set (bl_set HB2.out (by dsimp only; omega) _) (by dsimp only; omega) _⟩
/-- What RunJobs leaves: a run whose three lists are the call's own, each in memory of its own. -/
def RunRes (s : Mc) (b : Bool) (w : World) (e : Ending) (w' : World) : Prop :=
  ∃ (A1 : Option Addr) (c1 : Nat) (A2 : Option Addr) (c2 : Nat) (A3 : Option Addr) (c3 : Nat), e = .returned (.tuple #[.agg #[.slice A1 s.en.length c1, .slice A2 s.tr.length c2, .slice A3 s.sw.length c3, .bool s.hi], .bool b]) ∧
    OwnZ w' w.heap.size (.slice A1 s.en.length c1) s.en ∧ OwnZ w' w.heap.size (.slice A2 s.tr.length c2) s.tr ∧ OwnZ w' w.heap.size (.slice A3 s.sw.length c3) s.sw ∧
    apart (.slice A1 s.en.length c1) (.slice A2 s.tr.length c2) ∧ apart (.slice A1 s.en.length c1) (.slice A3 s.sw.length c3) ∧ apart (.slice A2 s.tr.length c2) (.slice A3 s.sw.length c3) ∧ Below w.heap.size w w'
theorem Blk.quad {w : World} {g : Nat} {t : TypeId} {a b c d : Value} (h : Blk w g t #[a, b, c, d]) : w.cell? ⟨g, 0, none⟩ = some a ∧ w.cell? ⟨g, 1, none⟩ = some b ∧ w.cell? ⟨g, 2, none⟩ = some c ∧ w.cell? ⟨g, 3, none⟩ = some d := ⟨h.cell 0, h.cell 1, h.cell 2, h.cell 3⟩
theorem OwnZ.nil_ (w : World) (B : Nat) : OwnZ w B (.slice none 0 0) [] := ⟨rfl, .inl ⟨rfl, rfl⟩⟩
set_option maxRecDepth 100000 in
set_option maxHeartbeats 4000000 in
theorem sRunJobs_is (w : World) (A : Option Addr) (n c : Nat) (ts : List Tk) (h : Tks w w.heap.size A n ts) (hn : n ≤ 1048576) (Aj : Option Addr) (nj cj : Nat) (js : List Jb) (hj : Jbs w w.heap.size Aj nj js) (pol tk : Int) :
    Calls Tryz.prog 14 #[.slice A n c, .slice Aj nj cj, .int .i64 pol, .int .i64 tk] w (RunRes (runR ts js pol tk) (okR ts js pol tk) w) := by
  obtain ⟨i1, hi1, hy0, hy1, hy2⟩ := info_parts info_int
  obtain ⟨X, Y, hXY⟩ : ∃ X Y, polX ts pol = (X, Y) := ⟨_, _, rfl⟩
  obtain ⟨bp, hbp⟩ : ∃ bp, polB ts pol = bp := ⟨_, rfl⟩
  obtain ⟨bj, hbj⟩ : ∃ bj, jobsB ts js = bj := ⟨_, rfl⟩
  have hXl := polX_le ts pol
  rw [hXY] at hXl
  dsimp only at hXl
  obtain ⟨sF, hsF⟩ : ∃ sF, runR ts js pol tk = sF := ⟨_, rfl⟩
  obtain ⟨bF, hbF⟩ : ∃ bF, okR ts js pol tk = bF := ⟨_, rfl⟩
  rw [hsF, hbF]
  have HSF := Lib.hid hsF
  have HBF := Lib.hid hbF
  have HT := Lib.hid h
  have HJ := Lib.hid hj
  have HLJ := Lib.hid hj.len
  have HXY := Lib.hid hXY
  have HBP := Lib.hid hbp
  have HBJ := Lib.hid hbj
  have HX0 : Hid (Blk w.drew w.heap.size 0 #[] → True) := Lib.hid (fun _ => trivial)
  have HZ0 := Lib.hid (Blk.new w 29 #[.slice none 0 0, .slice none 0 0, .slice none 0 0, .bool false])
  have HOK : Hid (okR ts js pol tk = (bj && (bp && (decide (0 ≤ tk) && decide (tk ≤ 200))))) := Lib.hid (by unfold okR; rw [hbj, hbp])
  clear h hj hXY hbp hbj HX0 hsF hbF
  go_enter Tryz.func14, Tryz.ntmps14
  go_wp2_with fail
  refine (sPolicy_is _ A n c ts ((HT.out.below (bl_alloc (Below.refl _ w) _)).more (by simp)) hn pol X Y bp HXY.out HBP.out).mono ?_
  rintro e w1 ⟨rfl, hb⟩
  have hs1 : w.heap.size + 1 ≤ w1.heap.size := by have := hb.size; simp at this; omega
  have HB1 := Lib.hid (bl_trans (bl_alloc (Below.refl _ w) _) hb)
  have HR1 := Lib.hid ((HZ0.out.below hb (by simp)).alloc (.cells #[.int .i64 (X : Int), .int .i64 (Y : Int)] 87))
  have HP1 := Lib.hid (Blk.new w1 87 #[.int .i64 (X : Int), .int .i64 (Y : Int)])
  have HB1a := Lib.hid (bl_alloc HB1.out (.cells #[.int .i64 (X : Int), .int .i64 (Y : Int)] 87))
  clear hb
  go_wp2_with fail
  refine (sJobs_is _ A n c ts ((HT.out.below HB1a.out).more HB1a.out.size) hn Aj nj cj js ((HJ.out.below HB1a.out).more HB1a.out.size) bj HBJ.out).mono ?_
  rintro e w2 ⟨rfl, hb⟩
  have hs2 : w1.heap.size + 1 ≤ w2.heap.size := by have := hb.size; simp at this; omega
  have HB2 := Lib.hid (bl_trans HB1a.out hb)
  have HR2 := Lib.hid (HR1.out.below hb (by simp; omega))
  have HP2 := Lib.hid (HP1.out.below hb (by simp))
  clear hb
  obtain ⟨r0, r1, r2, r3⟩ := Blk.quad HR2.out
  have fr := HR2.out.frozen
  obtain ⟨p0, p1⟩ := Blk.two HP2.out
  have hno : ∀ (hx : okR ts js pol tk = false), runR ts js pol tk = noM := fun hx => runR_no hx
  have HNO := Lib.hid hno
  clear hno
  cases bj
  case false =>
    have hok : okR ts js pol tk = false := by rw [HOK.out]; rfl
    obtain rfl : sF = noM := by rw [← HSF.out, HNO.out hok]
    obtain rfl : bF = false := by rw [← HBF.out, hok]
    clear hok
    go_wp2
    have hZ := (((HR2.out.set_ 0 (.slice none 0 0)).set_ 1 (.slice none 0 0)).set_ 2 (.slice none 0 0)).set_ 3 (.bool false)
    obtain ⟨z0, z1, z2, z3⟩ := Blk.quad (w := ((((w2.setCell ⟨w.heap.size, 0, none⟩ (.slice none 0 0)).setCell ⟨w.heap.size, 1, none⟩ (.slice none 0 0)).setCell ⟨w.heap.size, 2, none⟩ (.slice none 0 0)).setCell ⟨w.heap.size, 3, none⟩ (.bool false))) hZ
    clear hZ
    refine bodyPost_ret (v := .tuple #[.agg #[.slice none 0 0, .slice none 0 0, .slice none 0 0, .bool false], .bool false]) (by simp [results, Tryz.results14, go_sem, z0, z1, z2, z3]) rfl ?_
    exact ⟨none, 0, none, 0, none, 0, rfl, OwnZ.nil_ _ _, OwnZ.nil_ _ _, OwnZ.nil_ _ _, (fun k e => (by cases e)), (fun k e => (by cases e)), (fun k e => (by cases e)), bl_set (bl_set (bl_set (bl_set HB2.out (by dsimp only; omega) _) (by dsimp only; omega) _) (by dsimp only; omega) _) (by dsimp only; omega) _⟩
  cases bp
  case false =>
    have hok : okR ts js pol tk = false := by rw [HOK.out]; rfl
    obtain rfl : sF = noM := by rw [← HSF.out, HNO.out hok]
    obtain rfl : bF = false := by rw [← HBF.out, hok]
    clear hok
    go_wp2
    have hZ := (((HR2.out.set_ 0 (.slice none 0 0)).set_ 1 (.slice none 0 0)).set_ 2 (.slice none 0 0)).set_ 3 (.bool false)
    obtain ⟨z0, z1, z2, z3⟩ := Blk.quad (w := ((((w2.setCell ⟨w.heap.size, 0, none⟩ (.slice none 0 0)).setCell ⟨w.heap.size, 1, none⟩ (.slice none 0 0)).setCell ⟨w.heap.size, 2, none⟩ (.slice none 0 0)).setCell ⟨w.heap.size, 3, none⟩ (.bool false))) hZ
    clear hZ
    refine bodyPost_ret (v := .tuple #[.agg #[.slice none 0 0, .slice none 0 0, .slice none 0 0, .bool false], .bool false]) (by simp [results, Tryz.results14, go_sem, z0, z1, z2, z3]) rfl ?_
    exact ⟨none, 0, none, 0, none, 0, rfl, OwnZ.nil_ _ _, OwnZ.nil_ _ _, OwnZ.nil_ _ _, (fun k e => (by cases e)), (fun k e => (by cases e)), (fun k e => (by cases e)), bl_set (bl_set (bl_set (bl_set HB2.out (by dsimp only; omega) _) (by dsimp only; omega) _) (by dsimp only; omega) _) (by dsimp only; omega) _⟩
  by_cases h0 : 0 ≤ tk
  case neg =>
    have hok : okR ts js pol tk = false := by rw [HOK.out]; simp [h0]
    have d0 : tk < 0 := by omega
    have e0 : decide (tk < 0) = true := decide_eq_true d0
    obtain rfl : sF = noM := by rw [← HSF.out, HNO.out hok]
    obtain rfl : bF = false := by rw [← HBF.out, hok]
    clear hok
    go_wp2
    have hZ := (((HR2.out.set_ 0 (.slice none 0 0)).set_ 1 (.slice none 0 0)).set_ 2 (.slice none 0 0)).set_ 3 (.bool false)
    obtain ⟨z0, z1, z2, z3⟩ := Blk.quad (w := ((((w2.setCell ⟨w.heap.size, 0, none⟩ (.slice none 0 0)).setCell ⟨w.heap.size, 1, none⟩ (.slice none 0 0)).setCell ⟨w.heap.size, 2, none⟩ (.slice none 0 0)).setCell ⟨w.heap.size, 3, none⟩ (.bool false))) hZ
    clear hZ
    refine bodyPost_ret (v := .tuple #[.agg #[.slice none 0 0, .slice none 0 0, .slice none 0 0, .bool false], .bool false]) (by simp [results, Tryz.results14, go_sem, z0, z1, z2, z3]) rfl ?_
    exact ⟨none, 0, none, 0, none, 0, rfl, OwnZ.nil_ _ _, OwnZ.nil_ _ _, OwnZ.nil_ _ _, (fun k e => (by cases e)), (fun k e => (by cases e)), (fun k e => (by cases e)), bl_set (bl_set (bl_set (bl_set HB2.out (by dsimp only; omega) _) (by dsimp only; omega) _) (by dsimp only; omega) _) (by dsimp only; omega) _⟩
  by_cases h2 : tk ≤ 200
  case neg =>
    have hok : okR ts js pol tk = false := by rw [HOK.out]; simp [h2]
    have d0 : ¬ tk < 0 := by omega
    have d1 : 200 < tk := by omega
    have e0 : decide (tk < 0) = false := decide_eq_false d0
    have e1 : decide (200 < tk) = true := decide_eq_true d1
    obtain rfl : sF = noM := by rw [← HSF.out, HNO.out hok]
    obtain rfl : bF = false := by rw [← HBF.out, hok]
    clear hok
    go_wp2
    have hZ := (((HR2.out.set_ 0 (.slice none 0 0)).set_ 1 (.slice none 0 0)).set_ 2 (.slice none 0 0)).set_ 3 (.bool false)
    obtain ⟨z0, z1, z2, z3⟩ := Blk.quad (w := ((((w2.setCell ⟨w.heap.size, 0, none⟩ (.slice none 0 0)).setCell ⟨w.heap.size, 1, none⟩ (.slice none 0 0)).setCell ⟨w.heap.size, 2, none⟩ (.slice none 0 0)).setCell ⟨w.heap.size, 3, none⟩ (.bool false))) hZ
    clear hZ
    refine bodyPost_ret (v := .tuple #[.agg #[.slice none 0 0, .slice none 0 0, .slice none 0 0, .bool false], .bool false]) (by simp [results, Tryz.results14, go_sem, z0, z1, z2, z3]) rfl ?_
    exact ⟨none, 0, none, 0, none, 0, rfl, OwnZ.nil_ _ _, OwnZ.nil_ _ _, OwnZ.nil_ _ _, (fun k e => (by cases e)), (fun k e => (by cases e)), (fun k e => (by cases e)), bl_set (bl_set (bl_set (bl_set HB2.out (by dsimp only; omega) _) (by dsimp only; omega) _) (by dsimp only; omega) _) (by dsimp only; omega) _⟩
  have d0 : ¬ tk < 0 := by omega
  have d1 : ¬ 200 < tk := by omega
  have e0 : decide (tk < 0) = false := decide_eq_false d0
  have e1 : decide (200 < tk) = false := decide_eq_false d1
  have hok : okR ts js pol tk = true := by rw [HOK.out]; simp [h0, h2]
  obtain rfl : bF = true := by rw [← HBF.out, hok]
  obtain ⟨T, hT⟩ : ∃ T : Nat, tk = (T : Int) := ⟨tk.toNat, by omega⟩
  subst hT
  have HEND : Hid (runM ts js (poOf ts pol) T = sF) := Lib.hid (by rw [← HSF.out, runR_ok hok]; rfl)
  clear hok HOK HNO HSF HBF
  have hT2 : T ≤ 200 := by omega
  have h60 : js.length ≤ 60 := (wrsB_iff.1 (jobs_wrs HBJ.out)).1
  obtain ⟨W3, hW3⟩ : ∃ W3, w2.alloc (.cells #[.slice none 0 0, .slice none 0 0, .slice none 0 0, .bool false, .slice none 0 0, .int .i64 0, .int .i64 (X : Int), .int .i64 (Y : Int)] 92) = W3 := ⟨_, rfl⟩
  have HC3 : Hid (Blk W3 w2.heap.size 92 #[.slice none 0 0, .slice none 0 0, .slice none 0 0, .bool false, .slice none 0 0, .int .i64 0, .int .i64 (X : Int), .int .i64 (Y : Int)]) := Lib.hid (hW3 ▸ Blk.new w2 _ _)
  have HR3 : Hid (Blk W3 w.heap.size 29 #[.slice none 0 0, .slice none 0 0, .slice none 0 0, .bool false]) := Lib.hid (hW3 ▸ HR2.out.alloc _)
  have HB3 : Hid (Below w.heap.size w W3) := Lib.hid (hW3 ▸ bl_alloc HB2.out _)
  have hsz3 : W3.heap.size = w2.heap.size + 1 := by rw [← hW3]; simp
  have HT3 : Hid (Tks W3 w2.heap.size A n ts) := Lib.hid ((HT.out.below HB3.out).more (by omega))
  have HJ3 : Hid (Jbs W3 w2.heap.size Aj nj js) := Lib.hid ((HJ.out.below HB3.out).more (by omega))
  have HS3 : Hid (StM W3 (w2.heap.size + 1) (.slice none 0 0) (.slice none 0 0) (.slice none 0 0) (.slice none 0 0) noM) := Lib.hid ⟨OwnZ.nil_ _ _, OwnZ.nil_ _ _, OwnZ.nil_ _ _, OwnW.nil_ _ _, (fun k e => (by cases e)), (fun k e => (by cases e)), (fun k e => (by cases e)), (fun k e => (by cases e)), (fun k e => (by cases e)), (fun k e => (by cases e))⟩
  clear p0 p1 r0 r1 r2 r3 fr h0 h2
  obtain ⟨p0, p1⟩ := Blk.two HP2.out
  have hln := HLJ.out
  go_wp2
  try rw [hW3]
  clear d0 d1 e0 e1
  go_loopw [13] (fun i wr => ∃ q : Nat, ∃ (Ae : Option Addr) (ce : Nat), q ≤ nj ∧ i = .int .i64 (q : Int) ∧ Hid (StM wr (w2.heap.size + 1) (.slice Ae q ce) (.slice none 0 0) (.slice none 0 0) (.slice none 0 0) ⟨List.replicate q (-1), [], [], false, [], 0⟩) ∧ Hid (Blk wr w2.heap.size 92 #[.slice Ae q ce, .slice none 0 0, .slice none 0 0, .bool false, .slice none 0 0, .int .i64 0, .int .i64 (X : Int), .int .i64 (Y : Int)]) ∧ Hid (Blk wr w.heap.size 29 #[.slice none 0 0, .slice none 0 0, .slice none 0 0, .bool false]) ∧ Hid (Below w2.heap.size W3 wr)) (fun i _ => nj - (intOf i).toNat)
  case atStart => exact ⟨0, none, 0, Nat.zero_le _, rfl, HS3, HC3, HR3, Lib.hid ((Below.refl W3.heap.size W3).mono (by omega))⟩
  case round =>
    obtain ⟨q, Ae, ce, hq, rfl, HS, HC, HR, HB⟩ := hrel
    obtain ⟨b0, b1, b2, b3, b4, b5, b6, b7⟩ := Blk.eight HC.out
    have f0 := HC.out.frozen
    have hws : w2.heap.size + 1 ≤ wr.heap.size := by have := HC.out.lt; omega
    by_cases hlt : q < nj
    · have q1 : (q : Int) < (nj : Int) := by omega
      have q0 : (0 : Int) ≤ (q : Int) := by omega
      have HOZ : Hid (OwnZ wr (w2.heap.size + 1) (.slice Ae q ce) (List.replicate q (-1))) := Lib.hid HS.out.e
      have HOL : Hid ((List.replicate q (-1 : Int)).length = q) := Lib.hid (by simp)
      have HRW : Hid (∀ x, (Value.slice Ae q ce).ownBlock = some x → w2.heap.size + 1 ≤ x) := Lib.hid (fun x e => (HS.out.lt x (.inl e)).1)
      go_wp2_with (at_builtin; refine wpList_append_lies _ rfl (.tmp 48) (.tmp 49) 27 rfl (w2.heap.size + 1) 3 i1 _ 1 8 Tryz.underlying27 hi1 hy0 hy1 hy2 rfl (by decide) (.slice Ae q ce) q ((List.replicate q (-1)).map (Value.int .i64)) rfl (by have h := World.ownsRow.alloc HOZ.out (.cells #[.int .i64 (-1)] 3); rw [HOL.out] at h; exact h) _ 1 1 [Value.int .i64 (-1)] rfl rfl (cell_new1_at _ _ _ _ rfl) (by intro u hu; rw [List.mem_singleton.1 hu]; rfl) (by omega) (by unfold maxLen; omega) (by omega) (by simp; omega) _ rfl ?_; intro g2 cap2 w5 hown2 hgrow2 hat2 hlt2; have HO2 : Hid (OwnZ w5 (w2.heap.size + 1) (.slice (some ⟨g2, 0, none⟩) (q + 1) cap2) (List.replicate (q + 1) (-1))) := Lib.hid (by rw [List.replicate_succ']; refine OwnZ.snoc ?_; rw [HOL.out]; exact hown2); have HG2 := Lib.hid hgrow2; have HAT2 : Hid (∀ k, (Value.slice (some ⟨g2, 0, none⟩) (q + 1) cap2).ownBlock = some k → (Value.slice Ae q ce).ownBlock = some k ∨ wr.heap.size < k) := Lib.hid (fun k e => by have e2 : g2 = k := Option.some.inj e; subst e2; rcases hat2 with h | h; exact .inl h; right; simp at h; omega); have HC2 := Lib.hid ((HC.out.alloc _).grown HG2.out (fun e => by have := HRW.out _ e.symm; omega)); have HR4 := Lib.hid ((HR.out.alloc _).grown HG2.out (fun e => by have := HRW.out _ e.symm; omega)); have y0 := HC2.out.cell 0; have fy := HC2.out.frozen; clear hown2 hgrow2 hat2)
      have HS5 := Lib.hid (((HS.out.alloc (.cells #[.int .i64 (-1)] 3)).putE HG2.out HO2.out (fun k e => (HAT2.out k e).imp id (fun e => by simp; omega))).setb (a := ⟨w2.heap.size, 0, none⟩) (fun e => by rcases e with e | e | e | e; (rcases HAT2.out _ e with e2 | e2; (have := HRW.out _ e2; dsimp only at this; omega); (dsimp only at e2; omega)); (cases e); (cases e); (cases e)) (.slice (some ⟨g2, 0, none⟩) (q + 1) cap2))
      have HC5 := Lib.hid (HC2.out.set_ 0 (.slice (some ⟨g2, 0, none⟩) (q + 1) cap2))
      have HR5 := Lib.hid (HR4.out.far (p := ⟨w2.heap.size, 0, none⟩) (by dsimp only; omega) (.slice (some ⟨g2, 0, none⟩) (q + 1) cap2))
      have HB5 := Lib.hid ((((HB.out.alloc (by omega) _).grown HG2.out (by simp; omega) (fun k e => by have := HRW.out _ e; omega)).setCell (p := ⟨w2.heap.size, 0, none⟩) (Nat.le_refl _) (.slice (some ⟨g2, 0, none⟩) (q + 1) cap2)))
      go_wp2
      go_roundw
      case rel => exact ⟨q + 1, some ⟨g2, 0, none⟩, cap2, by omega, by go_num, HS5, HC5, HR5, HB5⟩
      case measure => simp [intOf]; omega
    · have q1 : ¬ (q : Int) < (nj : Int) := by omega
      obtain rfl : q = nj := by omega
      go_wp2
      have HP0 : Hid (poOf ts pol = ⟨pol == 1, (X : Int), (Y : Int)⟩) := Lib.hid (by unfold poOf; rw [HXY.out])
      clear b0 b1 b2 b3 b4 b5 b6 b7 f0 q1 hlt
      go_loopw [14] (fun i wr => ∃ t : Nat, ∃ (Ae : Option Addr) (ce : Nat) (At : Option Addr) (ct : Nat) (As : Option Addr) (cs : Nat) (Ak : Option Addr) (ck : Nat) (en tr sw : List Int) (hi : Bool) (wk : List (Nat × Int)) (nx : Nat), t ≤ T ∧ i = .int .i64 (t : Int) ∧ Hid (runM ts js (poOf ts pol) t = ⟨en, tr, sw, hi, wk, nx⟩) ∧ Hid (StM wr (w2.heap.size + 1) (.slice Ae en.length ce) (.slice At tr.length ct) (.slice As sw.length cs) (.slice Ak wk.length ck) ⟨en, tr, sw, hi, wk, nx⟩) ∧ Hid (Blk wr w2.heap.size 92 #[.slice Ae en.length ce, .slice At tr.length ct, .slice As sw.length cs, .bool hi, .slice Ak wk.length ck, .int .i64 (nx : Int), .int .i64 (X : Int), .int .i64 (Y : Int)]) ∧ Hid (Blk wr w.heap.size 29 #[.slice none 0 0, .slice none 0 0, .slice none 0 0, .bool false]) ∧ Hid (Below w2.heap.size W3 wr)) (fun i _ => T - (intOf i).toNat)
      case atStart => exact ⟨0, Ae, ce, none, 0, none, 0, none, 0, List.replicate q (-1), [], [], false, [], 0, Nat.zero_le _, rfl, Lib.hid (by rw [← HLJ.out]; rfl), Lib.hid (by rw [List.length_replicate]; exact HS.out), Lib.hid (by rw [List.length_replicate]; exact HC.out), HR, HB⟩
      case round =>
        obtain ⟨t, Ae, ce, At, ct, As, cs, Ak, ck, en, tr, sw, hi', wk, nx, ht, rfl, HM, HS, HC, HR, HB⟩ := hrel
        obtain ⟨b0, b1, b2, b3, b4, b5, b6, b7⟩ := Blk.eight HC.out
        have f0 := HC.out.frozen
        have hws : w2.heap.size + 1 ≤ wr.heap.size := by have := HC.out.lt; omega
        by_cases hlt : t < T
        · have q1 : (t : Int) < (T : Int) := by omega
          have hI := (run_at (p := poOf ts pol) HBJ.out t).1
          have htr := tr_len (p := poOf ts pol) HBJ.out t
          have hsw := sw_len hI (by omega)
          rw [HM.out] at hI htr hsw
          dsimp only at htr hsw
          have HI := Lib.hid hI
          have HTR : Hid (tr.length ≤ 100000) := Lib.hid (by omega)
          have HSW : Hid (sw.length ≤ 100000) := Lib.hid (by omega)
          have HNX : Hid (tickM ts js ⟨pol == 1, (X : Int), (Y : Int)⟩ (t : Int) ⟨en, tr, sw, hi', wk, nx⟩ = runM ts js (poOf ts pol) (t + 1)) := Lib.hid (by rw [runM, HM.out, HP0.out])
          clear hI htr hsw
          go_wp2_with fail
          refine (sTick_is _ (w2.heap.size + 1) A n c ts Aj q cj js ((HT3.out.below HB.out).more (by omega)) ((HJ3.out.below HB.out).more (by omega)) hws HBJ.out (t : Int) _ _ _ _ _ ⟨en, tr, sw, hi', wk, nx⟩ HS.out HI.out (by omega) (by omega) HTR.out HSW.out (X : Int) (Y : Int) (by omega) (by omega) (by omega) (by omega) pol (pol == 1) rfl).mono ?_
          rw [HNX.out]
          rintro e w5 ⟨ve2, vt2, vs2, vk2, rfl, hS2, hF2⟩
          obtain ⟨⟨en2, tr2, sw2, hi2', wk2, nx2⟩, hs2⟩ : ∃ s2, runM ts js (poOf ts pol) (t + 1) = s2 := ⟨_, rfl⟩
          rw [hs2] at hS2 ⊢
          dsimp only at hS2 ⊢
          have HM2 := Lib.hid hs2
          obtain ⟨Ae2, ce2, rfl⟩ := hS2.e.form
          obtain ⟨At2, ct2, rfl⟩ := hS2.t.form
          obtain ⟨As2, cs2, rfl⟩ := hS2.z.form
          obtain ⟨Ak2, ck2, rfl⟩ := hS2.k.form
          dsimp only at hS2 hF2 ⊢
          have HNB : Hid (¬ RowS (.slice Ae en.length ce) (.slice At tr.length ct) (.slice As sw.length cs) (.slice Ak wk.length ck) w2.heap.size) := Lib.hid (fun e => by have := (HS.out.lt _ e).1; omega)
          have HNB2 : Hid (¬ RowS (.slice Ae2 en2.length ce2) (.slice At2 tr2.length ct2) (.slice As2 sw2.length cs2) (.slice Ak2 wk2.length ck2) w2.heap.size) := Lib.hid (fun e => by have := (hS2.lt _ e).1; omega)
          have HC5 := Lib.hid (HC.out.kp hF2.kp HNB.out)
          have HR5 := Lib.hid (HR.out.kp hF2.kp (fun e => by have := (HS.out.lt _ e).1; omega))
          have HB5 : Hid (Below w2.heap.size W3 w5) := Lib.hid (HB.out.trans (hF2.kp.below (by omega) (fun x e => by have := (HS.out.lt x e).1; omega)))
          have HS5 := Lib.hid hS2
          clear hS2 hF2 hs2 b0 b1 b2 b3 b4 b5 b6 b7 f0
          obtain ⟨b0, b1, b2, b3, b4, b5, b6, b7⟩ := Blk.eight HC5.out
          have f0 := HC5.out.frozen
          unfold stV
          go_wp2
          go_roundw
          case rel => exact ⟨t + 1, Ae2, ce2, At2, ct2, As2, cs2, Ak2, ck2, en2, tr2, sw2, hi2', wk2, nx2, by omega, by go_num, HM2, Lib.hid (HS5.out.fill8 HNB2.out (v0 := .slice Ae2 en2.length ce2) (v1 := .slice At2 tr2.length ct2) (v2 := .slice As2 sw2.length cs2) (v3 := .bool hi2') (v4 := .slice Ak2 wk2.length ck2) (v5 := .int .i64 (nx2 : Int)) (v6 := .int .i64 (X : Int)) (v7 := .int .i64 (Y : Int))), Lib.hid (HC5.out.fill8 (v0 := .slice Ae2 en2.length ce2) (v1 := .slice At2 tr2.length ct2) (v2 := .slice As2 sw2.length cs2) (v3 := .bool hi2') (v4 := .slice Ak2 wk2.length ck2) (v5 := .int .i64 (nx2 : Int)) (v6 := .int .i64 (X : Int)) (v7 := .int .i64 (Y : Int))), Lib.hid (HR5.out.off8 (by omega) (v0 := .slice Ae2 en2.length ce2) (v1 := .slice At2 tr2.length ct2) (v2 := .slice As2 sw2.length cs2) (v3 := .bool hi2') (v4 := .slice Ak2 wk2.length ck2) (v5 := .int .i64 (nx2 : Int)) (v6 := .int .i64 (X : Int)) (v7 := .int .i64 (Y : Int))), Lib.hid (((((((((HB5.out.setCell (p := ⟨w2.heap.size, 0, none⟩) (Nat.le_refl _) _).setCell (p := ⟨w2.heap.size, 1, none⟩) (Nat.le_refl _) _).setCell (p := ⟨w2.heap.size, 2, none⟩) (Nat.le_refl _) _).setCell (p := ⟨w2.heap.size, 3, none⟩) (Nat.le_refl _) _).setCell (p := ⟨w2.heap.size, 4, none⟩) (Nat.le_refl _) _).setCell (p := ⟨w2.heap.size, 5, none⟩) (Nat.le_refl _) _).setCell (p := ⟨w2.heap.size, 6, none⟩) (Nat.le_refl _) _).setCell (p := ⟨w2.heap.size, 7, none⟩) (Nat.le_refl _) _))⟩
          case measure => simp [intOf]; omega
        · have q1 : ¬ (t : Int) < (T : Int) := by omega
          obtain rfl : t = T := by omega
          obtain ⟨r0, r1, r2, r3⟩ := Blk.quad HR.out
          have fr := HR.out.frozen
          go_wp2
          have hZ := (((HR.out.set_ 0 (.slice Ae en.length ce)).set_ 1 (.slice At tr.length ct)).set_ 2 (.slice As sw.length cs)).set_ 3 (.bool hi')
          obtain ⟨z0, z1, z2, z3⟩ := Blk.quad (w := ((((wr.setCell ⟨w.heap.size, 0, none⟩ (.slice Ae en.length ce)).setCell ⟨w.heap.size, 1, none⟩ (.slice At tr.length ct)).setCell ⟨w.heap.size, 2, none⟩ (.slice As sw.length cs)).setCell ⟨w.heap.size, 3, none⟩ (.bool hi'))) hZ
          clear hZ
          refine bodyPost_ret (v := .tuple #[.agg #[.slice Ae en.length ce, .slice At tr.length ct, .slice As sw.length cs, .bool hi'], .bool true]) (by simp [results, Tryz.results14, go_sem, z0, z1, z2, z3]) rfl ?_
          obtain rfl : sF = ⟨en, tr, sw, hi', wk, nx⟩ := by rw [← HEND.out, HM.out]
          have HN : Hid (¬ RowS (.slice Ae en.length ce) (.slice At tr.length ct) (.slice As sw.length cs) (.slice Ak wk.length ck) w.heap.size) := Lib.hid (fun e => by have := (HS.out.lt _ e).1; omega)
          have HSZ := ((((HS.out.setb (a := ⟨w.heap.size, 0, none⟩) HN.out (.slice Ae en.length ce)).setb (a := ⟨w.heap.size, 1, none⟩) HN.out (.slice At tr.length ct)).setb (a := ⟨w.heap.size, 2, none⟩) HN.out (.slice As sw.length cs)).setb (a := ⟨w.heap.size, 3, none⟩) HN.out (.bool hi')).less (B' := w.heap.size) (by omega)
          have HBW : Below w.heap.size w wr := HB3.out.trans (HB.out.mono (by omega))
          exact ⟨Ae, ce, At, ct, As, cs, rfl, HSZ.e, HSZ.t, HSZ.z, HSZ.et, HSZ.es, HSZ.ts, bl_set (bl_set (bl_set (bl_set HBW (by dsimp only; omega) _) (by dsimp only; omega) _) (by dsimp only; omega) _) (by dsimp only; omega) _⟩
end Go.Proofs.YtgponahmkjohiabGreatDoor
