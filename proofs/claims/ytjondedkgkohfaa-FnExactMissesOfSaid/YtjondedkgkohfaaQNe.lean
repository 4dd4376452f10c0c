/- Contracts of the program's haveText, NeedOf, DueAt and HighJobs. Nothing that was there is written. -/
import Derived.Test.YtjondedkgkohfaaQVal
import Derived.Test.YtjondedkgkohfaaSNe
import Derived.Test.YtjondedkgkohfaaHiI
namespace Go.Proofs.Ytjondedkgkohfaa
open Go.RowKit
set_option linter.unusedVariables false

set_option maxHeartbeats 2000000 in
theorem iDueAt_is (w : World) (A : Option Addr) (n c : Nat) (ts : List Tk) (h : Tks w w.heap.size A n ts) (hn : n ≤ 1048576) (j : Jb) (b : Bool) (z : Int) (hz : dueJ ts j = (b, z)) :
    Calls Try.prog 21 #[.slice A n c, j.val] w (DueRes z b w) := by
  have H := Lib.hid h
  have HL := Lib.hid h.len
  clear h
  cases hs : isB ts j
  · obtain ⟨rfl, rfl⟩ : false = b ∧ 0 = z := Prod.mk.inj (by rw [← hz]; unfold isB at hs; unfold dueJ; rw [hs]; rfl)
    have HS := Lib.hid hs
    clear hs hz
    unfold Jb.val
    obtain ⟨ta, tm, ne⟩ := j
    dsimp only
    have cJ := (Blk.new w 35 #[.int .i64 ta, .int .i64 tm, .int .i64 ne]).cell
    go_enter Try.func21, Try.ntmps21
    go_wp2_with fail
    refine (iIsOf_is _ A n c ts ((H.out.below (bl_alloc (Below.refl w.heap.size w) _)).more (by simp)) hn ⟨ta, tm, ne⟩ false HS.out).mono ?_
    rintro e w1 ⟨rfl, hb⟩
    have HB1 := Lib.hid (show Below w.heap.size w w1 from bl_trans (bl_alloc (Below.refl w.heap.size w) _) hb)
    clear hb
    go_wp2
    go_ret2
    exact ⟨rfl, HB1.out⟩
  obtain ⟨rfl, hz'⟩ : true = b ∧ j.tm + (tkOf ts j.ta).du = z := Prod.mk.inj (by rw [← hz]; unfold isB at hs; unfold dueJ; rw [hs]; rfl)
  have HS := Lib.hid hs
  clear hz
  unfold isB at hs
  rw [Bool.and_eq_true] at hs
  obtain ⟨h1, h2, h3, h4, h5, h6⟩ := jobB_iff.1 hs.2
  obtain ⟨k, t, hk, hkl, ht, htk⟩ := tk_get h1 h2
  obtain ⟨ta, tm, ne⟩ := j
  dsimp only at hk hz' h3 h4
  subst hk
  rw [htk] at hz'
  have hok : t.ok = true := by
    have := hs.1; unfold setB at this; simp at this
    exact this.2 t (List.mem_of_getElem? ht)
  have hdu : 0 ≤ t.du ∧ t.du ≤ 20 := by unfold Tk.ok validB at hok; simp at hok; omega
  have HT := Lib.hid ht
  have i1 : (0 : Int) ≤ (k : Int) := by omega
  have i2 : (k : Int) < (n : Int) := by have := HL.out; omega
  have wr : IntKind.i64.wrap (tm + t.du) = tm + t.du := IntWalk.i64_in _ (by omega)
  have HZ := Lib.hid hz'
  clear ht htk hok h5 h6 h1 h2 hs hz'
  unfold Jb.val
  dsimp only
  have cJ := (Blk.new w 35 #[.int .i64 (k : Int), .int .i64 tm, .int .i64 ne]).cell
  go_enter Try.func21, Try.ntmps21
  go_wp2_with fail
  refine (iIsOf_is _ A n c ts ((H.out.below (bl_alloc (Below.refl w.heap.size w) _)).more (by simp)) hn ⟨(k : Int), tm, ne⟩ true HS.out).mono ?_
  rintro e w1 ⟨rfl, hb⟩
  have HB1 := Lib.hid (show Below w.heap.size w w1 from bl_trans (bl_alloc (Below.refl w.heap.size w) _) hb)
  have BJ := Lib.hid ((Blk.new w 35 #[.int .i64 (k : Int), .int .i64 tm, .int .i64 ne]).below hb (by simp))
  clear hb cJ
  have cJ := BJ.out.cell
  obtain ⟨bb, o, rfl, hbl, c0, c1, c2, c3, c4⟩ := (H.out.below HB1.out).at_ k t HT.out
  obtain ⟨lo, hi, du, ev, cr⟩ := t
  dsimp only at c2 hdu wr HZ
  obtain rfl := HZ.out
  go_wp2
  (try (go_quiet (fail); go_wp2))
  go_ret2
  exact ⟨rfl, (by repeat (first | exact HB1.out | refine bl_drewN ?_ _ | refine Below.drew ?_ | refine bl_alloc ?_ _))⟩

end Go.Proofs.Ytjondedkgkohfaa
