/- Contract of ParseTask of the program: a text that a valid task has is read as that task; every other text is refused. -/
import Derived.Test.YtnhffadebjibnabDoorParseI
namespace Go.Proofs.YtnhffadebjibnabDoor
open Go.RowKit

/-- What parsing a task returns. -/
def PRes (l : List UInt8) (w : World) (e : Ending) (w' : World) : Prop :=
  e = .returned (.tuple #[.agg #[.int .i64 (parsedT l).lo, .int .i64 (parsedT l).hi, .int .i64 (parsedT l).du, .int .i64 (parsedT l).ev, .bool (parsedT l).cr], .bool (okR l)]) ∧ Below w.heap.size w w'

set_option maxRecDepth 100000 in
set_option maxHeartbeats 2000000 in
theorem iParseTask_any (w : World) (l : List UInt8) (hl : l.length ≤ 2000000) (hv : Vars w) :
    Calls Tryd.prog 14 #[str l] w (PRes l w) := by
  have HV := Lib.hid hv
  clear hv
  go_enter Tryd.func14, Tryd.ntmps14
  go_wp2_with fail
  refine (readTask_any _ l hl (HV.out.below (bl_alloc (Below.refl _ _) _))).mono ?_
  rintro e w1 ⟨rfl, hb⟩
  have HB1 := Lib.hid (bl_trans (bl_alloc (Below.refl w.heap.size w) _) hb)
  have bR := Lib.hid ((Blk.new w 24 _).below hb (by simp))
  have s1 : w.heap.size < w1.heap.size := bR.out.lt
  obtain ⟨r, hr⟩ : ∃ r, r = readI l := ⟨_, rfl⟩
  rw [← hr]
  have HR := Lib.hid hr
  obtain ⟨lo, hi, du, ev, cr⟩ := r
  clear hb hr
  dsimp only
  have cR := bR.out.cell
  have fR := bR.out.frozen
  cases hv : validB lo hi du ev cr
  · have ho : okR l = false := by unfold okR; rw [← HR.out]; simp [Tk.ok, hv]
    have HP := Lib.hid (show parsedT l = ⟨0, 0, 0, 0, false⟩ by rw [parsedT, ho]; rfl)
    have HO := Lib.hid ho
    clear ho
    go_wp2_with (go_at_call 15; refine (iTaskValid_any _ _ _ _ _ _).mono ?_; rintro e w' ⟨rfl, rfl⟩)
    have bF := Blk.alloc (Blk.alloc (Blk.set_ ((Blk.set_ ((Blk.set_ ((Blk.set_ ((Blk.set_ (bR.out) 0 (.int .i64 0))) 1 (.int .i64 0))) 2 (.int .i64 0))) 3 (.int .i64 0))) 4 (.bool false)) (.cells #[.int .i64 lo, .int .i64 hi, .int .i64 du, .int .i64 ev, .bool cr] 24)) (.cells #[.int .i64 lo, .int .i64 hi, .int .i64 du, .int .i64 ev, .bool cr] 24)
    have cF := bF.cell
    refine bodyPost_ret (v := .tuple #[.agg #[.int .i64 0, .int .i64 0, .int .i64 0, .int .i64 0, .bool false], .bool false]) (by simp [results, Tryd.results14, go_sem, cF]) rfl ⟨by rw [HP.out, HO.out], bl_alloc (bl_alloc (bl_set (bl_set (bl_set (bl_set (bl_set (HB1.out) (by dsimp only; omega) _) (by dsimp only; omega) _) (by dsimp only; omega) _) (by dsimp only; omega) _) (by dsimp only; omega) _) _) _⟩
  · by_cases he : textL lo hi du ev cr = l
    · have ho : okR l = true := by unfold okR; rw [← HR.out]; simp [Tk.ok, hv, he]
      have HP := Lib.hid (show parsedT l = ⟨lo, hi, du, ev, cr⟩ by rw [parsedT, ho, ← HR.out]; rfl)
      have HO := Lib.hid ho
      clear ho
      go_wp2_with (first
        | (go_at_call 15; refine (iTaskValid_any _ _ _ _ _ _).mono ?_; rintro e w' ⟨rfl, rfl⟩)
        | (go_at_call 13; refine (iFormatTask_any _ _ _ _ _ _).mono ?_; rintro e w2 ⟨rfl, hb⟩
           have HB2 := Lib.hid (bl_trans (bl_alloc (bl_alloc HB1.out _) _) hb)
           have bR2 := Lib.hid ((Blk.alloc (Blk.alloc bR.out _) _).below hb (by simp; omega))
           have s2 : w1.heap.size < w2.heap.size := by have := hb.size; simp at this; omega
           have bT2 := (Blk.alloc (Blk.new w1 24 #[.int .i64 lo, .int .i64 hi, .int .i64 du, .int .i64 ev, .bool cr]) _).below hb (by simp; omega)
           have cT := bT2.cell
           have fT := bT2.frozen
           clear cR fR bT2 hb
           have cR := bR2.out.cell
           have fR := bR2.out.frozen))
      have bF := (Blk.set_ ((Blk.set_ ((Blk.set_ ((Blk.set_ ((Blk.set_ (bR2.out) 0 (.int .i64 lo))) 1 (.int .i64 hi))) 2 (.int .i64 du))) 3 (.int .i64 ev))) 4 (.bool cr))
      have cF := bF.cell
      refine bodyPost_ret (v := .tuple #[.agg #[.int .i64 lo, .int .i64 hi, .int .i64 du, .int .i64 ev, .bool cr], .bool true]) (by simp [results, Tryd.results14, go_sem, cF]) rfl ⟨by rw [HP.out, HO.out], bl_set (bl_set (bl_set (bl_set (bl_set (HB2.out) (by dsimp only; omega) _) (by dsimp only; omega) _) (by dsimp only; omega) _) (by dsimp only; omega) _) (by dsimp only; omega) _⟩
    · have ho : okR l = false := by unfold okR; rw [← HR.out]; simp [Tk.ok, hv, he]
      have HP := Lib.hid (show parsedT l = ⟨0, 0, 0, 0, false⟩ by rw [parsedT, ho]; rfl)
      have HO := Lib.hid ho
      have hq : (textL lo hi du ev cr == l) = false := by simpa using he
      clear ho
      go_wp2_with (first
        | (go_at_call 15; refine (iTaskValid_any _ _ _ _ _ _).mono ?_; rintro e w' ⟨rfl, rfl⟩)
        | (go_at_call 13; refine (iFormatTask_any _ _ _ _ _ _).mono ?_; rintro e w2 ⟨rfl, hb⟩
           have HB2 := Lib.hid (bl_trans (bl_alloc (bl_alloc HB1.out _) _) hb)
           have bR2 := Lib.hid ((Blk.alloc (Blk.alloc bR.out _) _).below hb (by simp; omega))
           have s2 : w1.heap.size < w2.heap.size := by have := hb.size; simp at this; omega
           clear cR fR hb
           have cR := bR2.out.cell
           have fR := bR2.out.frozen))
      have bF := (Blk.set_ ((Blk.set_ ((Blk.set_ ((Blk.set_ ((Blk.set_ (bR2.out) 0 (.int .i64 0))) 1 (.int .i64 0))) 2 (.int .i64 0))) 3 (.int .i64 0))) 4 (.bool false))
      have cF := bF.cell
      refine bodyPost_ret (v := .tuple #[.agg #[.int .i64 0, .int .i64 0, .int .i64 0, .int .i64 0, .bool false], .bool false]) (by simp [results, Tryd.results14, go_sem, cF]) rfl ⟨by rw [HP.out, HO.out], bl_set (bl_set (bl_set (bl_set (bl_set (HB2.out) (by dsimp only; omega) _) (by dsimp only; omega) _) (by dsimp only; omega) _) (by dsimp only; omega) _) (by dsimp only; omega) _⟩

end Go.Proofs.YtnhffadebjibnabDoor
