/- Contract of the program's keepDistance. Nothing that was there is written. -/
import Derived.Test.YtjondedkgkohfaaJb
import Derived.Test.YtjondedkgkohfaaJbD
import Derived.Test.YtjondedkgkohfaaSJa
import Derived.LoopTactic
import Derived.Deep.RegionHeld3
namespace Go.Proofs.Ytjondedkgkohfaa
open Go.RowKit
set_option linter.unusedVariables false

theorem earl_zero (ts : List Tk) : (#[.int .i64 0, .int .i64 0, .int .i64 0, .int .i64 0, .int .i64 0] : Array Value) = (earlV ts []).toArray := by rfl
set_option maxHeartbeats 2000000 in
theorem iKeep_is (w : World) (A : Option Addr) (n c : Nat) (ts : List Tk) (h : Tks w w.heap.size A n ts) (A2 : Option Addr) (m c2 : Nat) (js : List Jb) (h2 : Jbs w w.heap.size A2 m js) (hm : m ≤ 60) (hs : setB ts = true) (hq : seqB ts js = true) (b : Bool) (hb : pairB ts js = b) :
    Calls Try.prog 78 #[.slice A n c, .slice A2 m c2] w (BRes b w) := by
  have H := Lib.hid h
  have HL := Lib.hid h.len
  have J := Lib.hid h2
  have HM := Lib.hid h2.len
  have HS := Lib.hid hs
  have HQ := Lib.hid hq
  have HR := Lib.hid hb
  have hn5 : n ≤ 5 := by have := setB_len hs; rw [h.len] at this; exact this
  clear h h2 hs hq hb
  go_enter Try.func78, Try.ntmps78
  go_wp2
  go_loopw [10] (fun i wr => ∃ k : Nat, k ≤ m ∧ i = .int .i64 k ∧ Hid (pairB ts (js.take k) = true) ∧ Hid (Blk wr w.heap.size 113 (earlV ts (js.take k)).toArray) ∧ Hid (Below w.heap.size w wr)) (fun i _ => m - (intOf i).toNat)
  case atStart => exact ⟨0, Nat.zero_le _, rfl, Lib.hid rfl, Lib.hid (by rw [List.take_zero, ← earl_zero]; exact Blk.new w _ _), Lib.hid (bl_alloc (Below.refl _ _) _)⟩
  case round =>
    obtain ⟨k, hk, rfl, HP, BQ, HB⟩ := hrel
    by_cases hlt : k < m
    · have i2 : (k : Int) < (m : Int) := by omega
      obtain ⟨j, hj⟩ : ∃ j, js[k]? = some j := ⟨js[k]'(by rw [HM.out]; exact hlt), List.getElem?_eq_getElem _⟩
      obtain ⟨bj, oj, rfl, hbj, a0, a1, a2⟩ := (J.out.below HB.out).at_ k j hj
      have hjb : jobB ts j = true := List.all_eq_true.1 (seq_parts.1 HQ.out).1 j (List.mem_of_getElem? hj)
      obtain ⟨b1, b2, b3, b4, b5, b6⟩ := jobB_iff.1 hjb
      have hds := dist_step HS.out HQ.out hj HP.out
      have hrg := earl_range (js := js.take k) HS.out (seq_parts.1 (seq_take k HQ.out)).1 b1 b2
      obtain ⟨ta, tm, ne⟩ := j
      dsimp only at a0 a1 a2 b1 b2 b3 b4 b5 b6 hds hrg
      obtain ⟨x, t, rfl, hx, ht, htk⟩ := tk_get b1 b2
      have hx5 : x < 5 := by have := HL.out; omega
      have hxn : (x : Int) < (n : Int) := by have := HL.out; omega
      have x0 : (0 : Int) ≤ (x : Int) := by omega
      have x5 : (x : Int) < 5 := by omega
      have hok : t.ok = true := by
        have := HS.out; unfold setB at this; simp at this
        exact this.2 t (List.mem_of_getElem? ht)
      have hev : 1 ≤ t.ev ∧ t.ev ≤ 20 := by unfold Tk.ok validB at hok; simp at hok; omega
      obtain ⟨bt, ot, rfl, hbt, _, _, _, t3, _⟩ := (H.out.below HB.out).at_ x t ht
      have hbt4 : bt < wr.heap.size := by have := HB.out.size; omega
      have hwl := BQ.out.lt
      have HST := Lib.hid (fun z (hz : tm + t.ev = z) => earl_set (ts := ts) (js := js.take k) (j := ⟨(x : Int), tm, ne⟩) (z := z) hx5 rfl (by rw [htk]; exact hz))
      have HTAKE := Lib.hid (show js.take (k + 1) = js.take k ++ [⟨(x : Int), tm, ne⟩] by rw [List.take_add_one, hj]; rfl)
      have hC := (BQ.out.cell x).trans (earl_get hx5)
      clear hj hjb ht htk hok b2 b5 b6
      obtain ⟨ea, hea⟩ : ∃ z, earlAt ts (js.take k) (x : Int) = z := ⟨_, rfl⟩
      rw [hea] at hC hds hrg
      clear hea
      obtain ⟨lo, hi', du, ev, cr⟩ := t
      dsimp only at t3 hev HST
      have BQ4 := Lib.hid (show Blk (wr.alloc (.cells #[.int .i64 (x : Int), .int .i64 tm, .int .i64 ne] 35)) w.heap.size 113 (earlV ts (js.take k)).toArray from BQ.out.alloc _)
      have BJ4 := Lib.hid (Blk.new wr 35 #[.int .i64 (x : Int), .int .i64 tm, .int .i64 ne])
      have HB4 := Lib.hid (show Below w.heap.size w (wr.alloc (.cells #[.int .i64 (x : Int), .int .i64 tm, .int .i64 ne] 35)) from bl_alloc HB.out _)
      have s0 := BJ4.out.cell 0
      have s1 := BJ4.out.cell 1
      have s2 := BJ4.out.cell 2
      have s3 : (wr.alloc (.cells #[.int .i64 (x : Int), .int .i64 tm, .int .i64 ne] 35)).cell? ⟨w.heap.size, x, none⟩ = some (.int .i64 ea) := (World.cell?_alloc_lt wr _ ⟨w.heap.size, x, none⟩ hwl).trans hC
      have s4 : (wr.alloc (.cells #[.int .i64 (x : Int), .int .i64 tm, .int .i64 ne] 35)).cell? ⟨bt, ot + x * 5 + 3, none⟩ = some (.int .i64 ev) := (World.cell?_alloc_lt wr _ ⟨bt, ot + x * 5 + 3, none⟩ hbt4).trans t3
      have HDS := Lib.hid hds
      have kw : IntKind.i64.wrap (tm + ev) = tm + ev := IntWalk.i64_in _ (by omega)
      clear hds hC t3
      by_cases hd : tm < ea
      · obtain rfl : b = false := by
          rw [← HR.out]
          refine dist_bad (k + 1) ?_
          rw [HDS.out]
          exact decide_eq_false (by omega)
        have hd' := decide_eq_true hd
        go_wp2
        go_quiet (fail)
        go_wp2
        go_ret
        exact ⟨rfl, (by repeat (first | with_reducible exact HB4.out | with_reducible refine Below.drew ?_ | with_reducible refine bl_drewN ?_ _ | with_reducible refine bl_alloc ?_ _))⟩
      · have HPN : Hid (pairB ts (js.take (k + 1)) = true) := Lib.hid (by rw [HDS.out]; exact decide_eq_true (by omega))
        have hd' := decide_eq_false hd
        go_wp2
        go_quiet (fail)
        go_wp2
        have fx := BQ4.out.frozen x
        have hsz4 : w.heap.size < (wr.alloc (.cells #[.int .i64 (x : Int), .int .i64 tm, .int .i64 ne] 35)).heap.size := BQ4.out.lt
        go_region_held3 (fun W => W.cell? ⟨wr.heap.size, 0, none⟩ = some (.int .i64 (x : Int)) ∧ W.cell? ⟨wr.heap.size, 1, none⟩ = some (.int .i64 tm) ∧ W.cell? ⟨bt, ot + x * 5 + 3, none⟩ = some (.int .i64 ev)) (first | exact ⟨s0, s1, s4⟩ | assumption | (simp [go_sem, *]; done)) (fail)
        go_wp2
        go_roundw
        case rel => exact ⟨k + 1, by omega, by go_num, HPN, Lib.hid (by rw [HTAKE.out, ← HST.out _ rfl]; exact (by repeat (first | with_reducible exact BQ4.out | refine Blk.drewN ?_ _ | refine Blk.drew ?_) : Blk _ w.heap.size 113 (earlV ts (js.take k)).toArray).set_ x _), Lib.hid (bl_set (by repeat (first | with_reducible exact HB4.out | with_reducible refine Below.drew ?_ | with_reducible refine bl_drewN ?_ _ | with_reducible refine bl_alloc ?_ _)) (by dsimp only; omega) _)⟩
        case measure => simp [intOf]; omega
    · obtain rfl : k = m := by omega
      obtain rfl : true = b := by
        rw [← HR.out, ← HP.out, List.take_of_length_le (by rw [HM.out]; omega)]
      go_wp2
      go_ret
      exact ⟨rfl, HB.out⟩

end Go.Proofs.Ytjondedkgkohfaa
