/- The walk of the law FnDueAt. -/
import Derived.Test.YthoaacgmpmdjnaaM5
import Derived.Test.YthoaacgmpmdjnaaM3
import Derived.Test.YthoaacgmpmdjnaaM4
namespace Go.Proofs.Ythoaacgmpmdjnaa
open Go.RowKit
set_option linter.unusedVariables false

set_option maxRecDepth 100000 in
set_option maxHeartbeats 8000000 in
theorem fnDueAt_walk (w : World) (A : Option Addr) (n c : Nat) (f : Nat → Int) (h : Code w w.heap.size A n c f) :
    Calls Try.prog 6 #[.slice A n c] w fun e w' => e = .returned (.bool true) ∧ Below w.heap.size w w' := by
  have H := Lib.hid h
  have hle := h.le
  have hmax := h.max
  unfold maxLen at hmax
  clear h
  by_cases hn : 1048576 < n
  · go_enter Try.func6, Try.ntmps6
    go_wp2
    go_ret
    exact ⟨rfl, Below.refl _ _⟩
  go_enter Try.func6, Try.ntmps6
  go_wp2_with fail
  refine (dDrawDueAt_any _ A n c f H.out).mono ?_
  rintro e w1 ⟨At, ct, ts, j, rfl, hl, hst, hsmj, ho, hb⟩
  have HB1 := Lib.hid hb
  have hs1 := HB1.out.size
  have HO1 := Lib.hid ho
  have HT1 := Lib.hid ho.reads.2
  clear ho hst
  clear hb H
  obtain ⟨b, d, hd⟩ : ∃ b d, dueJ ts j = (b, d) := ⟨_, _, rfl⟩
  have HD := Lib.hid hd
  obtain ⟨ta, tm, ne⟩ := j
  unfold Jb.val
  have BJ1 := Lib.hid (Blk.new w1 38 #[.int .i64 ta, .int .i64 tm, .int .i64 ne])
  have cJ := BJ1.out.cell
  clear hd
  go_wp2_with fail
  refine (iDueAt_is _ At _ ct ts (tks_to6 HT1.out (by repeat (first | with_reducible exact Below.refl _ _ | with_reducible refine Below.drew ?_ | with_reducible refine bl_drewN ?_ _ | with_reducible refine bl_alloc ?_ _))) (by omega) ⟨ta, tm, ne⟩ b d HD.out).mono ?_
  rintro e w2 ⟨rfl, hb⟩
  have HS2 := Lib.hid (show Below w1.heap.size w1 w2 from bl_trans (by repeat (first | with_reducible exact Below.refl _ _ | with_reducible refine Below.drew ?_ | with_reducible refine bl_drewN ?_ _ | with_reducible refine bl_alloc ?_ _)) hb)
  have HB2 := Lib.hid (bl_trans HB1.out HS2.out)
  have hs2 := HB2.out.size
  have hq2 := HS2.out.size
  have HT2 := Lib.hid (tks_to6 HT1.out HS2.out)
  have BJ2 := Lib.hid (Blk.below BJ1.out (by first | exact HS2.out | exact bl_trans (by repeat (first | with_reducible exact Below.refl _ _ | with_reducible refine Below.drew ?_ | with_reducible refine bl_drewN ?_ _ | with_reducible refine bl_alloc ?_ _)) hb) BJ1.out.lt)
  clear cJ
  have cJ := BJ2.out.cell
  clear hb
  go_wp2_with fail
  refine (sDueAt_is _ At _ ct ts (tks_to6 HT2.out (by repeat (first | with_reducible exact Below.refl _ _ | with_reducible refine Below.drew ?_ | with_reducible refine bl_drewN ?_ _ | with_reducible refine bl_alloc ?_ _))) (by omega) ⟨ta, tm, ne⟩ b d HD.out).mono ?_
  rintro e w3 ⟨rfl, hb⟩
  have HS3 := Lib.hid (show Below w2.heap.size w2 w3 from bl_trans (by repeat (first | with_reducible exact Below.refl _ _ | with_reducible refine Below.drew ?_ | with_reducible refine bl_drewN ?_ _ | with_reducible refine bl_alloc ?_ _)) hb)
  have HB3 := Lib.hid (bl_trans HB2.out HS3.out)
  have hs3 := HB3.out.size
  have hq3 := HS3.out.size
  have HT3 := Lib.hid (tks_to6 HT2.out HS3.out)
  have BJ3 := Lib.hid (Blk.below BJ2.out (by first | exact HS3.out | exact bl_trans (by repeat (first | with_reducible exact Below.refl _ _ | with_reducible refine Below.drew ?_ | with_reducible refine bl_drewN ?_ _ | with_reducible refine bl_alloc ?_ _)) hb) BJ2.out.lt)
  clear cJ
  have cJ := BJ3.out.cell
  clear hb
  cases b
  · obtain rfl : d = 0 := by
      have h1 := HD.out
      unfold dueJ at h1
      split at h1
      · cases h1
      · exact (Prod.mk.inj h1).2.symm
    go_wp2
    go_ret
    exact ⟨rfl, by repeat (first | with_reducible exact HB3.out | refine bl_drewN ?_ _ | refine Below.drew ?_ | refine bl_alloc ?_ _)⟩
  obtain ⟨hset, hjob, hdd⟩ : setB ts = true ∧ jobB ts ⟨ta, tm, ne⟩ = true ∧ tm + (tkOf ts ta).du = d := by
    have h1 := HD.out
    unfold dueJ at h1
    split at h1
    · rename_i h2
      rw [Bool.and_eq_true] at h2
      exact ⟨h2.1, h2.2, (Prod.mk.inj h1).2⟩
    · cases (Prod.mk.inj h1).1
  obtain ⟨h1, h2, h3, h4, h5, h6⟩ := jobB_iff.1 hjob
  obtain ⟨x, t, hx, hxk, ht, htk⟩ := tk_get h1 h2
  dsimp only at hx h1 h2 h3 h4 htk
  subst hx
  rw [htk] at hdd
  have hok : t.ok = true := by
    have h7 := hset; unfold setB at h7; simp at h7
    exact h7.2 t (List.mem_of_getElem? ht)
  have hev : 1 ≤ t.du ∧ t.du ≤ t.ev ∧ t.ev ≤ 20 := by unfold Tk.ok validB at hok; simp at hok; omega
  obtain ⟨b2, d2, hd2⟩ : ∃ b d, dueJ ts ⟨(x : Int), tm + t.ev, ne⟩ = (b, d) := ⟨_, _, rfl⟩
  have HD2 := Lib.hid hd2
  have hd22 : b2 = false ∨ d2 = d + t.ev := by
    unfold dueJ at hd2
    dsimp only at hd2
    rw [htk] at hd2
    split at hd2
    · right
      have := (Prod.mk.inj hd2).2
      omega
    · exact .inl (Prod.mk.inj hd2).1.symm
  have hd0 : d = tm + t.du := hdd.symm
  subst hd0
  have x0 : (0 : Int) ≤ (x : Int) := by omega
  have x1 : (x : Int) < (ts.length : Int) := by omega
  obtain ⟨bt, ot, rfl, hbt, _, _, _, t3, _⟩ := HT3.out.at_ x t ht
  have HTT := Lib.hid ht
  obtain ⟨lo, hi', du, ev, cr⟩ := t
  dsimp only at t3 hev hd22
  have kw : IntKind.i64.wrap (tm + ev) = tm + ev := IntWalk.i64_in _ (by omega)
  clear hset hjob ht htk hok h1 h2 h5 h6 hd2 hdd hxk
  have p0 := (BJ3.out.alloc (.cells #[.int .i64 (x : Int), .int .i64 tm, .int .i64 ne] 38)).cell 0
  have p1 := (BJ3.out.alloc (.cells #[.int .i64 (x : Int), .int .i64 tm, .int .i64 ne] 38)).cell 1
  have p3 := (World.cell?_alloc_lt w3 (.cells #[.int .i64 (x : Int), .int .i64 tm, .int .i64 ne] 38) ⟨bt, ot + x * 5 + 3, none⟩ hbt).trans t3
  have BN3 := Lib.hid (Blk.new w3 38 #[.int .i64 (x : Int), .int .i64 tm, .int .i64 ne])
  have hlJ : w1.heap.size < w3.heap.size := BJ3.out.lt
  have n0 := BN3.out.cell 1
  have nf := BN3.out.frozen 1
  go_wp2
  go_region_held3 (fun W => W.cell? ⟨w1.heap.size, 0, none⟩ = some (.int .i64 (x : Int)) ∧ W.cell? ⟨w1.heap.size, 1, none⟩ = some (.int .i64 tm) ∧ W.cell? ⟨bt, ot + x * 5 + 3, none⟩ = some (.int .i64 ev)) (first | exact ⟨p0, p1, p3⟩ | assumption | (simp [go_sem, *]; done)) (fail)
  have HW4 := Lib.hid (show Below w3.heap.size w3 (w3.alloc (.cells #[.int .i64 (x : Int), .int .i64 (tm + ev), .int .i64 ne] 38)).drew from Below.drew (bl_alloc (Below.refl _ _) _))
  have BJ4 := Lib.hid (BJ3.out.below HW4.out BJ3.out.lt)
  have BN4 : Hid (Blk (w3.alloc (.cells #[.int .i64 (x : Int), .int .i64 (tm + ev), .int .i64 ne] 38)).drew w3.heap.size 38 #[.int .i64 (x : Int), .int .i64 (tm + ev), .int .i64 ne]) := Lib.hid (Blk.new w3 38 #[.int .i64 (x : Int), .int .i64 (tm + ev), .int .i64 ne])
  have HB4 := Lib.hid (bl_trans HB3.out HW4.out)
  have HT4 := Lib.hid (tks_to6 HT3.out HW4.out)
  have hs4 := HW4.out.size
  clear p0 p1 p3 n0 nf cJ
  generalize (w3.alloc (.cells #[.int .i64 (x : Int), .int .i64 (tm + ev), .int .i64 ne] 38)).drew = w4 at *
  have q0 := BN4.out.cell 0
  have q1 := BN4.out.cell 1
  have q2 := BN4.out.cell 2
  go_wp2_with fail
  refine (iDueAt_is _ _ _ ct ts (tks_to6 HT4.out (by repeat (first | with_reducible exact Below.refl _ _ | with_reducible refine Below.drew ?_ | with_reducible refine bl_drewN ?_ _ | with_reducible refine bl_alloc ?_ _))) (by omega) ⟨(x : Int), tm + ev, ne⟩ b2 d2 HD2.out).mono ?_
  rintro e w5 ⟨rfl, hb⟩
  have HS5 := Lib.hid (show Below w4.heap.size w4 w5 from bl_trans (by repeat (first | with_reducible exact Below.refl _ _ | with_reducible refine Below.drew ?_ | with_reducible refine bl_drewN ?_ _ | with_reducible refine bl_alloc ?_ _)) hb)
  have HB5 := Lib.hid (bl_trans HB4.out HS5.out)
  have hs5 := HB5.out.size
  have hq5 := HS5.out.size
  have HT5 := Lib.hid (tks_to6 HT4.out HS5.out)
  have BJ5 := Lib.hid (Blk.below BJ4.out (by first | exact HS5.out | exact bl_trans (by repeat (first | with_reducible exact Below.refl _ _ | with_reducible refine Below.drew ?_ | with_reducible refine bl_drewN ?_ _ | with_reducible refine bl_alloc ?_ _)) hb) BJ4.out.lt)
  have BN5 := Lib.hid (Blk.below BN4.out (by first | exact HS5.out | exact bl_trans (by repeat (first | with_reducible exact Below.refl _ _ | with_reducible refine Below.drew ?_ | with_reducible refine bl_drewN ?_ _ | with_reducible refine bl_alloc ?_ _)) hb) BN4.out.lt)
  clear q0 q1 q2
  clear hb
  have q0 := BN5.out.cell 1
  have q1 := BJ5.out.cell 0
  have q2 := BJ5.out.cell 1
  obtain ⟨_, _, eA, hbt5, _, _, _, t5, _⟩ := HT5.out.at_ x _ HTT.out
  injection eA with eA
  injection eA with eA1 eA2
  subst eA1 eA2
  dsimp only at t5
  have d1 : tm < tm + du := by omega
  have d3 : tm + du ≤ tm + ev := by omega
  clear t3
  cases b2
  · skip
    go_wp2
    go_ret
    exact ⟨rfl, by repeat (first | with_reducible exact HB5.out | refine bl_drewN ?_ _ | refine Below.drew ?_ | refine bl_alloc ?_ _)⟩
  obtain rfl : d2 = tm + du + ev := by
    rcases hd22 with h | h
    · cases h
    · exact h
  have kw3 : IntKind.i64.wrap (tm + du + ev) = tm + du + ev := IntWalk.i64_in _ (by omega)
  go_wp2
  go_ret
  exact ⟨rfl, by repeat (first | with_reducible exact HB5.out | refine bl_drewN ?_ _ | refine Below.drew ?_ | refine bl_alloc ?_ _)⟩

end Go.Proofs.Ythoaacgmpmdjnaa
