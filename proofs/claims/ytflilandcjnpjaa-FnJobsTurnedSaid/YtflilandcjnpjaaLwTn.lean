/- The walk of the law FnJobsTurned. -/
import Derived.Test.YtflilandcjnpjaaM5
import Derived.Test.YtflilandcjnpjaaM3
import Derived.Test.YtflilandcjnpjaaM4
import Derived.Test.YtflilandcjnpjaaM6
namespace Go.Proofs.Ytflilandcjnpjaa
open Go.RowKit
set_option linter.unusedVariables false

set_option maxRecDepth 100000 in
set_option maxHeartbeats 8000000 in
theorem fnJobsTurned_walk (w : World) (A : Option Addr) (n c : Nat) (f : Nat → Int) (h : Code w w.heap.size A n c f) :
    Calls Try.prog 8 #[.slice A n c] w fun e w' => e = .returned (.bool true) ∧ Below w.heap.size w w' := by
  have H := Lib.hid h
  have hle := h.le
  have hmax := h.max
  unfold maxLen at hmax
  clear h
  by_cases hn : 1048576 < n
  · go_enter Try.func8, Try.ntmps8
    go_wp2
    go_ret
    exact ⟨rfl, Below.refl _ _⟩
  go_enter Try.func8, Try.ntmps8
  go_wp2_with fail
  refine (dDrawJobsValid_any _ A n c f H.out).mono ?_
  rintro e w1 ⟨At, ct, ts, gj, cj, js, rfl, hl, hst, hjl, hsj, ho, hj, hb⟩
  have HB1 := Lib.hid hb
  have hs1 := HB1.out.size
  have HO1 := Lib.hid ho
  have HT1 := Lib.hid ho.reads.2
  clear ho hst
  have HOJ1 := Lib.hid hj
  have HJ1 := Lib.hid hj.reads.2
  have hjc := hj.le
  clear hj hsj
  clear hb H
  obtain ⟨b, hb⟩ : ∃ b, jobsB ts js = b := ⟨_, rfl⟩
  have HPB := Lib.hid hb
  by_cases hs : b = false ∨ js.length < 2
  · clear hb
    cases b
    · skip
      go_wp2_with fail
      refine (iJobs_is _ At _ ct ts (tks_to6 HT1.out (by repeat (first | with_reducible exact Below.refl _ _ | with_reducible refine Below.drew ?_ | with_reducible refine bl_drewN ?_ _ | with_reducible refine bl_alloc ?_ _))) (by omega) (some ⟨gj, 0, none⟩) _ cj js (jbs_to HJ1.out (by repeat (first | with_reducible exact Below.refl _ _ | with_reducible refine Below.drew ?_ | with_reducible refine bl_drewN ?_ _ | with_reducible refine bl_alloc ?_ _))) false HPB.out).mono ?_
      rintro e w2 ⟨rfl, hb⟩
      have HS2 := Lib.hid (show Below w1.heap.size w1 w2 from bl_trans (by repeat (first | with_reducible exact Below.refl _ _ | with_reducible refine Below.drew ?_ | with_reducible refine bl_drewN ?_ _ | with_reducible refine bl_alloc ?_ _)) hb)
      have HB2 := Lib.hid (bl_trans HB1.out HS2.out)
      have hs2 := HB2.out.size
      have hq2 := HS2.out.size
      have HT2 := Lib.hid (tks_to6 HT1.out HS2.out)
      have HJ2 := Lib.hid (jbs_to HJ1.out HS2.out)
      clear hb
      go_wp2_with fail
      refine (sJobs_is _ At _ ct ts (tks_to6 HT2.out (by repeat (first | with_reducible exact Below.refl _ _ | with_reducible refine Below.drew ?_ | with_reducible refine bl_drewN ?_ _ | with_reducible refine bl_alloc ?_ _))) (by omega) (some ⟨gj, 0, none⟩) _ cj js (jbs_to HJ2.out (by repeat (first | with_reducible exact Below.refl _ _ | with_reducible refine Below.drew ?_ | with_reducible refine bl_drewN ?_ _ | with_reducible refine bl_alloc ?_ _))) false HPB.out).mono ?_
      rintro e w3 ⟨rfl, hb⟩
      have HS3 := Lib.hid (show Below w2.heap.size w2 w3 from bl_trans (by repeat (first | with_reducible exact Below.refl _ _ | with_reducible refine Below.drew ?_ | with_reducible refine bl_drewN ?_ _ | with_reducible refine bl_alloc ?_ _)) hb)
      have HB3 := Lib.hid (bl_trans HB2.out HS3.out)
      have hs3 := HB3.out.size
      have hq3 := HS3.out.size
      have HT3 := Lib.hid (tks_to6 HT2.out HS3.out)
      have HJ3 := Lib.hid (jbs_to HJ2.out HS3.out)
      clear hb
      go_wp2_with fail
      refine (sJobs_is _ At _ ct ts (tks_to6 HT3.out (by repeat (first | with_reducible exact Below.refl _ _ | with_reducible refine Below.drew ?_ | with_reducible refine bl_drewN ?_ _ | with_reducible refine bl_alloc ?_ _))) (by omega) (some ⟨gj, 0, none⟩) _ cj js (jbs_to HJ3.out (by repeat (first | with_reducible exact Below.refl _ _ | with_reducible refine Below.drew ?_ | with_reducible refine bl_drewN ?_ _ | with_reducible refine bl_alloc ?_ _))) false HPB.out).mono ?_
      rintro e w4 ⟨rfl, hb⟩
      have HS4 := Lib.hid (show Below w3.heap.size w3 w4 from bl_trans (by repeat (first | with_reducible exact Below.refl _ _ | with_reducible refine Below.drew ?_ | with_reducible refine bl_drewN ?_ _ | with_reducible refine bl_alloc ?_ _)) hb)
      have HB4 := Lib.hid (bl_trans HB3.out HS4.out)
      have hs4 := HB4.out.size
      have hq4 := HS4.out.size
      have HT4 := Lib.hid (tks_to6 HT3.out HS4.out)
      have HJ4 := Lib.hid (jbs_to HJ3.out HS4.out)
      clear hb
      go_wp2
      go_ret
      exact ⟨rfl, by repeat (first | with_reducible exact HB4.out | refine bl_drewN ?_ _ | refine Below.drew ?_ | refine bl_alloc ?_ _)⟩
    · have h2 : (js.length : Int) < 2 := by rcases hs with h | h; cases h; omega
      clear hs
      go_wp2_with fail
      refine (iJobs_is _ At _ ct ts (tks_to6 HT1.out (by repeat (first | with_reducible exact Below.refl _ _ | with_reducible refine Below.drew ?_ | with_reducible refine bl_drewN ?_ _ | with_reducible refine bl_alloc ?_ _))) (by omega) (some ⟨gj, 0, none⟩) _ cj js (jbs_to HJ1.out (by repeat (first | with_reducible exact Below.refl _ _ | with_reducible refine Below.drew ?_ | with_reducible refine bl_drewN ?_ _ | with_reducible refine bl_alloc ?_ _))) true HPB.out).mono ?_
      rintro e w2 ⟨rfl, hb⟩
      have HS2 := Lib.hid (show Below w1.heap.size w1 w2 from bl_trans (by repeat (first | with_reducible exact Below.refl _ _ | with_reducible refine Below.drew ?_ | with_reducible refine bl_drewN ?_ _ | with_reducible refine bl_alloc ?_ _)) hb)
      have HB2 := Lib.hid (bl_trans HB1.out HS2.out)
      have hs2 := HB2.out.size
      have hq2 := HS2.out.size
      have HT2 := Lib.hid (tks_to6 HT1.out HS2.out)
      have HJ2 := Lib.hid (jbs_to HJ1.out HS2.out)
      clear hb
      go_wp2_with fail
      refine (sJobs_is _ At _ ct ts (tks_to6 HT2.out (by repeat (first | with_reducible exact Below.refl _ _ | with_reducible refine Below.drew ?_ | with_reducible refine bl_drewN ?_ _ | with_reducible refine bl_alloc ?_ _))) (by omega) (some ⟨gj, 0, none⟩) _ cj js (jbs_to HJ2.out (by repeat (first | with_reducible exact Below.refl _ _ | with_reducible refine Below.drew ?_ | with_reducible refine bl_drewN ?_ _ | with_reducible refine bl_alloc ?_ _))) true HPB.out).mono ?_
      rintro e w3 ⟨rfl, hb⟩
      have HS3 := Lib.hid (show Below w2.heap.size w2 w3 from bl_trans (by repeat (first | with_reducible exact Below.refl _ _ | with_reducible refine Below.drew ?_ | with_reducible refine bl_drewN ?_ _ | with_reducible refine bl_alloc ?_ _)) hb)
      have HB3 := Lib.hid (bl_trans HB2.out HS3.out)
      have hs3 := HB3.out.size
      have hq3 := HS3.out.size
      have HT3 := Lib.hid (tks_to6 HT2.out HS3.out)
      have HJ3 := Lib.hid (jbs_to HJ2.out HS3.out)
      clear hb
      go_wp2_with fail
      refine (sJobs_is _ At _ ct ts (tks_to6 HT3.out (by repeat (first | with_reducible exact Below.refl _ _ | with_reducible refine Below.drew ?_ | with_reducible refine bl_drewN ?_ _ | with_reducible refine bl_alloc ?_ _))) (by omega) (some ⟨gj, 0, none⟩) _ cj js (jbs_to HJ3.out (by repeat (first | with_reducible exact Below.refl _ _ | with_reducible refine Below.drew ?_ | with_reducible refine bl_drewN ?_ _ | with_reducible refine bl_alloc ?_ _))) true HPB.out).mono ?_
      rintro e w4 ⟨rfl, hb⟩
      have HS4 := Lib.hid (show Below w3.heap.size w3 w4 from bl_trans (by repeat (first | with_reducible exact Below.refl _ _ | with_reducible refine Below.drew ?_ | with_reducible refine bl_drewN ?_ _ | with_reducible refine bl_alloc ?_ _)) hb)
      have HB4 := Lib.hid (bl_trans HB3.out HS4.out)
      have hs4 := HB4.out.size
      have hq4 := HS4.out.size
      have HT4 := Lib.hid (tks_to6 HT3.out HS4.out)
      have HJ4 := Lib.hid (jbs_to HJ3.out HS4.out)
      clear hb
      go_wp2
      go_ret
      exact ⟨rfl, by repeat (first | with_reducible exact HB4.out | refine bl_drewN ?_ _ | refine Below.drew ?_ | refine bl_alloc ?_ _)⟩
  obtain ⟨rfl, h2⟩ : b = true ∧ 2 ≤ js.length := by
    cases b
    · exact absurd (.inl rfl) hs
    · exact ⟨rfl, by omega⟩
  have d2 : ¬ (js.length : Int) < 2 := by omega
  clear hs hb
  obtain ⟨a0, a1, r, rfl⟩ : ∃ a0 a1 r, js = a0 :: a1 :: r := by
    rcases js with _ | ⟨a0, _ | ⟨a1, r⟩⟩
    · simp at h2
    · simp at h2
    · exact ⟨a0, a1, r, rfl⟩
  have HBAD := Lib.hid (turn_bad HPB.out)
  obtain ⟨js, hjs⟩ : ∃ js, js = a0 :: a1 :: r := ⟨_, rfl⟩
  have HJS := Lib.hid hjs
  rw [← hjs] at HOJ1 HJ1 HPB hjc h2 d2 hjl
  rw [← hjs]
  clear hjs
  obtain ⟨i0, hi0, hz0, hz1, hz2⟩ := info_parts info_job
  have hgj := HOJ1.out.cells_
  go_wp2_with fail
  refine (iJobs_is _ At _ ct ts (tks_to6 HT1.out (by repeat (first | with_reducible exact Below.refl _ _ | with_reducible refine Below.drew ?_ | with_reducible refine bl_drewN ?_ _ | with_reducible refine bl_alloc ?_ _))) (by omega) (some ⟨gj, 0, none⟩) _ cj js (jbs_to HJ1.out (by repeat (first | with_reducible exact Below.refl _ _ | with_reducible refine Below.drew ?_ | with_reducible refine bl_drewN ?_ _ | with_reducible refine bl_alloc ?_ _))) true HPB.out).mono ?_
  rintro e w2 ⟨rfl, hb⟩
  have HS2 := Lib.hid (show Below w1.heap.size w1 w2 from bl_trans (by repeat (first | with_reducible exact Below.refl _ _ | with_reducible refine Below.drew ?_ | with_reducible refine bl_drewN ?_ _ | with_reducible refine bl_alloc ?_ _)) hb)
  have HB2 := Lib.hid (bl_trans HB1.out HS2.out)
  have hs2 := HB2.out.size
  have hq2 := HS2.out.size
  have HT2 := Lib.hid (tks_to6 HT1.out HS2.out)
  have HJ2 := Lib.hid (jbs_to HJ1.out HS2.out)
  clear hb
  go_wp2_with fail
  refine (sJobs_is _ At _ ct ts (tks_to6 HT2.out (by repeat (first | with_reducible exact Below.refl _ _ | with_reducible refine Below.drew ?_ | with_reducible refine bl_drewN ?_ _ | with_reducible refine bl_alloc ?_ _))) (by omega) (some ⟨gj, 0, none⟩) _ cj js (jbs_to HJ2.out (by repeat (first | with_reducible exact Below.refl _ _ | with_reducible refine Below.drew ?_ | with_reducible refine bl_drewN ?_ _ | with_reducible refine bl_alloc ?_ _))) true HPB.out).mono ?_
  rintro e w3 ⟨rfl, hb⟩
  have HS3 := Lib.hid (show Below w2.heap.size w2 w3 from bl_trans (by repeat (first | with_reducible exact Below.refl _ _ | with_reducible refine Below.drew ?_ | with_reducible refine bl_drewN ?_ _ | with_reducible refine bl_alloc ?_ _)) hb)
  have HB3 := Lib.hid (bl_trans HB2.out HS3.out)
  have hs3 := HB3.out.size
  have hq3 := HS3.out.size
  have HT3 := Lib.hid (tks_to6 HT2.out HS3.out)
  have HJ3 := Lib.hid (jbs_to HJ2.out HS3.out)
  clear hb
  have hgl3 : gj < w3.heap.size := by omega
  have HN := Lib.hid (show ∀ j u, (js.flatMap Jb.cells)[j]? = some u → (w3.alloc (.cells #[] 38)).cell? ((⟨gj, 0, none⟩ : Addr).add j) = some u from fun j u hu => by
    have h1 := HJ3.out.cells3 j u hu
    rw [addr_add3] at *
    exact (World.cell?_alloc_lt w3 _ ⟨gj, 0 + j, none⟩ hgl3).trans h1)
  have HCL := Lib.hid (show (js.flatMap Jb.cells).length = js.length * 3 from jcells_length _)
  go_wp2_with (at_builtin; refine wpList_append_own _ rfl (.tmp 37) (.tmp 38) 26 rfl w3.heap.size 38 i0 _ 3 24 Try.underlying26 hi0 hz0 hz1 hz2 rfl (by decide) (.slice (some ⟨w3.heap.size, 0, none⟩) 0 0) 0 [] rfl (by exact OwnJ.empty w3) ⟨gj, 0, none⟩ js.length cj (js.flatMap Jb.cells) rfl HCL.out HN.out (by intro u hu; exact jcells_one js u hu) (by unfold maxLen; omega) (by omega) (by simp) ?_; intro v4 w4 hown4 hgrow4 _; have HXO : Hid (OwnJ w4 w3.heap.size v4 js) := Lib.hid (by have hh := hown4; rw [Nat.zero_add, List.nil_append] at hh; exact hh); have HS4 := Lib.hid (show Below w3.heap.size w3 w4 from (bl_alloc (Below.refl w3.heap.size w3) (.cells #[] 38)).grown hgrow4 (by simp) (fun q e => by have e2 : some w3.heap.size = some q := e; injection e2 with e2; omega)); obtain ⟨gx, cx, e4⟩ := HXO.out.some_ (by omega); subst e4; obtain ⟨hgxB, hgxl⟩ := World.ownsRow.lt HXO.out gx rfl; obtain ⟨_, _, x0, x1, x2⟩ := ownJ_get HXO.out (k := 0) (j := a0) (by rw [HJS.out]; rfl); obtain ⟨_, _, x3, x4, x5⟩ := ownJ_get HXO.out (k := 1) (j := a1) (by rw [HJS.out]; rfl); obtain ⟨_, y0, y1, y2⟩ := (jbs_to HJ3.out HS4.out).get (i := 0) (j := a0) (by rw [HJS.out]; rfl); obtain ⟨_, y3, y4, y5⟩ := (jbs_to HJ3.out HS4.out).get (i := 1) (j := a1) (by rw [HJS.out]; rfl); simp only [Nat.zero_add, Nat.zero_mul, Nat.one_mul, Nat.reduceAdd] at x0 x1 x2 x3 x4 x5 y0 y1 y2 y3 y4 y5; obtain ⟨_, _, cur4, hcur4, _⟩ := jown_block HXO.out; have hfz := fun i => Blk.frozen (w := w4) (g := gx) (cs := cur4) hcur4 i; clear hown4 hgrow4 hcur4; have hne1 : gx ≠ gj := (by omega); have hne2 : gj ≠ gx := (by omega); have m1 : (1 : Int) < (js.length : Int) := (by omega); have m0 : (0 : Int) < (js.length : Int) := (by omega); have m1n : 1 < js.length := (by omega); have m0n : 0 < js.length := (by omega))

  have HX7 := Lib.hid (OwnJ.put3 (OwnJ.put3 HXO.out 0 a1 (by omega)) 1 a0 (by simp; omega))
  have HXE := Lib.hid (show ((js.set 0 a1).set 1 a0) = a1 :: a0 :: r by rw [HJS.out]; rfl)
  rw [HXE.out] at HX7
  have hlx : (a1 :: a0 :: r).length = js.length := by rw [HJS.out]; rfl
  have HLX := Lib.hid hlx
  clear hlx
  go_wp2_with fail
  have HB5 := Lib.hid (show Below w.heap.size w _ from bl_trans HB3.out HS4.out)
  have HX8 := Lib.hid (HX7.out.reads.2)
  refine (iJobs_is _ At _ ct ts (tks_to6 (w1 := w3) HT3.out (by repeat (first | with_reducible exact HS4.out | refine bl_set ?_ (by dsimp only; omega) _))) (by omega) (some ⟨gx, 0, none⟩) js.length cx (a1 :: a0 :: r) (by exact HX8.out) false HBAD.out).mono ?_
  rintro e w9 ⟨rfl, hb9⟩
  have HB9 := Lib.hid (show Below w.heap.size w w9 from bl_trans (by repeat (first | with_reducible exact HB5.out | refine bl_set ?_ (by dsimp only; omega) _)) hb9)
  clear hb9
  go_wp2
  go_ret
  exact ⟨rfl, HB9.out⟩

end Go.Proofs.Ytflilandcjnpjaa
